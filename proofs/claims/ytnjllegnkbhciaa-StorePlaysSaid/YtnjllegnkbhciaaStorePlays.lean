/- StorePlays holds: of every script each message. For all scripts. -/
import Derived.Test.YtnjllegnkbhciaaStL
import Derived.Test.YtnjllegnkbhciaaOpen
import Derived.Test.YtnjllegnkbhciaaActs4O
import Derived.RegionTactic
import Derived.Deep.RegionWith
import Derived.Deep.RegionLaw
import Derived.Deep.CutBlock
namespace Go.Proofs.Ytnjllegnkbhciaa
open Go.ChangeShapes Go.WideShapes Go.ChangeAt Go.RowKit

set_option maxRecDepth 100000 in
set_option maxHeartbeats 2000000 in
theorem walk_storePlays (N : Nat) (f : Nat → A4) (v : Value) (w : World) (s : InA4 w v N f) :
    Calls Try.prog 3 #[v] w fun e w' => e = .returned (.bool true) ∧ Below w.heap.size w w' := by
  obtain ⟨A, c, rfl, v1, v2, v3⟩ := s.at_
  have hS := s.sees
  unfold maxLen at v2
  by_cases call : N ≤ 200
  case neg =>
    clear v3 s hS
    have d1 : decide ((200 : Int) < ((N : Nat) : Int)) = true := decide_eq_true (by omega)
    go_enter Try.func3, Try.ntmps3
    go_wp2
    go_ret
    exact ⟨rfl, Below.refl _ _⟩
  have d1 : decide ((200 : Int) < ((N : Nat) : Int)) = false := decide_eq_false (by omega)
  have HF : Hid (0 < N → ∃ b off, A = some ⟨b, off, none⟩ ∧ ∀ W, Below w.heap.size w W → ∀ k, k < N → A4At W b (off + k * 4) (f k)) := Lib.hid fun h0 => by
    obtain ⟨b, off, hA, hb, hc⟩ := v3 h0
    exact ⟨b, off, hA, fun W hW k hk => ⟨(hW.cell hb).trans (hc k hk).c0, (hW.cell hb).trans (hc k hk).c1, (hW.cell hb).trans (hc k hk).c2, (hW.cell hb).trans (hc k hk).c3⟩⟩
  have HS := Lib.hid hS
  clear v3 s hS
  go_enter Try.func3, Try.ntmps3
  go_wp2_with fail
  refine (new_st _).mono ?_
  rintro _ w1 ⟨g, rfl, hg, h1, b1⟩
  go_wp2_with fail
  refine (new_rf _).mono ?_
  rintro _ w2 ⟨g', rfl, hg', h2, b2⟩
  have hgl := SAt.lt (h1 [])
  have hne : g ≠ g' := by omega
  have hg2 : w.heap.size ≤ g' := by have := b1.size; omega
  have h : CAt [g, g'] w2 g MS.new := SAt.below (h1 [g, g']) b2
  have h' : RAt [g, g'] w2 g' MS.new := h2 [g, g']
  have b := b1.trans (b2.mono b1.size)
  have hFF : ∀ W : World, g < W.heap.size → g' < W.heap.size → ∀ f, f ∈ [g, g'] → f < W.heap.size := fun W a1 a2 f hf => by
    rcases List.mem_cons.1 hf with rfl | hf
    · exact a1
    · rw [List.mem_singleton.1 hf]; exact a2
  clear b1 b2 h1 h2 hgl hg' 
  go_wp2_with fail
  go_loopw [5] (fun i wr => ∃ (k : Nat) (s : MS), k ≤ N ∧ i = .int .i64 k ∧ CAt [g, g'] wr g s ∧ RAt [g, g'] wr g' s ∧ Below w.heap.size w wr) (fun i _ => N - (intOf i).toNat)
  case atStart => exact ⟨0, _, by omega, rfl, h, h', b⟩
  case round =>
    clear h h' b
    obtain ⟨k, s, hk, rfl, h, h', b⟩ := hrel
    by_cases hlt : k < N
    case neg =>
      have r1 : decide ((k : Int) < (N : Int)) = false := decide_eq_false (by omega)
      go_wp2_with fail
      refine (known_st _).mono ?_
      rintro _ wk ⟨rfl, bk⟩
      replace bk := b.trans (bk.mono b.size)
      go_wp2
      go_ret
      exact ⟨rfl, bk⟩
    have r1 : decide ((k : Int) < (N : Int)) = true := decide_eq_true (by omega)
    obtain ⟨bl, off, rfl, HG⟩ := HF.out (by omega)
    have HX := Lib.hid (fun W hW => HG W hW k hlt)
    clear HF HG
    obtain ⟨hv, hl⟩ := HS.out k hlt
    generalize f k = q at *
    obtain ⟨x0, x1, x2, x3⟩ := HX.out _ b
    by_cases h100 : q.l.length ≤ 100
    case neg =>
      have r2 : decide ((100 : Int) < ((q.l.length : Nat) : Int)) = true := decide_eq_true (by omega)
      clear hv hl HX
      go_wp2
      go_ret
      exact ⟨rfl, b⟩
    have r2 : decide ((100 : Int) < ((q.l.length : Nat) : Int)) = false := decide_eq_false (by omega)
    by_cases p1 : q.k = 1
    · have z1 : (q.k == 1) = true := by rw [beq_iff_eq]; omega
      obtain ⟨u0, u1, u2, u3⟩ := HX.out _ (b.alloc b.size (.cells #[] 5))
      go_wp2_with fail
      go_cut [] from 40 to 107 (fun W => CAt [g, g'] W g (s.put q.n q.l) ∧ RAt [g, g'] W g' s ∧ Below w.heap.size w W)
      case first =>
        go_region_held3 (fun W => W.cell? ⟨bl, off + k * 4 + 1, none⟩ = some (.int .i64 q.n) ∧ W.cell? ⟨bl, off + k * 4 + 2, none⟩ = some (.slice q.A q.l.length q.c)) ((first | exact ⟨x1, x2⟩ | exact ⟨u1, u2⟩ | exact ⟨y1, y2⟩ | exact ⟨t1, t2⟩))
          (first
          | ((refine step_pushL _ rfl (.tmp 46) (.tmp 51) 27 rfl wr.heap.size infoU8 Try.underlying27 (.slice (some ⟨wr.heap.size, 0, none⟩) 0 0) [] ?_ rfl w.heap.size (.slice q.A q.l.length q.c) q.l rfl ?_ ?_ ?_ ?_); (focus (exact (owns_empty _ _ rfl _ _ (Nat.le_refl _) rfl).drew)); (focus (exact ((hv.below b).alloc _).drew)); (focus (simp)); (focus (simp; omega)); intro v2 w2 ho2 hx2; (have hb2 := (((Below.refl wr.heap.size wr).alloc (Nat.le_refl _) (.cells #[] 5)).drew).trans (hx2.toBelow (B := wr.heap.size) (by simp) (fun j hj => by cases hj; exact Nat.le_refl _))); (have ho2 : OwnsL w2 wr.heap.size v2 q.l := ho2); (have h2 := SAt.below h hb2); (have h2' := SAt.below h' hb2); (have b2 := b.trans (hb2.mono b.size)); (obtain ⟨y0, y1, y2, y3⟩ := HX.out _ b2); (have s2 := ho2.sees); (obtain ⟨A2, c2', rfl, -⟩ := s2.at_); clear hb2 hx2 ho2)
          | (go_at_call 14; refine (put_st [g, g'] g s q.n _ q.l _ _ h2 (by simp) (hFF _ (SAt.lt h2) (SAt.lt h2')) s2 hl).mono ?_; rintro _ w3 ⟨rfl, h3, o⟩; (have b3 := b2.trans (o.below hg (SAt.lt h2))); (obtain ⟨t0, t1, t2, t3⟩ := HX.out _ b3))
          | fail)
        all_goals
          go_wp2_with fail
          go_meet
          exact ⟨h3, SAt.only h2' o (Ne.symm hne) (by simp), b3⟩
      case rest =>
        clear h h' b x0 x1 x2 x3
        obtain ⟨h, h', b⟩ := hcut
        obtain ⟨x0, x1, x2, x3⟩ := HX.out _ b
        go_wp2_with fail
        go_region_with (first
            | (go_at_call 15; refine (put_rf [g, g'] g' s q.n _ q.l _ _ (SAt.drew h') (by simp) (hFF _ (SAt.lt (SAt.drew h)) (SAt.lt (SAt.drew h'))) (hv.below b.drew) hl).mono ?_; rintro _ w3 ⟨rfl, h3, o⟩))
        all_goals
          replace b := b.drew.trans (o.below hg2 (SAt.lt (SAt.drew h')))
          replace h := SAt.only (SAt.drew h) o hne (by simp)
          clear o h'
          have h' := h3
          clear h3
          go_wp2_with fail
          refine (alike_st _ _ _ _ _ _ h h').mono ?_
          rintro _ w9 ⟨rfl, b9⟩
          replace h := SAt.below h b9
          replace h' := SAt.below h' b9
          replace b := b.trans (b9.mono b.size)
          go_wp2
          go_roundw
          case rel => exact ⟨k + 1, _, by omega, by go_num, h, h', b⟩
          case measure => simp [intOf]; omega
    by_cases p2 : q.k = 2
    · have z1 : (q.k == 1) = false := by rw [beq_eq_false_iff_ne]; omega
      have z2 : (q.k == 2) = true := by rw [beq_iff_eq]; omega
      go_wp2_with fail
      go_cut [] from 68 to 107 (fun W => CAt [g, g'] W g (s.member q.n q.q) ∧ RAt [g, g'] W g' s ∧ Below w.heap.size w W)
      case first =>
        go_region_with (first
          | (go_at_call 16; refine (member_st [g, g'] g s q.n q.q _ (SAt.drew h) (by simp)).mono ?_; rintro _ w3 ⟨rfl, h3, o⟩))
        all_goals
          go_wp2_with fail
          go_meet
          exact ⟨h3, SAt.only (SAt.drew h') o (Ne.symm hne) (by simp), b.drew.trans (o.below hg (SAt.lt (SAt.drew h)))⟩
      case rest =>
        clear h h' b x0 x1 x2 x3
        obtain ⟨h, h', b⟩ := hcut
        obtain ⟨x0, x1, x2, x3⟩ := HX.out _ b
        go_wp2_with fail
        go_region_with (first
            | (go_at_call 17; refine (member_rf [g, g'] g' s q.n q.q _ (SAt.drew h') (by simp)).mono ?_; rintro _ w3 ⟨rfl, h3, o⟩))
        all_goals
          replace b := b.drew.trans (o.below hg2 (SAt.lt (SAt.drew h')))
          replace h := SAt.only (SAt.drew h) o hne (by simp)
          clear o h'
          have h' := h3
          clear h3
          go_wp2_with fail
          refine (alike_st _ _ _ _ _ _ h h').mono ?_
          rintro _ w9 ⟨rfl, b9⟩
          replace h := SAt.below h b9
          replace h' := SAt.below h' b9
          replace b := b.trans (b9.mono b.size)
          go_wp2
          go_roundw
          case rel => exact ⟨k + 1, _, by omega, by go_num, h, h', b⟩
          case measure => simp [intOf]; omega
    by_cases p3 : q.k = 3
    · have z1 : (q.k == 1) = false := by rw [beq_eq_false_iff_ne]; omega
      have z2 : (q.k == 2) = false := by rw [beq_eq_false_iff_ne]; omega
      have z3 : (q.k == 3) = true := by rw [beq_iff_eq]; omega
      go_wp2_with fail
      refine (age_st [g, g'] g s _ h (by simp)).mono ?_
      rintro _ w3 ⟨rfl, h3, o⟩
      replace h' := SAt.only h' o (Ne.symm hne) (by simp)
      replace b := b.trans (o.below hg (SAt.lt h))
      clear o h
      go_wp2_with fail
      refine (age_rf [g, g'] g' s _ h' (by simp)).mono ?_
      rintro _ w4 ⟨rfl, h4, o⟩
      replace b := b.trans (o.below hg2 (SAt.lt h'))
      replace h := SAt.only h3 o hne (by simp)
      clear o h3 h'
      have h' := h4
      clear h4
      go_wp2_with fail
      refine (alike_st _ _ _ _ _ _ h h').mono ?_
      rintro _ w9 ⟨rfl, b9⟩
      replace h := SAt.below h b9
      replace h' := SAt.below h' b9
      replace b := b.trans (b9.mono b.size)
      go_wp2
      go_roundw
      case rel => exact ⟨k + 1, _, by omega, by go_num, h, h', b⟩
      case measure => simp [intOf]; omega
    by_cases p4 : q.k = 4
    · have z1 : (q.k == 1) = false := by rw [beq_eq_false_iff_ne]; omega
      have z2 : (q.k == 2) = false := by rw [beq_eq_false_iff_ne]; omega
      have z3 : (q.k == 3) = false := by rw [beq_eq_false_iff_ne]; omega
      have z4 : (q.k == 4) = true := by rw [beq_iff_eq]; omega
      go_wp2_with fail
      refine (clear_st [g, g'] g s _ h (by simp)).mono ?_
      rintro _ w3 ⟨rfl, h3, o⟩
      replace h' := SAt.only h' o (Ne.symm hne) (by simp)
      replace b := b.trans (o.below hg (SAt.lt h))
      clear o h
      go_wp2_with fail
      refine (clear_rf [g, g'] g' s _ h' (by simp)).mono ?_
      rintro _ w4 ⟨rfl, h4, o⟩
      replace b := b.trans (o.below hg2 (SAt.lt h'))
      replace h := SAt.only h3 o hne (by simp)
      clear o h3 h'
      have h' := h4
      clear h4
      go_wp2_with fail
      refine (alike_st _ _ _ _ _ _ h h').mono ?_
      rintro _ w9 ⟨rfl, b9⟩
      replace h := SAt.below h b9
      replace h' := SAt.below h' b9
      replace b := b.trans (b9.mono b.size)
      go_wp2
      go_roundw
      case rel => exact ⟨k + 1, _, by omega, by go_num, h, h', b⟩
      case measure => simp [intOf]; omega
    have z1 : (q.k == 1) = false := by rw [beq_eq_false_iff_ne]; omega
    have z2 : (q.k == 2) = false := by rw [beq_eq_false_iff_ne]; omega
    have z3 : (q.k == 3) = false := by rw [beq_eq_false_iff_ne]; omega
    have z4 : (q.k == 4) = false := by rw [beq_eq_false_iff_ne]; omega
    go_wp2_with fail
    refine (get1 q.n h).mono ?_
    rintro _ w5 ⟨v5, rfl, -, -, b5⟩
    replace h := SAt.below h b5
    replace h' := SAt.below h' b5
    replace b := b.trans (b5.mono b.size)
    clear b5
    go_wp2_with fail
    refine (alike_st _ _ _ _ _ _ h h').mono ?_
    rintro _ w9 ⟨rfl, b9⟩
    replace h := SAt.below h b9
    replace h' := SAt.below h' b9
    replace b := b.trans (b9.mono b.size)
    go_wp2
    go_roundw
    case rel => exact ⟨k + 1, _, by omega, by go_num, h, h', b⟩
    case measure => simp [intOf]; omega

/-! ### THE ROW's STEP around the walk. -/
theorem own_storePlays : ownKnob Try.prog.godebug = none := by kernel_rfl
theorem laidOut_storePlays : laidOutB Try.prog = true := by kernel_rfl
set_option maxRecDepth 100000 in
theorem lifted_storePlays (os : Os) (started : os.Started) (H : Type) (enc : TypeId × Value → H) :
    ReturnsInHanded {} Try.checked os 3 .any (Rows.storePlaysSpec.pre6 enc Try.prog Try.f3 Rows.storePlaysRow.domain false) (Rows.storePlaysSpec.post enc Try.prog Try.f3 false true false false) := by
  refine returnsInHanded_of_change (C := Try.checked) own_storePlays started (by kernel_rfl) Try.func3
    (ChangeSpec.witness6 (enc := enc) (C := Try.checked) false ⟨#[], #[.slice none 0 0], []⟩ 8 (by kernel_rfl) (by kernel_rfl) (by kernel_rfl) (by kernel_rfl)) ?_
  intro W base args ds gs before hval0 hW hcnd _
  have hval : ∀ (j : Nat) t v, Try.f3.params[j]? = some t → args[j]? = some v → Value.okWide Try.prog W .any base t v := hval0
  have hW' := hW
  obtain ⟨p, q, hA0, hV, rfl, hfz, hnd⟩ := hW
  have hA : DataW.TrodAll enc Try.prog W 0 (fun _ => true) true Try.f3.params.toList args.toList ds p := hA0
  rw [Try.params3] at hA hval
  obtain ⟨v0, vs0, d0, ds0, p0, q0, hargs, rfl, rfl, h0, r0⟩ := trodAll_cons hA
  obtain ⟨rfl, rfl, rfl⟩ := trodAll_nil r0
  obtain rfl : args = #[v0] := by cases args; simp_all
  obtain ⟨rfl, rfl⟩ := trodVars_none hV
  obtain ⟨A0, n0, c0, rfl⟩ := okWide_slice Try.underlying22 (hval 0 22 v0 rfl rfl)
  have k0 := h0
  have lt0 : ∀ x ∈ p0, x.block < W.heap.size := by obtain ⟨m, hm⟩ := k0; exact DataW.trod_lt m _ _ _ hm
  obtain ⟨f0, s0⟩ := sees_acts4 Try.underlying22 Try.underlying29 (by kernel_rfl) ⟨rfl, rfl⟩ ⟨rfl, rfl⟩ ⟨rfl, rfl⟩ ⟨rfl, rfl⟩ Try.underlying3 Try.underlying4 Try.underlying27 Try.underlying5 (by kernel_rfl) (by kernel_rfl) (by kernel_rfl) (by kernel_rfl) h0
  clear hA0 hval0
  refine (walk_storePlays n0 f0 _ W s0).mono fun e W' ⟨he, bel⟩ => ?_
  subst he
  exact ⟨_, rfl, _, _, _, [], _, [], hW', trodAll_mk1 (shut_bool Try.underlying4 _), (trodAll_cons_mk (Below.trod laidOut_storePlays (by kernel_rfl) (of_decide_eq_true (by kernel_rfl)) k0 bel lt0) trodAll_mk0), rfl, bel.frame _, fun h => by cases h⟩

theorem over_storePlays : Rows.storePlaysRow.holds Try.pinned (OpenSpec.ofChange Rows.storePlaysSpec) :=
  OpenClaim.holds_of_wide 3 Try.f3 rfl rfl rfl rfl rfl rfl rfl ⟨rfl, rfl, rfl, rfl, rfl⟩ rfl rfl rfl rfl rfl (by kernel_rfl) Try.func3 (by kernel_rfl)
    (of_decide_eq_true (by kernel_rfl)) (by unfold Func.isWrapper; first | (rw [if_pos (by decide +kernel)]; kernel_rfl) | (rw [if_neg (by decide +kernel)]; exact ⟨rfl, rfl⟩))
    (fun os started H enc _ => lifted_storePlays os started H enc)

theorem proved_storePlays : Rows.StorePlaysSaid := over_storePlays
end Go.Proofs.Ytnjllegnkbhciaa
