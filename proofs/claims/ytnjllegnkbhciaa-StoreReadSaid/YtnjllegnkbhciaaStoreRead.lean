/- StoreRead holds: reads, as many as there are, change nothing. For all scripts and numbers. -/
import Derived.Test.YtnjllegnkbhciaaStL
import Derived.Test.YtnjllegnkbhciaaOpen
import Derived.Test.YtnjllegnkbhciaaActs4O
import Derived.RegionTactic
import Derived.Deep.RegionWith
import Derived.Deep.CutBlock
namespace Go.Proofs.Ytnjllegnkbhciaa
open Go.ChangeShapes Go.WideShapes Go.ChangeAt Go.RowKit

set_option maxRecDepth 100000 in
set_option maxHeartbeats 2000000 in
theorem walk_storeRead (N : Nat) (f : Nat → A4) (v : Value) (n t : Int) (w : World) (s : InA4 w v N f) (_hn : -9223372036854775808 ≤ n ∧ n ≤ 9223372036854775807) (_ht : -9223372036854775808 ≤ t ∧ t ≤ 9223372036854775807) :
    Calls Try.prog 11 #[v, .int .i64 n, .int .i64 t] w fun e w' => e = .returned (.bool true) ∧ Below w.heap.size w w' := by
  obtain ⟨A, c, rfl, v1, v2, v3⟩ := s.at_
  have hS := s.sees
  unfold maxLen at v2
  by_cases call : N ≤ 60 ∧ 0 ≤ t ∧ t ≤ 20
  case neg =>
    clear v3 s hS
    go_enter Try.func11, Try.ntmps11
    go_wp2
    all_goals first
      | (exfalso; omega)
      | (go_ret; exact ⟨rfl, Below.refl _ _⟩)
      | skip
  obtain ⟨c1, c2, c3⟩ := call
  obtain ⟨T, rfl⟩ : ∃ T : Nat, t = T := ⟨t.toNat, by omega⟩
  have d1 : decide ((60 : Int) < ((N : Nat) : Int)) = false := decide_eq_false (by omega)
  have d2 : decide (((T : Nat) : Int) < 0) = false := decide_eq_false (by omega)
  have d3 : decide ((20 : Int) < ((T : Nat) : Int)) = false := decide_eq_false (by omega)
  have HF : Hid (0 < N → ∃ b off, A = some ⟨b, off, none⟩ ∧ ∀ W, Below w.heap.size w W → ∀ k, k < N → A4At W b (off + k * 4) (f k)) := Lib.hid fun h0 => by
    obtain ⟨b, off, hA, hb, hc⟩ := v3 h0
    exact ⟨b, off, hA, fun W hW k hk => ⟨(hW.cell hb).trans (hc k hk).c0, (hW.cell hb).trans (hc k hk).c1, (hW.cell hb).trans (hc k hk).c2, (hW.cell hb).trans (hc k hk).c3⟩⟩
  have HS := Lib.hid hS
  clear v3 s hS
  go_enter Try.func11, Try.ntmps11
  go_wp2_with fail
  refine (new_st _).mono ?_
  rintro _ w1 ⟨g, rfl, hg, h1, b1⟩
  go_wp2_with fail
  refine (new_rf _).mono ?_
  rintro _ w2 ⟨g', rfl, hg', h2, b2⟩
  have hgl := SAt.lt (h1 [])
  have hne : g ≠ g' := by omega
  have hg2 : w.heap.size ≤ g' := by have := b1.size; omega
  have h : CAt [g, g'] w2 g MS.new := SAt.below (h1 [g, g']) b2
  have h' : RAt [g, g'] w2 g' MS.new := h2 [g, g']
  have b := b1.trans (b2.mono b1.size)
  have hFF : ∀ W : World, g < W.heap.size → g' < W.heap.size → ∀ f, f ∈ [g, g'] → f < W.heap.size := fun W a1 a2 f hf => by
    rcases List.mem_cons.1 hf with rfl | hf
    · exact a1
    · rw [List.mem_singleton.1 hf]; exact a2
  clear b1 b2 h1 h2 hgl hg' 
  go_wp2_with fail
  go_loopw [9] (fun i wr => ∃ (k : Nat) (s : MS), k ≤ N ∧ i = .int .i64 k ∧ CAt [g, g'] wr g s ∧ RAt [g, g'] wr g' s ∧ Below w.heap.size w wr) (fun i _ => N - (intOf i).toNat)
  case atStart => exact ⟨0, _, by omega, rfl, h, h', b⟩
  case round =>
    clear h h' b
    obtain ⟨k, s, hk, rfl, h, h', b⟩ := hrel
    by_cases hlt : k < N
    · have r1 : decide ((k : Int) < (N : Int)) = true := decide_eq_true (by omega)
      obtain ⟨bl, off, rfl, HG⟩ := HF.out (by omega)
      have HG := Lib.hid HG
      clear HF
      obtain ⟨hv, hl⟩ := HS.out k hlt
      obtain ⟨-, x1, x2, -⟩ := HG.out _ b k hlt
      have HH := fun W hW => (HG.out W hW k hlt)
      generalize f k = q at *
      by_cases h50 : q.l.length ≤ 50
      case neg =>
        have r2 : decide ((50 : Int) < ((q.l.length : Nat) : Int)) = true := decide_eq_true (by omega)
        clear hv hl HH
        go_wp2
        go_ret
        exact ⟨rfl, b⟩
      have r2 : decide ((50 : Int) < ((q.l.length : Nat) : Int)) = false := decide_eq_false (by omega)
      have HP := fun W (h : CAt [g, g'] W g s) (h' : RAt [g, g'] W g' s) hW => Lib.hid (put_st [g, g'] g s q.n _ q.l _ W h (by simp) (hFF W (SAt.lt h) (SAt.lt h')) (hv.below hW) hl)
      have HQ := fun s W (h : CAt [g, g'] W g (s.put q.n q.l)) (h' : RAt [g, g'] W g' s) hW => Lib.hid (put_rf [g, g'] g' s q.n _ q.l _ W h' (by simp) (hFF W (SAt.lt h) (SAt.lt h')) (hv.below hW) hl)
      have HX := Lib.hid HH
      clear HH hv hl
      go_wp2_with fail
      go_cut [] from 39 to 70 (fun W => CAt [g, g'] W g (s.put q.n q.l) ∧ RAt [g, g'] W g' s ∧ Below w.heap.size w W)
      case first =>
        go_region_with (first
          | (go_at_call 14; refine (HP _ h.drew h'.drew b.drew).out.mono ?_; rintro _ w3 ⟨rfl, h3, o⟩))
        all_goals
          go_wp2_with fail
          go_meet
          exact ⟨h3, SAt.only (SAt.drew h') o (Ne.symm hne) (by simp), b.drew.trans (o.below hg (SAt.lt (SAt.drew h)))⟩
      case rest =>
        clear h h' b x1 x2 HP
        obtain ⟨h, h', b⟩ := hcut
        obtain ⟨-, x1, x2, -⟩ := HX.out _ b
        go_wp2_with fail
        go_cut [] from 51 to 70 (fun W => CAt [g, g'] W g (s.put q.n q.l) ∧ RAt [g, g'] W g' (s.put q.n q.l) ∧ Below w.heap.size w W)
        case first =>
          go_region_with (first
            | (go_at_call 15; refine (HQ s _ (SAt.drew h) (SAt.drew h') b.drew).out.mono ?_; rintro _ w3 ⟨rfl, h3, o⟩))
          all_goals
            go_wp2_with fail
            go_meet
            exact ⟨SAt.only (SAt.drew h) o hne (by simp), h3, b.drew.trans (o.below hg2 (SAt.lt (SAt.drew h')))⟩
        case rest =>
          clear h h' b x1 x2 HQ HX
          obtain ⟨h, h', b⟩ := hcut
          generalize s.put q.n q.l = u at *
          go_wp2_with fail
          go_loopw [10] (fun i wr => ∃ (j : Nat), j ≤ T ∧ i = .int .i64 j ∧ CAt [g, g'] wr g u ∧ RAt [g, g'] wr g' u ∧ Below w.heap.size w wr) (fun i _ => T - (intOf i).toNat)
          case atStart => exact ⟨0, by omega, rfl, h, h', b⟩
          case round =>
            clear h h' b
            obtain ⟨j, hj, rfl, h, h', b⟩ := hrel
            by_cases hjt : j < T
            · have r3 : decide ((j : Int) < (T : Int)) = true := decide_eq_true (by omega)
              go_wp2_with fail
              refine (get1 n h).mono ?_
              rintro _ w5 ⟨v5, rfl, -, -, b5⟩
              replace h := SAt.below h b5
              replace h' := SAt.below h' b5
              replace b := b.trans (b5.mono b.size)
              go_wp2
              go_roundw
              case rel => exact ⟨j + 1, by omega, by go_num, h, h', b⟩
              case measure => simp [intOf]; omega
            · have r3 : decide ((j : Int) < (T : Int)) = false := decide_eq_false (by omega)
              go_wp2
              go_roundw
              case rel => exact ⟨k + 1, u, by omega, by go_num, h, h', b⟩
              case measure => simp [intOf]; omega
    · have r1 : decide ((k : Int) < (N : Int)) = false := decide_eq_false (by omega)
      go_wp2_with fail
      refine (alike_st _ _ _ _ _ _ h h').mono ?_
      rintro _ w5 ⟨rfl, b5⟩
      replace b := b.trans (b5.mono b.size)
      go_wp2_with fail
      refine (known_st _).mono ?_
      rintro _ wk ⟨rfl, bk⟩
      replace bk := b.trans (bk.mono b.size)
      go_wp2
      go_ret
      exact ⟨rfl, bk⟩

/-! ### THE ROW's STEP around the walk. -/
theorem own_storeRead : ownKnob Try.prog.godebug = none := by kernel_rfl
theorem laidOut_storeRead : laidOutB Try.prog = true := by kernel_rfl
set_option maxRecDepth 100000 in
theorem lifted_storeRead (os : Os) (started : os.Started) (H : Type) (enc : TypeId × Value → H) :
    ReturnsInHanded {} Try.checked os 11 .any (Rows.storeReadSpec.pre6 enc Try.prog Try.f11 Rows.storeReadRow.domain false) (Rows.storeReadSpec.post enc Try.prog Try.f11 false true false false) := by
  refine returnsInHanded_of_change (C := Try.checked) own_storeRead started (by kernel_rfl) Try.func11
    (ChangeSpec.witness6 (enc := enc) (C := Try.checked) false ⟨#[], #[.slice none 0 0, .int .i64 0, .int .i64 0], []⟩ 8 (by kernel_rfl) (by kernel_rfl) (by kernel_rfl) (by kernel_rfl)) ?_
  intro W base args ds gs before hval0 hW hcnd _
  have hval : ∀ (j : Nat) t v, Try.f11.params[j]? = some t → args[j]? = some v → Value.okWide Try.prog W .any base t v := hval0
  have hW' := hW
  obtain ⟨p, q, hA0, hV, rfl, hfz, hnd⟩ := hW
  have hA : DataW.TrodAll enc Try.prog W 0 (fun _ => true) true Try.f11.params.toList args.toList ds p := hA0
  rw [Try.params11] at hA hval
  obtain ⟨v0, vs0, d0, ds0, p0, q0, hargs, rfl, rfl, h0, r0⟩ := trodAll_cons hA
  obtain ⟨v1, vs1, d1, ds1, p1, q1, rfl, rfl, rfl, h1, r1⟩ := trodAll_cons r0
  obtain ⟨v2, vs2, d2, ds2, p2, q2, rfl, rfl, rfl, h2, r2⟩ := trodAll_cons r1
  obtain ⟨rfl, rfl, rfl⟩ := trodAll_nil r2
  obtain rfl : args = #[v0, v1, v2] := by cases args; simp_all
  obtain ⟨rfl, rfl⟩ := trodVars_none hV
  obtain ⟨A0, n0, c0, rfl⟩ := okWide_slice Try.underlying22 (hval 0 22 v0 rfl rfl)
  have k0 := h0
  have lt0 : ∀ x ∈ p0, x.block < W.heap.size := by obtain ⟨m, hm⟩ := k0; exact DataW.trod_lt m _ _ _ hm
  obtain ⟨f0, s0⟩ := sees_acts4 Try.underlying22 Try.underlying29 (by kernel_rfl) ⟨rfl, rfl⟩ ⟨rfl, rfl⟩ ⟨rfl, rfl⟩ ⟨rfl, rfl⟩ Try.underlying3 Try.underlying4 Try.underlying27 Try.underlying5 (by kernel_rfl) (by kernel_rfl) (by kernel_rfl) (by kernel_rfl) h0
  obtain ⟨a1, rfl, rfl, rfl, w1⟩ := open_int Try.underlying3 (hval 1 3 v1 rfl rfl) h1
  obtain ⟨a2, rfl, rfl, rfl, w2⟩ := open_int Try.underlying3 (hval 2 3 v2 rfl rfl) h2
  clear hA0 hval0
  refine (walk_storeRead n0 f0 _ a1 a2 W s0 (bounds_i64 w1) (bounds_i64 w2)).mono fun e W' ⟨he, bel⟩ => ?_
  subst he
  exact ⟨_, rfl, _, _, _, [], _, [], hW', trodAll_mk1 (shut_bool Try.underlying4 _), (trodAll_cons_mk (Below.trod laidOut_storeRead (by kernel_rfl) (of_decide_eq_true (by kernel_rfl)) k0 bel lt0) (trodAll_cons_mk (shut_int Try.underlying3 w1) (trodAll_cons_mk (shut_int Try.underlying3 w2) trodAll_mk0))), rfl, bel.frame _, fun h => by cases h⟩

theorem over_storeRead : Rows.storeReadRow.holds Try.pinned (OpenSpec.ofChange Rows.storeReadSpec) :=
  OpenClaim.holds_of_wide 11 Try.f11 rfl rfl rfl rfl rfl rfl rfl ⟨rfl, rfl, rfl, rfl, rfl⟩ rfl rfl rfl rfl rfl (by kernel_rfl) Try.func11 (by kernel_rfl)
    (of_decide_eq_true (by kernel_rfl)) (by unfold Func.isWrapper; first | (rw [if_pos (by decide +kernel)]; kernel_rfl) | (rw [if_neg (by decide +kernel)]; exact ⟨rfl, rfl⟩))
    (fun os started H enc _ => lifted_storeRead os started H enc)

theorem proved_storeRead : Rows.StoreReadSaid := over_storeRead
end Go.Proofs.Ytnjllegnkbhciaa
