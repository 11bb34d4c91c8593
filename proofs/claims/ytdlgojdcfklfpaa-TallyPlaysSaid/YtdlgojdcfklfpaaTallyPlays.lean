/- TallyPlays holds: of every script members, counts, clique. For all numbers and scripts. -/
import Derived.Test.YtdlgojdcfklfpaaTlD
import Derived.Test.YtdlgojdcfklfpaaTlK
import Derived.Test.YtdlgojdcfklfpaaOpen
import Derived.Test.YtdlgojdcfklfpaaActsO
namespace Go.Proofs.Ytdlgojdcfklfpaa
open Go.ChangeShapes Go.WideShapes Go.ChangeAt Go.RowKit

set_option maxRecDepth 100000 in
set_option maxHeartbeats 2000000 in
theorem walk_tallyPlays (a : Int) (N : Nat) (x y : Nat → Int) (v : Value) (w : World) (_ha : -9223372036854775808 ≤ a ∧ a ≤ 9223372036854775807) (h : InActs w v N x y) :
    Calls Try.prog 3 #[.int .i64 a, v] w fun e w' => e = .returned (.bool true) ∧ Below w.heap.size w w' := by
  obtain ⟨A, c, rfl, v1, v2, v3⟩ := h.at_
  unfold maxLen at v2
  by_cases call : N ≤ 300
  case neg =>
    clear v3 h
    have d1 : decide ((300 : Int) < ((N : Nat) : Int)) = true := decide_eq_true (by omega)
    go_enter Try.func3, Try.ntmps3
    go_wp2
    go_ret
    exact ⟨rfl, Below.refl _ _⟩
  have d1 : decide ((300 : Int) < ((N : Nat) : Int)) = false := decide_eq_false (by omega)
  have HF : Hid (0 < N → ∃ b off, A = some ⟨b, off, none⟩ ∧ ∀ W, Below w.heap.size w W → ∀ k, k < N → W.cell? ⟨b, off + k * 2, none⟩ = some (.int .i64 (x k)) ∧ W.cell? ⟨b, off + k * 2 + 1, none⟩ = some (.int .i64 (y k))) := Lib.hid fun h0 => by
    obtain ⟨b, off, hA, hb, hc⟩ := v3 h0
    exact ⟨b, off, hA, fun W hW k hk => ⟨(hW.cell hb).trans (hc k hk).1, (hW.cell hb).trans (hc k hk).2⟩⟩
  clear v3 h
  have hN := new_tl a
  have hR := new_rf a
  generalize (a % 256).toNat = q at *
  have hN := fun W => Lib.hid (hN W)
  have hR := fun W => Lib.hid (hR W)
  have HD := fun g g' s k n W (h : TAt 45 W g s) (h' : TAt 34 W g' s) => Lib.hid (fun ha hf => do_tl w.heap.size g g' s k n W h h' ha hf)
  have HC := fun g s W (h : TAt 45 W g s) => Lib.hid (counts_tl g s W h)
  go_enter Try.func3, Try.ntmps3
  go_wp2_with fail
  refine (hN _).out.mono ?_
  rintro _ w1 ⟨rfl, h1, b1, z1⟩
  go_wp2_with fail
  refine (hR _).out.mono ?_
  rintro _ w2 ⟨rfl, h2, b2, z2⟩
  replace h1 := h1.below b2 h1.lt
  replace b2 := b1.trans (b2.mono b1.size)
  rw [z1] at *
  clear z1 z2 b1 hN hR
  go_wp2_with fail
  go_loopw [7] (fun i wr => ∃ (k : Nat) (s : TS), k ≤ N ∧ i = .int .i64 k ∧ s.a ≤ k ∧ s.f ≤ k ∧ TAt 45 wr w.heap.size s ∧ TAt 34 wr (w.heap.size + 1) s ∧ Below w.heap.size w wr) (fun i _ => N - (intOf i).toNat)
  case atStart => exact ⟨0, _, by omega, rfl, by simp, by simp, h1, h2, b2⟩
  case round =>
    clear h1 h2 b2
    obtain ⟨k, s, hk, rfl, sa, sf, h1, h2, b2⟩ := hrel
    by_cases hlt : k < N
    · have r1 : decide ((k : Int) < (N : Int)) = true := decide_eq_true (by omega)
      obtain ⟨b, off, rfl, HG⟩ := HF.out (by omega)
      have HG := Lib.hid HG
      clear HF
      obtain ⟨cx, cy⟩ := HG.out _ b2 k hlt
      go_wp2_with fail
      refine ((HD _ _ _ _ _ _ h1 h2).out (by omega) (by omega) (by omega) (Nat.le_refl _) (by omega)).mono ?_
      rintro _ w3 ⟨rfl, h3, g3, b3⟩
      replace b3 := b2.trans b3
      have ha := s.act_a (x k) (y k)
      have hf := s.act_f (x k) (y k)
      generalize s.act (x k) (y k) = u at *
      clear h1 h2 b2 cx cy
      go_wp2_with fail
      refine (HC _ _ _ h3).out.mono ?_
      rintro _ _ ⟨rfl, mm, rfl⟩
      replace h3 := h3.drewN mm
      replace g3 := g3.drewN mm
      replace b3 := below_drewN b3 mm
      generalize World.drewN _ mm = ww at *
      clear mm
      obtain ⟨cx, cy⟩ := HG.out _ b3 k hlt
      generalize y k = yk at *
      have HM := fun nq => Lib.hid (members_tl _ _ _ (h3.drewN nq))
      have HQ := fun nq => Lib.hid (clique_tl _ _ _ (h3.drewN nq))
      have HX := fun nq => Lib.hid (clique_rf _ _ _ (g3.drewN nq) (by omega))
      have HL := fun nq => Lib.hid (alone_tl _ _ _ (h3.drewN nq))
      have HI := fun nq => Lib.hid (is_tl _ _ yk _ (h3.drewN nq))
      have HJ := fun nq => Lib.hid (is_rf _ _ yk _ (g3.drewN nq))
      have HT := fun nq => Lib.hid (h3.drewN nq)
      have HU := fun nq => Lib.hid (g3.drewN nq)
      have HB := fun nq => Lib.hid (below_drewN b3 nq)
      have x0 := g3.c0
      have x1 := g3.c1
      have x2 := g3.c2
      have n0 : (((u.m : Nat) : Int) != ((u.m : Nat) : Int)) = false := by simp
      have n1 : (((u.a : Nat) : Int) != ((u.a : Nat) : Int)) = false := by simp
      have n2 : (((u.f : Nat) : Int) != ((u.f : Nat) : Int)) = false := by simp
      have e3 : (((u.a : Nat) : Int) == 0) = decide (u.a = 0) := by by_cases h : u.a = 0 <;> simp [h]
      generalize hq1 : decide (u.f ≤ u.a) = Q1 at *
      generalize hq2 : decide (u.a = 0) = Q2 at *
      generalize hq3 : isB u.m yk = Q3 at *
      have n3 : (Q1 != Q1) = false := by simp
      have n4 : (Q2 != Q2) = false := by simp
      have n5 : (Q3 != Q3) = false := by simp
      clear h3 g3 b3
      go_wp2_with fail
      go_quiet (first
        | (go_at_call 14; exact Calls.quiet_of (HM _).out)
        | (go_at_call 15; exact Calls.quiet_of (HQ _).out)
        | (go_at_call 16; exact Calls.quiet_of (HX _).out)
        | (go_at_call 17; exact Calls.quiet_of (HL _).out)
        | (go_at_call 18; exact Calls.quiet_of (HI _).out)
        | (go_at_call 19; exact Calls.quiet_of (HJ _).out))
      go_wp2
      go_roundw
      case rel => exact ⟨k + 1, u, by omega, by go_num, by omega, by omega, (HT _).out, (HU _).out, (HB _).out⟩
      case measure => simp [intOf]; omega
    · obtain rfl : k = N := by omega
      have HM := fun W (h : TAt 45 W w.heap.size s) => Lib.hid (members_tl _ _ W h)
      have HK := fun W => Lib.hid (known_tl W)
      have HB := fun nq => Lib.hid (below_drewN b2 nq)
      have x0 := h2.c0
      go_wp2_with fail
      go_region_with (first
        | (go_at_call 14; refine (HM wr.drew h1.drew).out.mono ?_; rintro _ _ ⟨rfl, mm, rfl⟩)
        | (go_at_call 20; refine (HK _).out.mono ?_; rintro _ wk ⟨rfl, bk⟩))
      all_goals
        go_wp2
        go_ret
        exact ⟨rfl, b2.trans (Below.mono (B := wr.heap.size) ((below_drewN (Below.refl wr.heap.size wr) (1 + mm)).trans bk) b2.size)⟩

/-! ### THE ROW's STEP around the walk. -/
theorem own_tallyPlays : ownKnob Try.prog.godebug = none := by kernel_rfl
theorem laidOut_tallyPlays : laidOutB Try.prog = true := by kernel_rfl
set_option maxRecDepth 100000 in
theorem lifted_tallyPlays (os : Os) (started : os.Started) (H : Type) (enc : TypeId × Value → H) :
    ReturnsInHanded {} Try.checked os 3 .any (Rows.tallyPlaysSpec.pre6 enc Try.prog Try.f3 Rows.tallyPlaysRow.domain false) (Rows.tallyPlaysSpec.post enc Try.prog Try.f3 false true false false) := by
  refine returnsInHanded_of_change (C := Try.checked) own_tallyPlays started (by kernel_rfl) Try.func3
    (ChangeSpec.witness6 (enc := enc) (C := Try.checked) false ⟨#[], #[.int .i64 0, .slice none 0 0], []⟩ 8 (by kernel_rfl) (by kernel_rfl) (by kernel_rfl) (by kernel_rfl)) ?_
  intro W base args ds gs before hval0 hW hcnd _
  have hval : ∀ (j : Nat) t v, Try.f3.params[j]? = some t → args[j]? = some v → Value.okWide Try.prog W .any base t v := hval0
  have hW' := hW
  obtain ⟨p, q, hA0, hV, rfl, hfz, hnd⟩ := hW
  have hA : DataW.TrodAll enc Try.prog W 0 (fun _ => true) true Try.f3.params.toList args.toList ds p := hA0
  rw [Try.params3] at hA hval
  obtain ⟨v0, vs0, d0, ds0, p0, q0, hargs, rfl, rfl, h0, r0⟩ := trodAll_cons hA
  obtain ⟨v1, vs1, d1, ds1, p1, q1, rfl, rfl, rfl, h1, r1⟩ := trodAll_cons r0
  obtain ⟨rfl, rfl, rfl⟩ := trodAll_nil r1
  obtain rfl : args = #[v0, v1] := by cases args; simp_all
  obtain ⟨rfl, rfl⟩ := trodVars_none hV
  obtain ⟨a0, rfl, rfl, rfl, w0⟩ := open_int Try.underlying3 (hval 0 3 v0 rfl rfl) h0
  obtain ⟨A1, n1, c1, rfl⟩ := okWide_slice Try.underlying22 (hval 1 22 v1 rfl rfl)
  have k1 := h1
  have lt1 : ∀ x ∈ p1, x.block < W.heap.size := by obtain ⟨m, hm⟩ := k1; exact DataW.trod_lt m _ _ _ hm
  obtain ⟨a1, b1, s1⟩ := sees_acts Try.underlying22 Try.underlying29 (by kernel_rfl) rfl rfl (by kernel_rfl) (by kernel_rfl) Try.underlying3 Try.underlying3 h1
  clear hA0 hval0
  refine (walk_tallyPlays a0 n1 a1 b1 _ W (bounds_i64 w0) s1).mono fun e W' ⟨he, bel⟩ => ?_
  subst he
  exact ⟨_, rfl, _, _, _, [], _, [], hW', trodAll_mk1 (shut_bool Try.underlying4 _), (trodAll_cons_mk (shut_int Try.underlying3 w0) (trodAll_cons_mk (Below.trod laidOut_tallyPlays (by kernel_rfl) (of_decide_eq_true (by kernel_rfl)) k1 bel lt1) trodAll_mk0)), rfl, bel.frame _, fun h => by cases h⟩

theorem over_tallyPlays : Rows.tallyPlaysRow.holds Try.pinned (OpenSpec.ofChange Rows.tallyPlaysSpec) :=
  OpenClaim.holds_of_wide 3 Try.f3 rfl rfl rfl rfl rfl rfl rfl ⟨rfl, rfl, rfl, rfl, rfl⟩ rfl rfl rfl rfl rfl (by kernel_rfl) Try.func3 (by kernel_rfl)
    (of_decide_eq_true (by kernel_rfl)) (by unfold Func.isWrapper; first | (rw [if_pos (by decide +kernel)]; kernel_rfl) | (rw [if_neg (by decide +kernel)]; exact ⟨rfl, rfl⟩))
    (fun os started H enc _ => lifted_tallyPlays os started H enc)

theorem proved_tallyPlays : Rows.TallyPlaysSaid := over_tallyPlays
end Go.Proofs.Ytdlgojdcfklfpaa
