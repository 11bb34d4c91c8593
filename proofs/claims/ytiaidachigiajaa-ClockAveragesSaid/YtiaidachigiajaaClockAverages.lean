/- ClockAverages holds: of any measures clock.Average is the document's average. For all lists. -/
import Derived.Test.YtiaidachigiajaaClD
import Derived.Test.YtiaidachigiajaaClO
namespace Go.Proofs.Ytiaidachigiajaa
open Go.ChangeShapes Go.WideShapes Go.ChangeAt Go.RowKit
open Clk (avg)

set_option maxRecDepth 100000 in
set_option maxHeartbeats 1000000 in
theorem walk_clockAverages (l : List Int) (v : Value) (w : World) (h : InInts w v l) :
    Calls Try.prog 3 #[v] w fun e w' => e = .returned (.bool true) ∧ Below w.heap.size w w' := by
  have F := Lib.hid (few_cl l v w _ h.sees)
  have G := fun hb => Lib.hid (avg_cl l v w w.heap.size (Nat.le_refl _) h.sees (fewB_small hb).1 (fewB_small hb).2)
  have R := fun hb W (hw : Below w.heap.size w W) => Lib.hid (avg_rf l v W w.heap.size (h.sees.below hw) (fewB_small hb).1 (fewB_small hb).2)
  obtain ⟨A, c, rfl, -, -, -, -⟩ := h.sees.at_
  clear h
  cases hb : fewB l
  · rw [hb] at F
    go_enter Try.func3, Try.ntmps3
    go_wp2_with fail
    refine F.out.mono ?_
    rintro e w' ⟨rfl, rfl⟩
    go_wp2
    go_ret
    exact ⟨rfl, Below.refl _ _⟩
  · rw [hb] at F
    have G := G hb
    have R := R hb
    go_enter Try.func3, Try.ntmps3
    go_wp2_with fail
    refine F.out.mono ?_
    rintro e w' ⟨rfl, rfl⟩
    go_wp2_with fail
    refine G.out.mono ?_
    rintro e w1 ⟨rfl, hb1⟩
    go_wp2_with fail
    refine (R w1 hb1).out.mono ?_
    rintro e w2 ⟨rfl, hb2⟩
    go_wp2_with fail
    refine (known_cl w2).mono ?_
    rintro e w3 ⟨rfl, hb3⟩
    go_wp2
    go_ret
    have hb4 := hb1.trans (hb2.mono hb1.size)
    exact ⟨by simp, hb4.trans (hb3.mono hb4.size)⟩

/-! ### THE ROW's STEP around the walk. -/
theorem own_clockAverages : ownKnob Try.prog.godebug = none := by kernel_rfl
theorem laidOut_clockAverages : laidOutB Try.prog = true := by kernel_rfl
set_option maxRecDepth 100000 in
theorem lifted_clockAverages (os : Os) (started : os.Started) (H : Type) (enc : TypeId × Value → H) :
    ReturnsInHanded {} Try.checked os 3 .any (Rows.clockAveragesSpec.pre6 enc Try.prog Try.f3 Rows.clockAveragesRow.domain false) (Rows.clockAveragesSpec.post enc Try.prog Try.f3 false true false false) := by
  refine returnsInHanded_of_change (C := Try.checked) own_clockAverages started (by kernel_rfl) Try.func3
    (ChangeSpec.witness6 (enc := enc) (C := Try.checked) false ⟨#[], #[.slice none 0 0], []⟩ 8 (by kernel_rfl) (by kernel_rfl) (by kernel_rfl) (by kernel_rfl)) ?_
  intro W base args ds gs before hval0 hW hcnd _
  have hval : ∀ (j : Nat) t v, Try.f3.params[j]? = some t → args[j]? = some v → Value.okWide Try.prog W .any base t v := hval0
  have hW' := hW
  obtain ⟨p, q, hA0, hV, rfl, hfz, hnd⟩ := hW
  have hA : DataW.TrodAll enc Try.prog W 0 (fun _ => true) true Try.f3.params.toList args.toList ds p := hA0
  rw [Try.params3] at hA hval
  obtain ⟨v0, vs0, d0, ds0, p0, q0, hargs, rfl, rfl, h0, r0⟩ := trodAll_cons hA
  obtain ⟨rfl, rfl, rfl⟩ := trodAll_nil r0
  obtain rfl : args = #[v0] := by cases args; simp_all
  obtain ⟨rfl, rfl⟩ := trodVars_none hV
  obtain ⟨A0, n0, c0, rfl⟩ := okWide_slice Try.underlying22 (hval 0 22 v0 rfl rfl)
  have k0 := h0
  have lt0 : ∀ x ∈ p0, x.block < W.heap.size := by obtain ⟨m, hm⟩ := k0; exact DataW.trod_lt m _ _ _ hm
  obtain ⟨l0, s0⟩ := sees_ints Try.underlying22 Try.underlying3 (by kernel_rfl) h0
  clear hA0 hval0
  refine (walk_clockAverages l0 _ W s0).mono fun e W' ⟨he, bel⟩ => ?_
  subst he
  exact ⟨_, rfl, _, _, _, [], _, [], hW', trodAll_mk1 (shut_bool Try.underlying4 _), (trodAll_cons_mk (Below.trod laidOut_clockAverages (by kernel_rfl) (of_decide_eq_true (by kernel_rfl)) k0 bel lt0) trodAll_mk0), rfl, bel.frame _, fun h => by cases h⟩

theorem over_clockAverages : Rows.clockAveragesRow.holds Try.pinned (OpenSpec.ofChange Rows.clockAveragesSpec) :=
  OpenClaim.holds_of_wide 3 Try.f3 rfl rfl rfl rfl rfl rfl rfl ⟨rfl, rfl, rfl, rfl, rfl⟩ rfl rfl rfl rfl rfl (by kernel_rfl) Try.func3 (by kernel_rfl)
    (of_decide_eq_true (by kernel_rfl)) (by unfold Func.isWrapper; first | (rw [if_pos (by decide +kernel)]; kernel_rfl) | (rw [if_neg (by decide +kernel)]; exact ⟨rfl, rfl⟩))
    (fun os started H enc _ => lifted_clockAverages os started H enc)

theorem proved_clockAverages : Rows.ClockAveragesSaid := over_clockAverages
end Go.Proofs.Ytiaidachigiajaa
