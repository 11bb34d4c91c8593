/- ClockHalf holds: halves are rounded down, also below nought. For all numbers. -/
import Derived.Test.YtiaidachigiajaaClD
import Derived.Test.YtiaidachigiajaaClO
namespace Go.Proofs.Ytiaidachigiajaa
open Go.ChangeShapes Go.WideShapes Go.ChangeAt Go.RowKit
open Clk (avg)

set_option maxRecDepth 100000 in
set_option maxHeartbeats 1000000 in
theorem walk_clockHalf (a b : Int) (w : World) (_h0 : -9223372036854775808 ≤ a ∧ a ≤ 9223372036854775807) (_h1 : -9223372036854775808 ≤ b ∧ b ≤ 9223372036854775807) :
    Calls Try.prog 11 #[.int .i64 a, .int .i64 b] w fun e w' => e = .returned (.bool true) ∧ Below w.heap.size w w' := by
  by_cases hs : (-1099511627776 ≤ a ∧ a ≤ 1099511627776) ∧ (-1099511627776 ≤ b ∧ b ≤ 1099511627776)
  · obtain ⟨⟨a1, a2⟩, ⟨b1, b2⟩⟩ := hs
    obtain ⟨q, hq⟩ : ∃ q, q = (a + b) / 2 := ⟨_, rfl⟩
    have HQ := Lib.hid hq
    have q3 : -1099511627776 ≤ q ∧ q ≤ 1099511627776 := by omega
    obtain ⟨q3, q4⟩ := q3
    have A2 := fun W => Lib.hid (avg_lit [a, b] (by simp [small]; omega) (by simp) W #[.int .i64 a, .int .i64 b] rfl 2 rfl _ rfl q (by simp [avg, Clk.sumL]; omega))
    have A1 := fun W => Lib.hid (avg_lit [a] (by simp [small]; omega) (by simp) W #[.int .i64 a] rfl 1 rfl _ rfl a (by simp [avg, Clk.sumL]))
    have d1 : decide (2 * q ≤ a + b) = true := decide_eq_true (by omega)
    have d2 : decide (a + b - 1 ≤ 2 * q) = true := decide_eq_true (by omega)
    clear hq _h0 _h1
    go_enter Try.func11, Try.ntmps11
    go_wp2_with fail
    refine (A2 _).out.mono ?_
    rintro e w1 ⟨rfl, hb1⟩
    go_wp2_with fail
    go_ways
    refine (A1 _).out.mono ?_
    rintro e w2 ⟨rfl, hb2⟩
    go_wp2_with fail
    refine (known_cl w2).mono ?_
    rintro e w3 ⟨rfl, hb3⟩
    go_wp2
    go_ret
    have hb4 := hb1.trans (hb2.mono hb1.size)
    exact ⟨by simp, hb4.trans (hb3.mono hb4.size)⟩
  · by_cases c1 : a < -1099511627776
    · go_enter Try.func11, Try.ntmps11
      go_wp2
      go_ret
      exact ⟨rfl, Below.refl _ _⟩
    by_cases c2 : 1099511627776 < a
    · go_enter Try.func11, Try.ntmps11
      go_wp2
      go_ret
      exact ⟨rfl, Below.refl _ _⟩
    by_cases c3 : b < -1099511627776
    · go_enter Try.func11, Try.ntmps11
      go_wp2
      go_ret
      exact ⟨rfl, Below.refl _ _⟩
    have c4 : 1099511627776 < b := by omega
    go_enter Try.func11, Try.ntmps11
    go_wp2
    go_ret
    exact ⟨rfl, Below.refl _ _⟩

/-! ### THE ROW's STEP around the walk. -/
theorem own_clockHalf : ownKnob Try.prog.godebug = none := by kernel_rfl
theorem laidOut_clockHalf : laidOutB Try.prog = true := by kernel_rfl
set_option maxRecDepth 100000 in
theorem lifted_clockHalf (os : Os) (started : os.Started) (H : Type) (enc : TypeId × Value → H) :
    ReturnsInHanded {} Try.checked os 11 .any (Rows.clockHalfSpec.pre6 enc Try.prog Try.f11 Rows.clockHalfRow.domain false) (Rows.clockHalfSpec.post enc Try.prog Try.f11 false true false false) := by
  refine returnsInHanded_of_change (C := Try.checked) own_clockHalf started (by kernel_rfl) Try.func11
    (ChangeSpec.witness6 (enc := enc) (C := Try.checked) false ⟨#[], #[.int .i64 0, .int .i64 0], []⟩ 8 (by kernel_rfl) (by kernel_rfl) (by kernel_rfl) (by kernel_rfl)) ?_
  intro W base args ds gs before hval0 hW hcnd _
  have hval : ∀ (j : Nat) t v, Try.f11.params[j]? = some t → args[j]? = some v → Value.okWide Try.prog W .any base t v := hval0
  have hW' := hW
  obtain ⟨p, q, hA0, hV, rfl, hfz, hnd⟩ := hW
  have hA : DataW.TrodAll enc Try.prog W 0 (fun _ => true) true Try.f11.params.toList args.toList ds p := hA0
  rw [Try.params11] at hA hval
  obtain ⟨v0, vs0, d0, ds0, p0, q0, hargs, rfl, rfl, h0, r0⟩ := trodAll_cons hA
  obtain ⟨v1, vs1, d1, ds1, p1, q1, rfl, rfl, rfl, h1, r1⟩ := trodAll_cons r0
  obtain ⟨rfl, rfl, rfl⟩ := trodAll_nil r1
  obtain rfl : args = #[v0, v1] := by cases args; simp_all
  obtain ⟨rfl, rfl⟩ := trodVars_none hV
  obtain ⟨a0, rfl, rfl, rfl, w0⟩ := open_int Try.underlying3 (hval 0 3 v0 rfl rfl) h0
  obtain ⟨a1, rfl, rfl, rfl, w1⟩ := open_int Try.underlying3 (hval 1 3 v1 rfl rfl) h1
  clear hA0 hval0
  refine (walk_clockHalf a0 a1 W (bounds_i64 w0) (bounds_i64 w1)).mono fun e W' ⟨he, bel⟩ => ?_
  subst he
  exact ⟨_, rfl, _, _, _, [], _, [], hW', trodAll_mk1 (shut_bool Try.underlying4 _), (trodAll_cons_mk (shut_int Try.underlying3 w0) (trodAll_cons_mk (shut_int Try.underlying3 w1) trodAll_mk0)), rfl, bel.frame _, fun h => by cases h⟩

theorem over_clockHalf : Rows.clockHalfRow.holds Try.pinned (OpenSpec.ofChange Rows.clockHalfSpec) :=
  OpenClaim.holds_of_wide 11 Try.f11 rfl rfl rfl rfl rfl rfl rfl ⟨rfl, rfl, rfl, rfl, rfl⟩ rfl rfl rfl rfl rfl (by kernel_rfl) Try.func11 (by kernel_rfl)
    (of_decide_eq_true (by kernel_rfl)) (by unfold Func.isWrapper; first | (rw [if_pos (by decide +kernel)]; kernel_rfl) | (rw [if_neg (by decide +kernel)]; exact ⟨rfl, rfl⟩))
    (fun os started H enc _ => lifted_clockHalf os started H enc)

theorem proved_clockHalf : Rows.ClockHalfSaid := over_clockHalf
end Go.Proofs.Ytiaidachigiajaa
