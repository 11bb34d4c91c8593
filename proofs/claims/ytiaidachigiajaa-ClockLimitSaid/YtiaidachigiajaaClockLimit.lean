/- ClockLimit holds: a turn beyond the limit is none. For all numbers. -/
import Derived.Test.YtiaidachigiajaaClE
import Derived.Test.YtiaidachigiajaaClO
namespace Go.Proofs.Ytiaidachigiajaa
open Go.ChangeShapes Go.WideShapes Go.ChangeAt Go.RowKit
open Clk (avg)

set_option maxRecDepth 100000 in
set_option maxHeartbeats 2000000 in
theorem walk_clockLimit (m n : Int) (w : World) (_h0 : -9223372036854775808 ≤ m ∧ m ≤ 9223372036854775807) (_h1 : -9223372036854775808 ≤ n ∧ n ≤ 9223372036854775807) :
    Calls Try.prog 10 #[.int .i64 m, .int .i64 n] w fun e w' => e = .returned (.bool true) ∧ Below w.heap.size w w' := by
  by_cases c1 : m < 0
  · go_enter Try.func10, Try.ntmps10
    go_wp2
    go_ret
    exact ⟨rfl, Below.refl _ _⟩
  by_cases c2 : 1073741824 < m
  · go_enter Try.func10, Try.ntmps10
    go_wp2
    go_ret
    exact ⟨rfl, Below.refl _ _⟩
  by_cases c3 : n < -1099511627776
  · go_enter Try.func10, Try.ntmps10
    go_wp2
    go_ret
    exact ⟨rfl, Below.refl _ _⟩
  by_cases c4 : 1099511627776 < n
  · go_enter Try.func10, Try.ntmps10
    go_wp2
    go_ret
    exact ⟨rfl, Below.refl _ _⟩
  have ha : avg [n] = n := by simp [avg, Clk.sumL]
  have ha0 : avg [] = 0 := rfl
  have hk : keep4 [] n = [n] := by simp [keep4]
  have T1 := fun W (h : ClkAt W w.heap.size m [n]) => term_cl _ m [n] W h (by simp [small]; omega) (by omega)
  have T0 := fun W (h : ClkAt W w.heap.size m []) => term_cl _ m [] W h (by simp [small]) (by omega)
  have M := fun W (h : ClkAt W w.heap.size m []) => measure_cl _ m [] n W h
  have K := fun W (h : ClkAt W w.heap.size m [n]) => clear_cl _ m [n] W h
  have L := fun W (h : ClkAt W w.heap.size m []) => len_cl _ m [] W h
  unfold termV at T1 T0
  rw [ha] at T1
  rw [ha0] at T0
  rw [hk] at M
  have hw0 : wiB m 0 = true := by unfold wiB; exact decide_eq_true (by omega)
  rw [hw0] at T0
  simp only [if_true] at T0
  have hwn : (wiB m n = true ∧ -m ≤ n ∧ n ≤ m) ∨ (wiB m n = false ∧ n < -m) ∨ (wiB m n = false ∧ m < n) := by
    by_cases h : -m ≤ n ∧ n ≤ m
    · exact .inl ⟨decide_eq_true h, h⟩
    · by_cases h' : n < -m
      · exact .inr (.inl ⟨decide_eq_false h, h'⟩)
      · exact .inr (.inr ⟨decide_eq_false h, by omega⟩)
  generalize wiB m n = q at *
  have T0 := fun W h => Lib.hid (T0 W h)
  have M := fun W h => Lib.hid (M W h)
  have K := fun W h => Lib.hid (K W h)
  have L := fun W h => Lib.hid (L W h)
  clear ha ha0 hk hw0
  rcases hwn with ⟨rfl, d1, d2⟩ | ⟨rfl, d1⟩ | ⟨rfl, d1⟩
  all_goals
    simp only [if_true, Bool.false_eq_true, if_false] at T1
    have T1 := fun W h => Lib.hid (T1 W h)
    go_enter Try.func10, Try.ntmps10
    go_wp2_with fail
    refine (new_cl m w).mono ?_
    rintro e w1 ⟨rfl, hc1, hb1, hz1⟩
    have hlt := hc1.1.lt
    have hz1 := Lib.hid hz1
    go_wp2_with fail
    refine (M w1 hc1).out.mono ?_
    rintro e w2 ⟨rfl, hc2, ho2⟩
    have hb2 := hb1.trans (ho2.below (Nat.le_refl _) hlt)
    have hlt2 := hc2.1.lt
    go_wp2_with fail
    refine (T1 w2 hc2).out.mono ?_
    rintro e w3 ⟨rfl, hb3⟩
    have hc3 := hc2.below hb3 hlt2
    have hb3 := hb2.trans (hb3.mono hb2.size)
    go_wp2_with fail
    refine (K w3 hc3).out.mono ?_
    rintro e w4 ⟨rfl, hc4, ho4⟩
    have hb4 := hb3.trans (ho4.below (Nat.le_refl _) hc3.1.lt)
    go_wp2_with fail
    refine (T0 w4 hc4).out.mono ?_
    rintro e w5 ⟨rfl, hb5⟩
    have hc5 := hc4.below hb5 hc4.1.lt
    have hb5 := hb4.trans (hb5.mono hb4.size)
    go_wp2_with fail
    refine (L w5 hc5).out.mono ?_
    rintro e w6 ⟨rfl, rfl⟩
    go_wp2_with fail
    refine (known_cl _).mono ?_
    rintro e w7 ⟨rfl, hb7⟩
    have hb7 := hb5.trans (hb7.mono hb5.size)
    go_wp2
    go_ret
    first | exact ⟨rfl, hb7⟩ | exact ⟨ret_bool (by simp; omega), hb7⟩

/-! ### THE ROW's STEP around the walk. -/
theorem own_clockLimit : ownKnob Try.prog.godebug = none := by kernel_rfl
theorem laidOut_clockLimit : laidOutB Try.prog = true := by kernel_rfl
set_option maxRecDepth 100000 in
theorem lifted_clockLimit (os : Os) (started : os.Started) (H : Type) (enc : TypeId × Value → H) :
    ReturnsInHanded {} Try.checked os 10 .any (Rows.clockLimitSpec.pre6 enc Try.prog Try.f10 Rows.clockLimitRow.domain false) (Rows.clockLimitSpec.post enc Try.prog Try.f10 false true false false) := by
  refine returnsInHanded_of_change (C := Try.checked) own_clockLimit started (by kernel_rfl) Try.func10
    (ChangeSpec.witness6 (enc := enc) (C := Try.checked) false ⟨#[], #[.int .i64 0, .int .i64 0], []⟩ 8 (by kernel_rfl) (by kernel_rfl) (by kernel_rfl) (by kernel_rfl)) ?_
  intro W base args ds gs before hval0 hW hcnd _
  have hval : ∀ (j : Nat) t v, Try.f10.params[j]? = some t → args[j]? = some v → Value.okWide Try.prog W .any base t v := hval0
  have hW' := hW
  obtain ⟨p, q, hA0, hV, rfl, hfz, hnd⟩ := hW
  have hA : DataW.TrodAll enc Try.prog W 0 (fun _ => true) true Try.f10.params.toList args.toList ds p := hA0
  rw [Try.params10] at hA hval
  obtain ⟨v0, vs0, d0, ds0, p0, q0, hargs, rfl, rfl, h0, r0⟩ := trodAll_cons hA
  obtain ⟨v1, vs1, d1, ds1, p1, q1, rfl, rfl, rfl, h1, r1⟩ := trodAll_cons r0
  obtain ⟨rfl, rfl, rfl⟩ := trodAll_nil r1
  obtain rfl : args = #[v0, v1] := by cases args; simp_all
  obtain ⟨rfl, rfl⟩ := trodVars_none hV
  obtain ⟨a0, rfl, rfl, rfl, w0⟩ := open_int Try.underlying3 (hval 0 3 v0 rfl rfl) h0
  obtain ⟨a1, rfl, rfl, rfl, w1⟩ := open_int Try.underlying3 (hval 1 3 v1 rfl rfl) h1
  clear hA0 hval0
  refine (walk_clockLimit a0 a1 W (bounds_i64 w0) (bounds_i64 w1)).mono fun e W' ⟨he, bel⟩ => ?_
  subst he
  exact ⟨_, rfl, _, _, _, [], _, [], hW', trodAll_mk1 (shut_bool Try.underlying4 _), (trodAll_cons_mk (shut_int Try.underlying3 w0) (trodAll_cons_mk (shut_int Try.underlying3 w1) trodAll_mk0)), rfl, bel.frame _, fun h => by cases h⟩

theorem over_clockLimit : Rows.clockLimitRow.holds Try.pinned (OpenSpec.ofChange Rows.clockLimitSpec) :=
  OpenClaim.holds_of_wide 10 Try.f10 rfl rfl rfl rfl rfl rfl rfl ⟨rfl, rfl, rfl, rfl, rfl⟩ rfl rfl rfl rfl rfl (by kernel_rfl) Try.func10 (by kernel_rfl)
    (of_decide_eq_true (by kernel_rfl)) (by unfold Func.isWrapper; first | (rw [if_pos (by decide +kernel)]; kernel_rfl) | (rw [if_neg (by decide +kernel)]; exact ⟨rfl, rfl⟩))
    (fun os started H enc _ => lifted_clockLimit os started H enc)

theorem proved_clockLimit : Rows.ClockLimitSaid := over_clockLimit
end Go.Proofs.Ytiaidachigiajaa
