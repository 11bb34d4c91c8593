/- GuardOfNothing holds: a nil Guard passes nobody. For all senders and bytes. -/
import Derived.Test.YthigojakapgllaaGdG
import Derived.Test.YthigojakapgllaaGdO
namespace Go.Proofs.Ythigojakapgllaa
open Go.ChangeShapes Go.WideShapes Go.ChangeAt Go.RowKit

set_option maxRecDepth 100000 in
set_option maxHeartbeats 2000000 in
theorem walk_guardOfNothing (b0 b1 b2 b3 b4 b5 b6 b7 : Bool) (A : Option Addr) (n c : Nat) (z : Nat → Int) (w : World) (_h : InBytes w A n c z) :
    Calls Try.prog 7 #[bools8 (bs8 b0 b1 b2 b3 b4 b5 b6 b7), .slice A n c] w fun e w' => e = .returned (.bool true) ∧ Below w.heap.size w w' := by
  generalize bs8 b0 b1 b2 b3 b4 b5 b6 b7 = f
  have hB := (Below.refl w.heap.size w).alloc (Nat.le_refl _) (.cells #[.bool (f 0), .bool (f 1), .bool (f 2), .bool (f 3), .bool (f 4), .bool (f 5), .bool (f 6), .bool (f 7)] 22)
  have hX := Blk.new w _ rfl #[.bool (f 0), .bool (f 1), .bool (f 2), .bool (f 3), .bool (f 4), .bool (f 5), .bool (f 6), .bool (f 7)] 22
  have hP := fun W => Lib.hid (show Calls Try.prog 16 #[.pointer none, .agg #[.bool (f 0), .bool (f 1), .bool (f 2), .bool (f 3), .bool (f 4), .bool (f 5), .bool (f 6), .bool (f 7)], .agg #[.int .i64 0, .int .i64 0, .int .i64 0, .int .i64 0, .int .i64 0, .int .i64 0, .int .i64 0, .int .i64 0]] W fun e w' => e = .returned (.int .i64 (-1)) ∧ Below W.heap.size W w' from
    pass_nil f (fun _ => 0) W)
  have hE := fun W => Lib.hid (end_nil (.slice A n c) 1 W)
  have hK := fun W => Lib.hid (knows_nil W)
  have hW := fun W => Lib.hid (now_nil W)
  have hKn := fun W => Lib.hid (known_gd W)
  unfold bools8
  generalize hw0 : w.alloc (.cells #[.bool (f 0), .bool (f 1), .bool (f 2), .bool (f 3), .bool (f 4), .bool (f 5), .bool (f 6), .bool (f 7)] 22) = w0 at *
  have e0 := hX.cell 0 (x := .bool (f 0)) rfl
  have e1 := hX.cell 1 (x := .bool (f 1)) rfl
  have e2 := hX.cell 2 (x := .bool (f 2)) rfl
  have e3 := hX.cell 3 (x := .bool (f 3)) rfl
  have e4 := hX.cell 4 (x := .bool (f 4)) rfl
  have e5 := hX.cell 5 (x := .bool (f 5)) rfl
  have e6 := hX.cell 6 (x := .bool (f 6)) rfl
  have e7 := hX.cell 7 (x := .bool (f 7)) rfl

  go_enter Try.func7, Try.ntmps7
  go_wp2_with fail
  · go_ret
    exact ⟨rfl, hB⟩
  refine (hE w0).out.mono ?_
  rintro e w1 ⟨rfl, rfl⟩
  go_wp2_with fail
  refine (hK _).out.mono ?_
  rintro e w1 ⟨rfl, rfl⟩
  go_wp2_with fail
  refine (hP _).out.mono ?_
  rintro e w1 ⟨rfl, hb1⟩
  have hB1 := hB.trans (hb1.mono hB.size)
  go_wp2_with fail
  refine (hW _).out.mono ?_
  rintro e w2 ⟨rfl, rfl⟩
  go_wp2_with fail
  refine (hKn _).out.mono ?_
  rintro e w2 ⟨rfl, hb2⟩
  go_wp2
  go_ret
  exact ⟨rfl, hB1.trans (hb2.mono hB1.size)⟩

/-! ### THE ROW's STEP around the walk. -/
theorem own_guardOfNothing : ownKnob Try.prog.godebug = none := by kernel_rfl
theorem laidOut_guardOfNothing : laidOutB Try.prog = true := by kernel_rfl
set_option maxRecDepth 100000 in
theorem lifted_guardOfNothing (os : Os) (started : os.Started) (H : Type) (enc : TypeId × Value → H) :
    ReturnsInHanded {} Try.checked os 7 .any (Rows.guardOfNothingSpec.pre6 enc Try.prog Try.f7 Rows.guardOfNothingRow.domain false) (Rows.guardOfNothingSpec.post enc Try.prog Try.f7 false true false false) := by
  refine returnsInHanded_of_change (C := Try.checked) own_guardOfNothing started (by kernel_rfl) Try.func7
    (ChangeSpec.witness6 (enc := enc) (C := Try.checked) false ⟨#[], #[.agg #[.bool false, .bool false, .bool false, .bool false, .bool false, .bool false, .bool false, .bool false], .slice none 0 0], []⟩ 8 (by kernel_rfl) (by kernel_rfl) (by kernel_rfl) (by kernel_rfl)) ?_
  intro W base args ds gs before hval0 hW hcnd _
  have hval : ∀ (j : Nat) t v, Try.f7.params[j]? = some t → args[j]? = some v → Value.okWide Try.prog W .any base t v := hval0
  have hW' := hW
  obtain ⟨p, q, hA0, hV, rfl, hfz, hnd⟩ := hW
  have hA : DataW.TrodAll enc Try.prog W 0 (fun _ => true) true Try.f7.params.toList args.toList ds p := hA0
  rw [Try.params7] at hA hval
  obtain ⟨v0, vs0, d0, ds0, p0, q0, hargs, rfl, rfl, h0, r0⟩ := trodAll_cons hA
  obtain ⟨v1, vs1, d1, ds1, p1, q1, rfl, rfl, rfl, h1, r1⟩ := trodAll_cons r0
  obtain ⟨rfl, rfl, rfl⟩ := trodAll_nil r1
  obtain rfl : args = #[v0, v1] := by cases args; simp_all
  obtain ⟨rfl, rfl⟩ := trodVars_none hV
  obtain ⟨y0_0, y0_1, y0_2, y0_3, y0_4, y0_5, y0_6, y0_7, rfl⟩ := sees_bools8 Try.underlying22 (by kernel_rfl) Try.underlying4 (by kernel_rfl) (hval 0 22 v0 rfl rfl) h0
  have k0 := h0
  have lt0 : ∀ x ∈ p0, x.block < W.heap.size := by obtain ⟨m, hm⟩ := k0; exact DataW.trod_lt m _ _ _ hm
  obtain ⟨A1, n1, c1, rfl⟩ := okWide_slice Try.underlying32 (hval 1 32 v1 rfl rfl)
  have k1 := h1
  have lt1 : ∀ x ∈ p1, x.block < W.heap.size := by obtain ⟨m, hm⟩ := k1; exact DataW.trod_lt m _ _ _ hm
  obtain ⟨z1, s1⟩ := sees_bytes Try.underlying32 Try.underlying5 (by kernel_rfl) h1
  clear hA0 hval0
  refine (walk_guardOfNothing y0_0 y0_1 y0_2 y0_3 y0_4 y0_5 y0_6 y0_7 A1 n1 c1 z1 W s1).mono fun e W' ⟨he, bel⟩ => ?_
  subst he
  exact ⟨_, rfl, _, _, _, [], _, [], hW', trodAll_mk1 (shut_bool Try.underlying4 _), (trodAll_cons_mk (Below.trod laidOut_guardOfNothing (by kernel_rfl) (of_decide_eq_true (by kernel_rfl)) k0 bel lt0) (trodAll_cons_mk (Below.trod laidOut_guardOfNothing (by kernel_rfl) (of_decide_eq_true (by kernel_rfl)) k1 bel lt1) trodAll_mk0)), rfl, bel.frame _, fun h => by cases h⟩

theorem over_guardOfNothing : Rows.guardOfNothingRow.holds Try.pinned (OpenSpec.ofChange Rows.guardOfNothingSpec) :=
  OpenClaim.holds_of_wide 7 Try.f7 rfl rfl rfl rfl rfl rfl rfl ⟨rfl, rfl, rfl, rfl, rfl⟩ rfl rfl rfl rfl rfl (by kernel_rfl) Try.func7 (by kernel_rfl)
    (of_decide_eq_true (by kernel_rfl)) (by unfold Func.isWrapper; first | (rw [if_pos (by decide +kernel)]; kernel_rfl) | (rw [if_neg (by decide +kernel)]; exact ⟨rfl, rfl⟩))
    (fun os started H enc _ => lifted_guardOfNothing os started H enc)

theorem proved_guardOfNothing : Rows.GuardOfNothingSaid := over_guardOfNothing
end Go.Proofs.Ythigojakapgllaa
