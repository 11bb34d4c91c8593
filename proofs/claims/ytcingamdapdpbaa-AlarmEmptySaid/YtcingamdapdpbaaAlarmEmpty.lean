/- AlarmEmpty holds: a message without bytes is neither low nor high. For all rules and ages. -/
import Derived.Test.YtcingamdapdpbaaAlL
import Derived.Test.YtcingamdapdpbaaOpen
import Derived.Test.YtcingamdapdpbaaAlO
namespace Go.Proofs.Ytcingamdapdpbaa
open Go.ChangeShapes Go.WideShapes Go.ChangeAt Go.RowKit

theorem empty_why (y : R4) (a : Int) (g : Bool) : whyM y [] a g = 0 ∨ whyM y [] a g = 4 ∨ whyM y [] a g = 8 ∨ whyM y [] a g = 12 := by
  unfold whyM
  rw [if_neg (fun h => h.1 rfl), if_neg (fun h => h.1 rfl)]
  cases g <;> by_cases h : y.st < a ∨ a = -1 <;> simp [h]
theorem empty_bits {z : Nat} (h : z = 0 ∨ z = 4 ∨ z = 8 ∨ z = 12) : bits BinOp.and IntKind.i64 (z : Nat) 3 = 0 := by
  rcases h with rfl | rfl | rfl | rfl <;> decide
set_option maxRecDepth 100000 in
set_option maxHeartbeats 2000000 in
theorem walk_alarmEmpty (y : R4) (a : Int) (g : Bool) (w : World) (_h : -9223372036854775808 ≤ a ∧ a ≤ 9223372036854775807) :
    Calls Try.prog 8 #[y.v, .int .i64 a, .bool g] w fun e w' => e = .returned (.bool true) ∧ Below w.heap.size w w' := by
  have b1 := (Below.refl w.heap.size w).alloc (Nat.le_refl _) (.cells #[.int .i64 y.n, .int .i64 y.lo, .int .i64 y.hi, .int .i64 y.st] 23)
  have hX := (Blk.new w w.heap.size rfl #[.int .i64 y.n, .int .i64 y.lo, .int .i64 y.hi, .int .i64 y.st] 23)
  have HW1 := fun W => Lib.hid (why_al y _ [] a g 0 W SeesL.nil (fun x hx => by simp at hx))
  have HW2 := fun W => Lib.hid (why_rf y _ [] a g 0 W SeesL.nil (fun x hx => by simp at hx))
  unfold R4.v at *
  have hq : ((whyM y [] a g : Nat) : Int) == ((whyM y [] a g : Nat) : Int) := by simp
  have hbt := empty_bits (empty_why y a g)
  generalize whyM y [] a g = z at *
  go_enter Try.func8, Try.ntmps8
  go_wp2_with fail
  refine (HW1 _).out.mono ?_
  rintro _ w2 ⟨rfl, b2⟩
  have hX2 := hX.below b2 hX.lt
  have x0 := hX2.cell 0 (x := .int .i64 y.n) rfl
  have x1 := hX2.cell 1 (x := .int .i64 y.lo) rfl
  have x2 := hX2.cell 2 (x := .int .i64 y.hi) rfl
  have x3 := hX2.cell 3 (x := .int .i64 y.st) rfl
  have b3 := b1.trans (b2.mono b1.size)
  go_wp2_with fail
  refine (HW2 _).out.mono ?_
  rintro _ w4 ⟨rfl, b4⟩
  have b5 := b3.trans (b4.mono b3.size)
  go_wp2_with fail
  refine (known_al _).mono ?_
  rintro _ w6 ⟨rfl, b6⟩
  have b7 := b5.trans (b6.mono b5.size)
  go_wp2
  go_ret
  exact ⟨rfl, b7⟩

/-! ### THE ROW's STEP around the walk. -/
theorem own_alarmEmpty : ownKnob Try.prog.godebug = none := by kernel_rfl
theorem laidOut_alarmEmpty : laidOutB Try.prog = true := by kernel_rfl
set_option maxRecDepth 100000 in
theorem lifted_alarmEmpty (os : Os) (started : os.Started) (H : Type) (enc : TypeId × Value → H) :
    ReturnsInHanded {} Try.checked os 8 .any (Rows.alarmEmptySpec.pre6 enc Try.prog Try.f8 Rows.alarmEmptyRow.domain false) (Rows.alarmEmptySpec.post enc Try.prog Try.f8 false true false false) := by
  refine returnsInHanded_of_change (C := Try.checked) own_alarmEmpty started (by kernel_rfl) Try.func8
    (ChangeSpec.witness6 (enc := enc) (C := Try.checked) false ⟨#[], #[.agg #[.int .i64 0, .int .i64 0, .int .i64 0, .int .i64 0], .int .i64 0, .bool false], []⟩ 8 (by kernel_rfl) (by kernel_rfl) (by kernel_rfl) (by kernel_rfl)) ?_
  intro W base args ds gs before hval0 hW hcnd _
  have hval : ∀ (j : Nat) t v, Try.f8.params[j]? = some t → args[j]? = some v → Value.okWide Try.prog W .any base t v := hval0
  have hW' := hW
  obtain ⟨p, q, hA0, hV, rfl, hfz, hnd⟩ := hW
  have hA : DataW.TrodAll enc Try.prog W 0 (fun _ => true) true Try.f8.params.toList args.toList ds p := hA0
  rw [Try.params8] at hA hval
  obtain ⟨v0, vs0, d0, ds0, p0, q0, hargs, rfl, rfl, h0, r0⟩ := trodAll_cons hA
  obtain ⟨v1, vs1, d1, ds1, p1, q1, rfl, rfl, rfl, h1, r1⟩ := trodAll_cons r0
  obtain ⟨v2, vs2, d2, ds2, p2, q2, rfl, rfl, rfl, h2, r2⟩ := trodAll_cons r1
  obtain ⟨rfl, rfl, rfl⟩ := trodAll_nil r2
  obtain rfl : args = #[v0, v1, v2] := by cases args; simp_all
  obtain ⟨rfl, rfl⟩ := trodVars_none hV
  obtain ⟨y0, rfl⟩ := sees_rule Try.underlying23 (by kernel_rfl) ⟨rfl, rfl⟩ ⟨rfl, rfl⟩ ⟨rfl, rfl⟩ ⟨rfl, rfl⟩ Try.underlying3 (by kernel_rfl) (hval 0 23 v0 rfl rfl) h0
  have k0 := h0
  have lt0 : ∀ x ∈ p0, x.block < W.heap.size := by obtain ⟨m, hm⟩ := k0; exact DataW.trod_lt m _ _ _ hm
  obtain ⟨a1, rfl, rfl, rfl, w1⟩ := open_int Try.underlying3 (hval 1 3 v1 rfl rfl) h1
  obtain ⟨a2, rfl, rfl, rfl⟩ := open_bool Try.underlying4 (hval 2 4 v2 rfl rfl) h2
  clear hA0 hval0
  refine (walk_alarmEmpty y0 a1 a2 W (bounds_i64 w1)).mono fun e W' ⟨he, bel⟩ => ?_
  subst he
  exact ⟨_, rfl, _, _, _, [], _, [], hW', trodAll_mk1 (shut_bool Try.underlying4 _), (trodAll_cons_mk (Below.trod laidOut_alarmEmpty (by kernel_rfl) (of_decide_eq_true (by kernel_rfl)) k0 bel lt0) (trodAll_cons_mk (shut_int Try.underlying3 w1) (trodAll_cons_mk (shut_bool Try.underlying4 _) trodAll_mk0))), rfl, bel.frame _, fun h => by cases h⟩

theorem over_alarmEmpty : Rows.alarmEmptyRow.holds Try.pinned (OpenSpec.ofChange Rows.alarmEmptySpec) :=
  OpenClaim.holds_of_wide 8 Try.f8 rfl rfl rfl rfl rfl rfl rfl ⟨rfl, rfl, rfl, rfl, rfl⟩ rfl rfl rfl rfl rfl (by kernel_rfl) Try.func8 (by kernel_rfl)
    (of_decide_eq_true (by kernel_rfl)) (by unfold Func.isWrapper; first | (rw [if_pos (by decide +kernel)]; kernel_rfl) | (rw [if_neg (by decide +kernel)]; exact ⟨rfl, rfl⟩))
    (fun os started H enc _ => lifted_alarmEmpty os started H enc)

theorem proved_alarmEmpty : Rows.AlarmEmptySaid := over_alarmEmpty
end Go.Proofs.Ytcingamdapdpbaa
