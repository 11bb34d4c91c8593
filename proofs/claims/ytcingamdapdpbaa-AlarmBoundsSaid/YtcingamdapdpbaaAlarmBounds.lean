/- AlarmBounds holds: a byte rings just if it lies beyond its bounds. For all bytes and bounds. -/
import Derived.Test.YtcingamdapdpbaaAlL
import Derived.Test.YtcingamdapdpbaaOpen
namespace Go.Proofs.Ytcingamdapdpbaa
open Go.ChangeShapes Go.WideShapes Go.ChangeAt Go.RowKit

set_option maxRecDepth 100000 in
set_option maxHeartbeats 2000000 in
theorem bounds_core (b lo hi : Int) (q : Bool) (z : Nat) (w : World) (wx : IntKind.i64.wrap b = b) (hb : 0 ≤ b ∧ b < 256)
    (n1 : whyM ⟨0, lo, hi, 3⟩ [b] 3 q = z) (n2 : whyM ⟨0, lo, hi, 3⟩ [b] 4 q = z + 4)
    (t1 : ((bits BinOp.and IntKind.i64 (z : Nat) 1 != 0) == decide (b < lo)) = true) (t2 : ((bits BinOp.and IntKind.i64 (z : Nat) 2 != 0) == decide (hi < b)) = true) (t3 : ((bits BinOp.and IntKind.i64 (z : Nat) 8 != 0) == !q) = true) (t4 : (bits BinOp.and IntKind.i64 (z : Nat) 4 == 0) = true) (t5 : (((z : Nat) : Int) + 4 == bits BinOp.or IntKind.i64 (z : Nat) 4) = true) :
    Calls Try.prog 7 #[.int .u8 b, .int .i64 lo, .int .i64 hi, .bool q] w fun e w' => e = .returned (.bool true) ∧ Below w.heap.size w w' := by
  have b1 := (Below.refl w.heap.size w).alloc (Nat.le_refl _) (.cells #[.int .i64 0, .int .i64 lo, .int .i64 hi, .int .i64 3] 23)
  have hX := Blk.new w w.heap.size rfl #[.int .i64 0, .int .i64 lo, .int .i64 hi, .int .i64 3] 23
  have H1 := fun W k hk => Lib.hid (why_al ⟨0, lo, hi, 3⟩ (.slice (some ⟨k, 0, none⟩) 1 1) [b] 3 q (W.heap.size + 1) (W.alloc (.cells #[.int .u8 b] 5)) (sees_lit W _ _ [b] rfl _ (Nat.lt_succ_self _) (by unfold maxLen; simp) k 1 1 hk rfl rfl) (byt1 hb))
  have H2 := fun W k hk => Lib.hid (why_al ⟨0, lo, hi, 3⟩ (.slice (some ⟨k, 0, none⟩) 1 1) [b] 4 q (W.heap.size + 1) (W.alloc (.cells #[.int .u8 b] 5)) (sees_lit W _ _ [b] rfl _ (Nat.lt_succ_self _) (by unfold maxLen; simp) k 1 1 hk rfl rfl) (byt1 hb))
  rw [n1] at H1
  rw [n2] at H2
  clear n1 n2 hb
  go_enter Try.func7, Try.ntmps7
  go_wp2_with fail
  refine (H1 _ _ (by simp)).out.mono ?_
  rintro _ w2 ⟨rfl, b2⟩
  have hX2 := (hX.alloc (.cells #[.int .u8 b] 5)).below b2 (by simp; omega)
  have x0 := hX2.cell 0 (x := .int .i64 0) rfl
  have x1 := hX2.cell 1 (x := .int .i64 lo) rfl
  have x2 := hX2.cell 2 (x := .int .i64 hi) rfl
  have x3 := hX2.cell 3 (x := .int .i64 3) rfl
  have b3 := (b1.alloc b1.size (.cells #[.int .u8 b] 5)).trans (b2.mono (by simp; omega))
  clear b2
  go_wp2_with fail
  refine (H2 _ _ (by simp)).out.mono ?_
  rintro _ w4 ⟨rfl, b4⟩
  have b5 := (b3.alloc b3.size (.cells #[.int .u8 b] 5)).trans (b4.mono (by have := b3.size; simp; omega))
  go_wp2_with fail
  refine (known_al _).mono ?_
  rintro _ w6 ⟨rfl, b6⟩
  have b7 := b5.trans (b6.mono b5.size)
  go_wp2
  go_ret
  exact ⟨rfl, b7⟩
set_option maxRecDepth 100000 in
set_option maxHeartbeats 2000000 in
theorem walk_alarmBounds (b lo hi : Int) (q : Bool) (w : World) (hb : 0 ≤ b ∧ b ≤ 255) (_h1 : -9223372036854775808 ≤ lo ∧ lo ≤ 9223372036854775807) (_h2 : -9223372036854775808 ≤ hi ∧ hi ≤ 9223372036854775807) :
    Calls Try.prog 7 #[.int .u8 b, .int .i64 lo, .int .i64 hi, .bool q] w fun e w' => e = .returned (.bool true) ∧ Below w.heap.size w w' := by
  have wx : IntKind.i64.wrap b = b := IntWalk.i64_in _ (by omega)
  by_cases h000 : (¬ b < lo) ∧ (¬ hi < b) ∧ q = false
  · obtain ⟨e1, e2, rfl⟩ := h000
    refine bounds_core b lo hi false 8 w wx (by omega) ?_ ?_ ?_ ?_ (by decide) (by decide) (by decide)
    · unfold whyM
      simp [e1, e2]
    · unfold whyM
      simp [e1, e2]
    · rw [decide_eq_false e1]
      decide
    · rw [decide_eq_false e2]
      decide
  by_cases h001 : (¬ b < lo) ∧ (¬ hi < b) ∧ q = true
  · obtain ⟨e1, e2, rfl⟩ := h001
    refine bounds_core b lo hi true 0 w wx (by omega) ?_ ?_ ?_ ?_ (by decide) (by decide) (by decide)
    · unfold whyM
      simp [e1, e2]
    · unfold whyM
      simp [e1, e2]
    · rw [decide_eq_false e1]
      decide
    · rw [decide_eq_false e2]
      decide
  by_cases h010 : (¬ b < lo) ∧ (hi < b) ∧ q = false
  · obtain ⟨e1, e2, rfl⟩ := h010
    refine bounds_core b lo hi false 10 w wx (by omega) ?_ ?_ ?_ ?_ (by decide) (by decide) (by decide)
    · unfold whyM
      simp [e1, e2]
    · unfold whyM
      simp [e1, e2]
    · rw [decide_eq_false e1]
      decide
    · rw [decide_eq_true e2]
      decide
  by_cases h011 : (¬ b < lo) ∧ (hi < b) ∧ q = true
  · obtain ⟨e1, e2, rfl⟩ := h011
    refine bounds_core b lo hi true 2 w wx (by omega) ?_ ?_ ?_ ?_ (by decide) (by decide) (by decide)
    · unfold whyM
      simp [e1, e2]
    · unfold whyM
      simp [e1, e2]
    · rw [decide_eq_false e1]
      decide
    · rw [decide_eq_true e2]
      decide
  by_cases h100 : (b < lo) ∧ (¬ hi < b) ∧ q = false
  · obtain ⟨e1, e2, rfl⟩ := h100
    refine bounds_core b lo hi false 9 w wx (by omega) ?_ ?_ ?_ ?_ (by decide) (by decide) (by decide)
    · unfold whyM
      simp [e1, e2]
    · unfold whyM
      simp [e1, e2]
    · rw [decide_eq_true e1]
      decide
    · rw [decide_eq_false e2]
      decide
  by_cases h101 : (b < lo) ∧ (¬ hi < b) ∧ q = true
  · obtain ⟨e1, e2, rfl⟩ := h101
    refine bounds_core b lo hi true 1 w wx (by omega) ?_ ?_ ?_ ?_ (by decide) (by decide) (by decide)
    · unfold whyM
      simp [e1, e2]
    · unfold whyM
      simp [e1, e2]
    · rw [decide_eq_true e1]
      decide
    · rw [decide_eq_false e2]
      decide
  by_cases h110 : (b < lo) ∧ (hi < b) ∧ q = false
  · obtain ⟨e1, e2, rfl⟩ := h110
    refine bounds_core b lo hi false 11 w wx (by omega) ?_ ?_ ?_ ?_ (by decide) (by decide) (by decide)
    · unfold whyM
      simp [e1, e2]
    · unfold whyM
      simp [e1, e2]
    · rw [decide_eq_true e1]
      decide
    · rw [decide_eq_true e2]
      decide
  by_cases h111 : (b < lo) ∧ (hi < b) ∧ q = true
  · obtain ⟨e1, e2, rfl⟩ := h111
    refine bounds_core b lo hi true 3 w wx (by omega) ?_ ?_ ?_ ?_ (by decide) (by decide) (by decide)
    · unfold whyM
      simp [e1, e2]
    · unfold whyM
      simp [e1, e2]
    · rw [decide_eq_true e1]
      decide
    · rw [decide_eq_true e2]
      decide
  exfalso
  cases q <;> by_cases e1 : b < lo <;> by_cases e2 : hi < b <;> simp_all

/-! ### THE ROW's STEP around the walk. -/
theorem own_alarmBounds : ownKnob Try.prog.godebug = none := by kernel_rfl
theorem laidOut_alarmBounds : laidOutB Try.prog = true := by kernel_rfl
set_option maxRecDepth 100000 in
theorem lifted_alarmBounds (os : Os) (started : os.Started) (H : Type) (enc : TypeId × Value → H) :
    ReturnsInHanded {} Try.checked os 7 .any (Rows.alarmBoundsSpec.pre6 enc Try.prog Try.f7 Rows.alarmBoundsRow.domain false) (Rows.alarmBoundsSpec.post enc Try.prog Try.f7 false true false false) := by
  refine returnsInHanded_of_change (C := Try.checked) own_alarmBounds started (by kernel_rfl) Try.func7
    (ChangeSpec.witness6 (enc := enc) (C := Try.checked) false ⟨#[], #[.int .u8 0, .int .i64 0, .int .i64 0, .bool false], []⟩ 8 (by kernel_rfl) (by kernel_rfl) (by kernel_rfl) (by kernel_rfl)) ?_
  intro W base args ds gs before hval0 hW hcnd _
  have hval : ∀ (j : Nat) t v, Try.f7.params[j]? = some t → args[j]? = some v → Value.okWide Try.prog W .any base t v := hval0
  have hW' := hW
  obtain ⟨p, q, hA0, hV, rfl, hfz, hnd⟩ := hW
  have hA : DataW.TrodAll enc Try.prog W 0 (fun _ => true) true Try.f7.params.toList args.toList ds p := hA0
  rw [Try.params7] at hA hval
  obtain ⟨v0, vs0, d0, ds0, p0, q0, hargs, rfl, rfl, h0, r0⟩ := trodAll_cons hA
  obtain ⟨v1, vs1, d1, ds1, p1, q1, rfl, rfl, rfl, h1, r1⟩ := trodAll_cons r0
  obtain ⟨v2, vs2, d2, ds2, p2, q2, rfl, rfl, rfl, h2, r2⟩ := trodAll_cons r1
  obtain ⟨v3, vs3, d3, ds3, p3, q3, rfl, rfl, rfl, h3, r3⟩ := trodAll_cons r2
  obtain ⟨rfl, rfl, rfl⟩ := trodAll_nil r3
  obtain rfl : args = #[v0, v1, v2, v3] := by cases args; simp_all
  obtain ⟨rfl, rfl⟩ := trodVars_none hV
  obtain ⟨a0, rfl, rfl, rfl, w0⟩ := open_int Try.underlying5 (hval 0 5 v0 rfl rfl) h0
  obtain ⟨a1, rfl, rfl, rfl, w1⟩ := open_int Try.underlying3 (hval 1 3 v1 rfl rfl) h1
  obtain ⟨a2, rfl, rfl, rfl, w2⟩ := open_int Try.underlying3 (hval 2 3 v2 rfl rfl) h2
  obtain ⟨a3, rfl, rfl, rfl⟩ := open_bool Try.underlying4 (hval 3 4 v3 rfl rfl) h3
  clear hA0 hval0
  refine (walk_alarmBounds a0 a1 a2 a3 W (bounds_u8 w0) (bounds_i64 w1) (bounds_i64 w2)).mono fun e W' ⟨he, bel⟩ => ?_
  subst he
  exact ⟨_, rfl, _, _, _, [], _, [], hW', trodAll_mk1 (shut_bool Try.underlying4 _), (trodAll_cons_mk (shut_int Try.underlying5 w0) (trodAll_cons_mk (shut_int Try.underlying3 w1) (trodAll_cons_mk (shut_int Try.underlying3 w2) (trodAll_cons_mk (shut_bool Try.underlying4 _) trodAll_mk0)))), rfl, bel.frame _, fun h => by cases h⟩

theorem over_alarmBounds : Rows.alarmBoundsRow.holds Try.pinned (OpenSpec.ofChange Rows.alarmBoundsSpec) :=
  OpenClaim.holds_of_wide 7 Try.f7 rfl rfl rfl rfl rfl rfl rfl ⟨rfl, rfl, rfl, rfl, rfl⟩ rfl rfl rfl rfl rfl (by kernel_rfl) Try.func7 (by kernel_rfl)
    (of_decide_eq_true (by kernel_rfl)) (by unfold Func.isWrapper; first | (rw [if_pos (by decide +kernel)]; kernel_rfl) | (rw [if_neg (by decide +kernel)]; exact ⟨rfl, rfl⟩))
    (fun os started H enc _ => lifted_alarmBounds os started H enc)

theorem proved_alarmBounds : Rows.AlarmBoundsSaid := over_alarmBounds
end Go.Proofs.Ytcingamdapdpbaa
