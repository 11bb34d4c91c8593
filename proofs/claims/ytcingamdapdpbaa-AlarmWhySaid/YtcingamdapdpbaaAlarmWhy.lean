/- AlarmWhy holds: of every rule and message why it rings. For all rules and messages. -/
import Derived.Test.YtcingamdapdpbaaAlL
import Derived.Test.YtcingamdapdpbaaOpen
import Derived.Test.YtcingamdapdpbaaAlO
import Derived.Deep.RegionHeld3
namespace Go.Proofs.Ytcingamdapdpbaa
open Go.ChangeShapes Go.WideShapes Go.ChangeAt Go.RowKit

set_option maxRecDepth 100000 in
set_option maxHeartbeats 2000000 in
theorem walk_alarmWhy (y : R4) (l : List Int) (A : Option Addr) (c : Nat) (a : Int) (g : Bool) (w : World) (s : SeesL w w.heap.size (.slice A l.length c) l ∧ bytesL l) :
    Calls Try.prog 3 #[y.v, .agg #[.slice A l.length c, .int .i64 a, .bool g]] w fun e w' => e = .returned (.bool true) ∧ Below w.heap.size w w' := by
  obtain ⟨hv, hl⟩ := s
  have b0 := (Below.refl w.heap.size w).alloc (Nat.le_refl _) (.cells #[.int .i64 y.n, .int .i64 y.lo, .int .i64 y.hi, .int .i64 y.st] 23)
  have b1 := b0.alloc b0.size (.cells #[.slice A l.length c, .int .i64 a, .bool g] 26)
  unfold R4.v
  by_cases call : l.length ≤ 20
  case neg =>
    have d1 : decide ((20 : Int) < ((l.length : Nat) : Int)) = true := decide_eq_true (by omega)
    clear hv hl b0
    go_enter Try.func3, Try.ntmps3
    go_wp2
    go_ret
    exact ⟨rfl, b1⟩
  have d1 : decide ((20 : Int) < ((l.length : Nat) : Int)) = false := decide_eq_false (by omega)
  have hX := (Blk.new w w.heap.size rfl #[.int .i64 y.n, .int .i64 y.lo, .int .i64 y.hi, .int .i64 y.st] 23).alloc (.cells #[.slice A l.length c, .int .i64 a, .bool g] 26)
  have hY := Blk.new (w.alloc (.cells #[.int .i64 y.n, .int .i64 y.lo, .int .i64 y.hi, .int .i64 y.st] 23)) (w.heap.size + 1) (by simp) #[.slice A l.length c, .int .i64 a, .bool g] 26
  have HW1 := fun W (hW : Below w.heap.size w W) => Lib.hid (why_al y _ l a g _ W (hv.below hW) hl)
  have HW2 := fun W (hW : Below w.heap.size w W) => Lib.hid (why_rf y _ l a g _ W (hv.below hW) hl)
  unfold R4.v at HW1 HW2
  have hq : ((whyM y l a g : Nat) : Int) == ((whyM y l a g : Nat) : Int) := by simp
  generalize whyM y l a g = z at *
  have hz : (w.alloc (.cells #[.int .i64 y.n, .int .i64 y.lo, .int .i64 y.hi, .int .i64 y.st] 23)).heap.size = w.heap.size + 1 := by simp
  clear b0 hv hl
  have HS : ∀ W, Blk W w.heap.size #[.int .i64 y.n, .int .i64 y.lo, .int .i64 y.hi, .int .i64 y.st] 23 → Blk W (w.heap.size + 1) #[.slice A l.length c, .int .i64 a, .bool g] 26 → W.cell? ⟨w.heap.size, 0, none⟩ = some (.int .i64 y.n) ∧ W.cell? ⟨w.heap.size, 1, none⟩ = some (.int .i64 y.lo) ∧ W.cell? ⟨w.heap.size, 2, none⟩ = some (.int .i64 y.hi) ∧ W.cell? ⟨w.heap.size, 3, none⟩ = some (.int .i64 y.st) ∧ W.cell? ⟨w.heap.size + 1, 0, none⟩ = some (.slice A l.length c) ∧ W.cell? ⟨w.heap.size + 1, 1, none⟩ = some (.int .i64 a) ∧ W.cell? ⟨w.heap.size + 1, 2, none⟩ = some (.bool g) := fun W hx hy => ⟨Blk.cell hx 0 rfl, Blk.cell hx 1 rfl, Blk.cell hx 2 rfl, Blk.cell hx 3 rfl, Blk.cell hy 0 rfl, Blk.cell hy 1 rfl, Blk.cell hy 2 rfl⟩
  have S0 := HS _ hX.drew hY.drew
  go_enter Try.func3, Try.ntmps3
  go_wp2_with fail
  go_region_held3 (fun W => W.cell? ⟨w.heap.size, 0, none⟩ = some (.int .i64 y.n) ∧ W.cell? ⟨w.heap.size, 1, none⟩ = some (.int .i64 y.lo) ∧ W.cell? ⟨w.heap.size, 2, none⟩ = some (.int .i64 y.hi) ∧ W.cell? ⟨w.heap.size, 3, none⟩ = some (.int .i64 y.st) ∧ W.cell? ⟨w.heap.size + 1, 0, none⟩ = some (.slice A l.length c) ∧ W.cell? ⟨w.heap.size + 1, 1, none⟩ = some (.int .i64 a) ∧ W.cell? ⟨w.heap.size + 1, 2, none⟩ = some (.bool g)) ((first | exact S0 | exact S1 | exact S2 | exact S3))
    (first
    | (go_at_call 10; refine (HW1 _ b1.drew).out.mono ?_; rintro _ w2 ⟨rfl, b2⟩; (have hX2 := hX.drew.below b2 hX.drew.lt); (have hY2 := hY.drew.below b2 hY.drew.lt); (have b3 := b1.drew.trans (b2.mono b1.size)); (have S1 := HS w2 hX2 hY2))
    | (go_at_call 11; refine (HW2 _ b3).out.mono ?_; rintro _ w4 ⟨rfl, b4⟩; (have hX4 := hX2.below b4 hX2.lt); (have hY4 := hY2.below b4 hY2.lt); (have b5 := b3.trans (b4.mono b3.size)); (have S2 := HS w4 hX4 hY4))
    | (go_at_call 12; refine (known_al _).mono ?_; rintro _ w6 ⟨rfl, b6⟩; (have b7 := b5.trans (b6.mono b5.size)); (have S3 := HS w6 (hX4.below b6 hX4.lt) (hY4.below b6 hY4.lt)))
    | fail)
  all_goals
    go_wp2
    go_ret
    exact ⟨rfl, b7⟩

/-! ### THE ROW's STEP around the walk. -/
theorem own_alarmWhy : ownKnob Try.prog.godebug = none := by kernel_rfl
theorem laidOut_alarmWhy : laidOutB Try.prog = true := by kernel_rfl
set_option maxRecDepth 100000 in
theorem lifted_alarmWhy (os : Os) (started : os.Started) (H : Type) (enc : TypeId × Value → H) :
    ReturnsInHanded {} Try.checked os 3 .any (Rows.alarmWhySpec.pre6 enc Try.prog Try.f3 Rows.alarmWhyRow.domain false) (Rows.alarmWhySpec.post enc Try.prog Try.f3 false true false false) := by
  refine returnsInHanded_of_change (C := Try.checked) own_alarmWhy started (by kernel_rfl) Try.func3
    (ChangeSpec.witness6 (enc := enc) (C := Try.checked) false ⟨#[], #[.agg #[.int .i64 0, .int .i64 0, .int .i64 0, .int .i64 0], .agg #[.slice none 0 0, .int .i64 0, .bool false]], []⟩ 8 (by kernel_rfl) (by kernel_rfl) (by kernel_rfl) (by kernel_rfl)) ?_
  intro W base args ds gs before hval0 hW hcnd _
  have hval : ∀ (j : Nat) t v, Try.f3.params[j]? = some t → args[j]? = some v → Value.okWide Try.prog W .any base t v := hval0
  have hW' := hW
  obtain ⟨p, q, hA0, hV, rfl, hfz, hnd⟩ := hW
  have hA : DataW.TrodAll enc Try.prog W 0 (fun _ => true) true Try.f3.params.toList args.toList ds p := hA0
  rw [Try.params3] at hA hval
  obtain ⟨v0, vs0, d0, ds0, p0, q0, hargs, rfl, rfl, h0, r0⟩ := trodAll_cons hA
  obtain ⟨v1, vs1, d1, ds1, p1, q1, rfl, rfl, rfl, h1, r1⟩ := trodAll_cons r0
  obtain ⟨rfl, rfl, rfl⟩ := trodAll_nil r1
  obtain rfl : args = #[v0, v1] := by cases args; simp_all
  obtain ⟨rfl, rfl⟩ := trodVars_none hV
  obtain ⟨y0, rfl⟩ := sees_rule Try.underlying23 (by kernel_rfl) ⟨rfl, rfl⟩ ⟨rfl, rfl⟩ ⟨rfl, rfl⟩ ⟨rfl, rfl⟩ Try.underlying3 (by kernel_rfl) (hval 0 23 v0 rfl rfl) h0
  have k0 := h0
  have lt0 : ∀ x ∈ p0, x.block < W.heap.size := by obtain ⟨m, hm⟩ := k0; exact DataW.trod_lt m _ _ _ hm
  obtain ⟨l1, A1, c1, a1, g1, rfl, s1⟩ := sees_msg Try.underlying26 (by kernel_rfl) ⟨rfl, rfl⟩ ⟨rfl, rfl⟩ ⟨rfl, rfl⟩ Try.underlying3 Try.underlying4 Try.underlying24 Try.underlying5 (by kernel_rfl) (by kernel_rfl) (by kernel_rfl) (by kernel_rfl) (hval 1 26 v1 rfl rfl) h1
  have k1 := h1
  have lt1 : ∀ x ∈ p1, x.block < W.heap.size := by obtain ⟨m, hm⟩ := k1; exact DataW.trod_lt m _ _ _ hm
  clear hA0 hval0
  refine (walk_alarmWhy y0 l1 A1 c1 a1 g1 W s1).mono fun e W' ⟨he, bel⟩ => ?_
  subst he
  exact ⟨_, rfl, _, _, _, [], _, [], hW', trodAll_mk1 (shut_bool Try.underlying4 _), (trodAll_cons_mk (Below.trod laidOut_alarmWhy (by kernel_rfl) (of_decide_eq_true (by kernel_rfl)) k0 bel lt0) (trodAll_cons_mk (Below.trod laidOut_alarmWhy (by kernel_rfl) (of_decide_eq_true (by kernel_rfl)) k1 bel lt1) trodAll_mk0)), rfl, bel.frame _, fun h => by cases h⟩

theorem over_alarmWhy : Rows.alarmWhyRow.holds Try.pinned (OpenSpec.ofChange Rows.alarmWhySpec) :=
  OpenClaim.holds_of_wide 3 Try.f3 rfl rfl rfl rfl rfl rfl rfl ⟨rfl, rfl, rfl, rfl, rfl⟩ rfl rfl rfl rfl rfl (by kernel_rfl) Try.func3 (by kernel_rfl)
    (of_decide_eq_true (by kernel_rfl)) (by unfold Func.isWrapper; first | (rw [if_pos (by decide +kernel)]; kernel_rfl) | (rw [if_neg (by decide +kernel)]; exact ⟨rfl, rfl⟩))
    (fun os started H enc _ => lifted_alarmWhy os started H enc)

theorem proved_alarmWhy : Rows.AlarmWhySaid := over_alarmWhy
end Go.Proofs.Ytcingamdapdpbaa
