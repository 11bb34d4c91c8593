/- TableWide holds: the window and the limit must leave room for drift. For all numbers. -/
import Derived.Test.YtdbbmikandeocaaTbK
import Derived.Test.YtdbbmikandeocaaTbO
namespace Go.Proofs.Ytdbbmikandeocaa
open Go.ChangeShapes Go.WideShapes Go.ChangeAt Go.RowKit
open Go.ChangeMaps (open_string shut_string)
open Tb (D T)

theorem some_are : Tb.are (someL 4) = true := by decide +kernel
set_option maxRecDepth 100000 in
set_option maxHeartbeats 4000000 in
theorem walk_tableWide (d p l : Int) (w : World) (_h0 : -9223372036854775808 ≤ d ∧ d ≤ 9223372036854775807) (_h1 : -9223372036854775808 ≤ p ∧ p ≤ 9223372036854775807) (_h2 : -9223372036854775808 ≤ l ∧ l ≤ 9223372036854775807) :
    Calls Try.prog 10 #[.int .i64 d, .int .i64 p, .int .i64 l] w fun e w' => e = .returned (.bool true) ∧ Below w.heap.size w w' := by
  have hs := fun W => some_tb 4 (by omega) W
  have hI : T.is ⟨someL 4, d, p, l⟩ = decide (0 ≤ d ∧ d ≤ 1000 ∧ 4 * d + 2 ≤ p ∧ p ≤ l ∧ l ≤ 1000) := by
    rw [T.is, some_are, Tb.rest, Bool.eq_iff_iff]
    simp only [Tb.wi, Bool.true_and, Bool.and_eq_true, decide_eq_true_eq]
    omega
  have hi := fun v W (h : SeesT W W.heap.size v (someL 4)) => is_tb ⟨someL 4, d, p, l⟩ v W W.heap.size (Nat.le_refl _) h
  unfold tabV someT at hs
  unfold tabV at hi
  simp only at hs hi
  have hl := someL_length 4
  generalize someL 4 = ls at *
  have hs := fun W => Lib.hid (hs W)
  rw [hI] at hi
  clear hI
  have hcase : (¬ 0 ≤ d) ∨ (0 ≤ d ∧ ¬ d ≤ 1000) ∨ (0 ≤ d ∧ d ≤ 1000 ∧ ¬ 4 * d + 2 ≤ p) ∨ (0 ≤ d ∧ d ≤ 1000 ∧ 4 * d + 2 ≤ p ∧ ¬ p ≤ l) ∨ (0 ≤ d ∧ d ≤ 1000 ∧ 4 * d + 2 ≤ p ∧ p ≤ l ∧ ¬ l ≤ 1000) ∨ (0 ≤ d ∧ d ≤ 1000 ∧ 4 * d + 2 ≤ p ∧ p ≤ l ∧ l ≤ 1000) := by omega
  have hw : (0 ≤ d ∧ d ≤ 1000) → IntKind.i64.wrap (4 * d) = 4 * d ∧ IntKind.i64.wrap (4 * d + 2) = 4 * d + 2 := fun h => ⟨IntWalk.i64_in _ (by omega), IntWalk.i64_in _ (by omega)⟩
  obtain ⟨q, hq⟩ : ∃ q : Bool, decide (0 ≤ d ∧ d ≤ 1000 ∧ 4 * d + 2 ≤ p ∧ p ≤ l ∧ l ≤ 1000) = q := ⟨_, rfl⟩
  rw [hq] at hi
  have hi := fun v W h => Lib.hid (hi v W h)
  rcases hcase with c1 | ⟨c1, c2⟩ | ⟨c1, c2, c3⟩ | ⟨c1, c2, c3, c4⟩ | ⟨c1, c2, c3, c4, c5⟩ | ⟨c1, c2, c3, c4, c5⟩
  case' inr.inr.inr.inr.inr =>
    obtain ⟨w1, w2⟩ := hw ⟨c1, c2⟩
    obtain rfl : q = true := by rw [← hq]; simp [*]
  case' inl => obtain rfl : q = false := by rw [← hq]; simp; omega
  case' inr.inl => obtain rfl : q = false := by rw [← hq]; simp; omega
  case' inr.inr.inl =>
    obtain ⟨w1, w2⟩ := hw ⟨c1, c2⟩
    obtain rfl : q = false := by rw [← hq]; simp; omega
  case' inr.inr.inr.inl =>
    obtain ⟨w1, w2⟩ := hw ⟨c1, c2⟩
    obtain rfl : q = false := by rw [← hq]; simp; omega
  case' inr.inr.inr.inr.inl =>
    obtain ⟨w1, w2⟩ := hw ⟨c1, c2⟩
    obtain rfl : q = false := by rw [← hq]; simp; omega
  all_goals
    clear hq
    clear hw
    go_enter Try.func10, Try.ntmps10
    go_wp2_with fail
    refine (hs w).out.mono ?_
    rintro e wa ⟨v1, rfl, ho1, hb1⟩
    obtain ⟨A, c, rfl, -, -, -, -⟩ := ho1.sees.at_
    have hsee := ho1.sees
    rw [hl] at hsee
    have hbx := (Below.refl wa.heap.size wa).alloc (Nat.le_refl _) (.cells #[.slice A 4 c, .int .i64 d, .int .i64 p, .int .i64 l] 24)
    have hsee := (hsee.below hbx).more (B' := (wa.alloc (.cells #[.slice A 4 c, .int .i64 d, .int .i64 p, .int .i64 l] 24)).heap.size) (by simp)
    have hbw := hb1.trans (hbx.mono hb1.size)
    clear ho1
    go_wp2_with fail
    generalize wa.alloc (.cells #[.slice A 4 c, .int .i64 d, .int .i64 p, .int .i64 l] 24) = wx at *
    refine (hi _ _ hsee).out.mono ?_
    rintro e wb ⟨rfl, hb2⟩
    have hbb := hbw.trans (hb2.mono hbw.size)
    go_wp2_with (go_at_call 19; refine (known_tb _).mono ?_; rintro e wf ⟨rfl, hb6⟩)
    go_ret
    exact ⟨by simp <;> omega, hbb.trans (hb6.mono hbb.size)⟩

/-! ### THE ROW's STEP around the walk. -/
theorem own_tableWide : ownKnob Try.prog.godebug = none := by kernel_rfl
theorem laidOut_tableWide : laidOutB Try.prog = true := by kernel_rfl
set_option maxRecDepth 100000 in
theorem lifted_tableWide (os : Os) (started : os.Started) (H : Type) (enc : TypeId × Value → H) :
    ReturnsInHanded {} Try.checked os 10 .any (Rows.tableWideSpec.pre6 enc Try.prog Try.f10 Rows.tableWideRow.domain false) (Rows.tableWideSpec.post enc Try.prog Try.f10 false true false false) := by
  refine returnsInHanded_of_change (C := Try.checked) own_tableWide started (by kernel_rfl) Try.func10
    (ChangeSpec.witness6 (enc := enc) (C := Try.checked) false ⟨#[], #[.int .i64 0, .int .i64 0, .int .i64 0], []⟩ 8 (by kernel_rfl) (by kernel_rfl) (by kernel_rfl) (by kernel_rfl)) ?_
  intro W base args ds gs before hval0 hW hcnd _
  have hval : ∀ (j : Nat) t v, Try.f10.params[j]? = some t → args[j]? = some v → Value.okWide Try.prog W .any base t v := hval0
  have hW' := hW
  obtain ⟨p, q, hA0, hV, rfl, hfz, hnd⟩ := hW
  have hA : DataW.TrodAll enc Try.prog W 0 (fun _ => true) true Try.f10.params.toList args.toList ds p := hA0
  rw [Try.params10] at hA hval
  obtain ⟨v0, vs0, d0, ds0, p0, q0, hargs, rfl, rfl, h0, r0⟩ := trodAll_cons hA
  obtain ⟨v1, vs1, d1, ds1, p1, q1, rfl, rfl, rfl, h1, r1⟩ := trodAll_cons r0
  obtain ⟨v2, vs2, d2, ds2, p2, q2, rfl, rfl, rfl, h2, r2⟩ := trodAll_cons r1
  obtain ⟨rfl, rfl, rfl⟩ := trodAll_nil r2
  obtain rfl : args = #[v0, v1, v2] := by cases args; simp_all
  obtain ⟨rfl, rfl⟩ := trodVars_none hV
  obtain ⟨a0, rfl, rfl, rfl, w0⟩ := open_int Try.underlying3 (hval 0 3 v0 rfl rfl) h0
  obtain ⟨a1, rfl, rfl, rfl, w1⟩ := open_int Try.underlying3 (hval 1 3 v1 rfl rfl) h1
  obtain ⟨a2, rfl, rfl, rfl, w2⟩ := open_int Try.underlying3 (hval 2 3 v2 rfl rfl) h2
  clear hA0 hval0
  refine (walk_tableWide a0 a1 a2 W (bounds_i64 w0) (bounds_i64 w1) (bounds_i64 w2)).mono fun e W' ⟨he, bel⟩ => ?_
  subst he
  exact ⟨_, rfl, _, _, _, [], _, [], hW', trodAll_mk1 (shut_bool Try.underlying4 _), (trodAll_cons_mk (shut_int Try.underlying3 w0) (trodAll_cons_mk (shut_int Try.underlying3 w1) (trodAll_cons_mk (shut_int Try.underlying3 w2) trodAll_mk0))), rfl, bel.frame _, fun h => by cases h⟩

theorem over_tableWide : Rows.tableWideRow.holds Try.pinned (OpenSpec.ofChange Rows.tableWideSpec) :=
  OpenClaim.holds_of_wide 10 Try.f10 rfl rfl rfl rfl rfl rfl rfl ⟨rfl, rfl, rfl, rfl, rfl⟩ rfl rfl rfl rfl rfl (by kernel_rfl) Try.func10 (by kernel_rfl)
    (of_decide_eq_true (by kernel_rfl)) (by unfold Func.isWrapper; first | (rw [if_pos (by decide +kernel)]; kernel_rfl) | (rw [if_neg (by decide +kernel)]; exact ⟨rfl, rfl⟩))
    (fun os started H enc _ => lifted_tableWide os started H enc)

theorem proved_tableWide : Rows.TableWideSaid := over_tableWide
end Go.Proofs.Ytdbbmikandeocaa
