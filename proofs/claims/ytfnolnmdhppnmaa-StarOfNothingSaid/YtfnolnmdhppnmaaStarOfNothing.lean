/- StarOfNothing holds: a nil Star is nothing. For all arguments. -/
import Derived.Test.YtfnolnmdhppnmaaSB32
namespace Go.Proofs.Ytfnolnmdhppnmaa
open Go.ChangeShapes Go.WideShapes Go.ChangeAt Go.RowKit

set_option maxRecDepth 100000 in
set_option maxHeartbeats 4000000 in
theorem core_starOfNothing (i : Int) (w : World) :
    Calls Try.prog 7 #[.int .i64 i] w fun e w' => e = .returned (.bool true) ∧ Below w.heap.size w w' := by
  have hKn := fun W => Lib.hid (known_sr W)
  have hS := fun W => Lib.hid (slot_nil W)
  have hGu := fun W => Lib.hid (guard_nil i W)
  have hin := infoHeard8
  go_enter Try.func7, Try.ntmps7
  go_wp2_with fail
  refine (hS w).out.mono ?_
  rintro e w4 ⟨rfl, hb4⟩
  have hb4 := Lib.hid hb4
  obtain ⟨f, hf, hone⟩ : ∃ f : Nat → Hd, (fun _ => hdz) = f ∧ Hid (((hdC f).all (·.oneCell')) = true) := ⟨_, rfl, Lib.hid (hdC_one (fun _ => hdz) (fun i hi => ⟨none, 0, 0, rfl⟩) (fun i hi => ⟨none, 0, 0, rfl⟩))⟩
  rw [hf]
  clear hf
  have hl' := hear_lies w4 w4.heap.size rfl f 27
  have hth := hdz_there w4 w4.heap.size rfl 27
  have h40 : 40 = (hdC f).size := rfl
  rw [hdz_lit] at hl' hth
  rw [h40] at hth
  clear h40
  obtain ⟨-, hB5⟩ := hl'
  clear hS
  go_wp2_with (refine wpList_store_mid rfl _ _ _ rfl _ _ (hdC f) rfl rfl hth hin hone.out ?_; clear hth; generalize World.setCells _ _ _ _ = w5 at hB5 ⊢)
  refine (hGu w5).out.mono ?_
  rintro e w6 ⟨rfl, rfl⟩
  have hk := hKn w5
  have hbb := Lib.hid (hb4.out.trans (hB5.mono hb4.out.size))
  clear hKn hGu
  go_wp2_with fail
  refine hk.out.mono ?_
  rintro e w6 ⟨rfl, hb6⟩
  have hbz := Lib.hid (hbb.out.trans (hb6.mono hbb.out.size))
  go_wp2_with fail
  go_ret
  exact ⟨rfl, hbz.out⟩
theorem walk_starOfNothing (i : Int) (w : World) (_h : -9223372036854775808 ≤ i ∧ i ≤ 9223372036854775807) :
    Calls Try.prog 7 #[.int .i64 i] w fun e w' => e = .returned (.bool true) ∧ Below w.heap.size w w' := core_starOfNothing i w

/-! ### THE ROW's STEP around the walk. -/
theorem own_starOfNothing : ownKnob Try.prog.godebug = none := by kernel_rfl
theorem laidOut_starOfNothing : laidOutB Try.prog = true := by kernel_rfl
set_option maxRecDepth 100000 in
theorem lifted_starOfNothing (os : Os) (started : os.Started) (H : Type) (enc : TypeId × Value → H) :
    ReturnsInHanded {} Try.checked os 7 .any (Rows.starOfNothingSpec.pre6 enc Try.prog Try.f7 Rows.starOfNothingRow.domain false) (Rows.starOfNothingSpec.post enc Try.prog Try.f7 false true false false) := by
  refine returnsInHanded_of_change (C := Try.checked) own_starOfNothing started (by kernel_rfl) Try.func7
    (ChangeSpec.witness6 (enc := enc) (C := Try.checked) false ⟨#[], #[.int .i64 0], []⟩ 8 (by kernel_rfl) (by kernel_rfl) (by kernel_rfl) (by kernel_rfl)) ?_
  intro W base args ds gs before hval0 hW hcnd _
  have hval : ∀ (j : Nat) t v, Try.f7.params[j]? = some t → args[j]? = some v → Value.okWide Try.prog W .any base t v := hval0
  have hW' := hW
  obtain ⟨p, q, hA0, hV, rfl, hfz, hnd⟩ := hW
  have hA : DataW.TrodAll enc Try.prog W 0 (fun _ => true) true Try.f7.params.toList args.toList ds p := hA0
  rw [Try.params7] at hA hval
  obtain ⟨v0, vs0, d0, ds0, p0, q0, hargs, rfl, rfl, h0, r0⟩ := trodAll_cons hA
  obtain ⟨rfl, rfl, rfl⟩ := trodAll_nil r0
  obtain rfl : args = #[v0] := by cases args; simp_all
  obtain ⟨rfl, rfl⟩ := trodVars_none hV
  obtain ⟨a0, rfl, rfl, rfl, w0⟩ := open_int Try.underlying3 (hval 0 3 v0 rfl rfl) h0
  clear hA0 hval0
  refine (walk_starOfNothing a0 W (bounds_i64 w0)).mono fun e W' ⟨he, bel⟩ => ?_
  subst he
  exact ⟨_, rfl, _, _, _, [], _, [], hW', trodAll_mk1 (shut_bool Try.underlying4 _), (trodAll_cons_mk (shut_int Try.underlying3 w0) trodAll_mk0), rfl, bel.frame _, fun h => by cases h⟩

theorem over_starOfNothing : Rows.starOfNothingRow.holds Try.pinned (OpenSpec.ofChange Rows.starOfNothingSpec) :=
  OpenClaim.holds_of_wide 7 Try.f7 rfl rfl rfl rfl rfl rfl rfl ⟨rfl, rfl, rfl, rfl, rfl⟩ rfl rfl rfl rfl rfl (by kernel_rfl) Try.func7 (by kernel_rfl)
    (of_decide_eq_true (by kernel_rfl)) (by unfold Func.isWrapper; first | (rw [if_pos (by decide +kernel)]; kernel_rfl) | (rw [if_neg (by decide +kernel)]; exact ⟨rfl, rfl⟩))
    (fun os started H enc _ => lifted_starOfNothing os started H enc)

theorem proved_starOfNothing : Rows.StarOfNothingSaid := over_starOfNothing
end Go.Proofs.Ytfnolnmdhppnmaa
