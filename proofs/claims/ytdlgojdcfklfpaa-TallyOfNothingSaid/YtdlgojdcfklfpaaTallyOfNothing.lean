/- TallyOfNothing holds: a nil Tally is nothing. For all arguments. -/
import Derived.Test.YtdlgojdcfklfpaaTlD
import Derived.Test.YtdlgojdcfklfpaaTlK
import Derived.Test.YtdlgojdcfklfpaaOpen
namespace Go.Proofs.Ytdlgojdcfklfpaa
open Go.ChangeShapes Go.WideShapes Go.ChangeAt Go.RowKit

set_option maxRecDepth 100000 in
set_option maxHeartbeats 2000000 in
theorem walk_tallyOfNothing (n : Int) (w : World) (_hn : -9223372036854775808 ≤ n ∧ n ≤ 9223372036854775807) :
    Calls Try.prog 7 #[.int .i64 n] w fun e w' => e = .returned (.bool true) ∧ Below w.heap.size w w' := by
  go_enter Try.func7, Try.ntmps7
  go_wp2_with fail
  refine (right_nil n _).mono ?_
  rintro _ w0 ⟨rfl, e⟩
  rw [e]
  clear e w0
  go_wp2_with fail
  refine (wrong_nil n _).mono ?_
  rintro _ w0 ⟨rfl, e⟩
  rw [e]
  clear e w0
  go_wp2_with fail
  refine (missing_nil n _).mono ?_
  rintro _ w0 ⟨rfl, e⟩
  rw [e]
  clear e w0
  go_wp2_with fail
  refine (join_nil n _).mono ?_
  rintro _ w0 ⟨rfl, e⟩
  rw [e]
  clear e w0
  go_wp2_with fail
  refine (clear_nil _).mono ?_
  rintro _ w0 ⟨rfl, e⟩
  rw [e]
  clear e w0
  go_wp2_with fail
  refine (counts_nil _).mono ?_
  rintro _ w0 ⟨rfl, e⟩
  rw [e]
  clear e w0
  go_wp2_with fail
  refine (members_nil _).mono ?_
  rintro _ w0 ⟨rfl, e⟩
  rw [e]
  clear e w0
  go_wp2_with fail
  refine (is_nil n _).mono ?_
  rintro _ w0 ⟨rfl, e⟩
  rw [e]
  clear e w0
  go_wp2_with fail
  refine (clique_nil _).mono ?_
  rintro _ _ ⟨rfl, mm, rfl⟩
  have b := below_drewN (Below.refl w.heap.size w) mm
  generalize w.drewN mm = w1 at *
  go_wp2_with fail
  refine (alone_nil _).mono ?_
  rintro _ w0 ⟨rfl, e⟩
  rw [e]
  clear e w0
  go_wp2_with fail
  refine (known_tl _).mono ?_
  rintro _ wk ⟨rfl, bk⟩
  replace bk := b.trans (bk.mono b.size)
  go_wp2
  go_ret
  exact ⟨rfl, bk⟩

/-! ### THE ROW's STEP around the walk. -/
theorem own_tallyOfNothing : ownKnob Try.prog.godebug = none := by kernel_rfl
theorem laidOut_tallyOfNothing : laidOutB Try.prog = true := by kernel_rfl
set_option maxRecDepth 100000 in
theorem lifted_tallyOfNothing (os : Os) (started : os.Started) (H : Type) (enc : TypeId × Value → H) :
    ReturnsInHanded {} Try.checked os 7 .any (Rows.tallyOfNothingSpec.pre6 enc Try.prog Try.f7 Rows.tallyOfNothingRow.domain false) (Rows.tallyOfNothingSpec.post enc Try.prog Try.f7 false true false false) := by
  refine returnsInHanded_of_change (C := Try.checked) own_tallyOfNothing started (by kernel_rfl) Try.func7
    (ChangeSpec.witness6 (enc := enc) (C := Try.checked) false ⟨#[], #[.int .i64 0], []⟩ 8 (by kernel_rfl) (by kernel_rfl) (by kernel_rfl) (by kernel_rfl)) ?_
  intro W base args ds gs before hval0 hW hcnd _
  have hval : ∀ (j : Nat) t v, Try.f7.params[j]? = some t → args[j]? = some v → Value.okWide Try.prog W .any base t v := hval0
  have hW' := hW
  obtain ⟨p, q, hA0, hV, rfl, hfz, hnd⟩ := hW
  have hA : DataW.TrodAll enc Try.prog W 0 (fun _ => true) true Try.f7.params.toList args.toList ds p := hA0
  rw [Try.params7] at hA hval
  obtain ⟨v0, vs0, d0, ds0, p0, q0, hargs, rfl, rfl, h0, r0⟩ := trodAll_cons hA
  obtain ⟨rfl, rfl, rfl⟩ := trodAll_nil r0
  obtain rfl : args = #[v0] := by cases args; simp_all
  obtain ⟨rfl, rfl⟩ := trodVars_none hV
  obtain ⟨a0, rfl, rfl, rfl, w0⟩ := open_int Try.underlying3 (hval 0 3 v0 rfl rfl) h0
  clear hA0 hval0
  refine (walk_tallyOfNothing a0 W (bounds_i64 w0)).mono fun e W' ⟨he, bel⟩ => ?_
  subst he
  exact ⟨_, rfl, _, _, _, [], _, [], hW', trodAll_mk1 (shut_bool Try.underlying4 _), (trodAll_cons_mk (shut_int Try.underlying3 w0) trodAll_mk0), rfl, bel.frame _, fun h => by cases h⟩

theorem over_tallyOfNothing : Rows.tallyOfNothingRow.holds Try.pinned (OpenSpec.ofChange Rows.tallyOfNothingSpec) :=
  OpenClaim.holds_of_wide 7 Try.f7 rfl rfl rfl rfl rfl rfl rfl ⟨rfl, rfl, rfl, rfl, rfl⟩ rfl rfl rfl rfl rfl (by kernel_rfl) Try.func7 (by kernel_rfl)
    (of_decide_eq_true (by kernel_rfl)) (by unfold Func.isWrapper; first | (rw [if_pos (by decide +kernel)]; kernel_rfl) | (rw [if_neg (by decide +kernel)]; exact ⟨rfl, rfl⟩))
    (fun os started H enc _ => lifted_tallyOfNothing os started H enc)

theorem proved_tallyOfNothing : Rows.TallyOfNothingSaid := over_tallyOfNothing
end Go.Proofs.Ytdlgojdcfklfpaa
