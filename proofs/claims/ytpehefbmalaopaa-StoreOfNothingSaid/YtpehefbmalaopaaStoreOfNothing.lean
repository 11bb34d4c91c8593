/- StoreOfNothing holds: a nil Store is as new. For all arguments. -/
import Derived.Test.YtpehefbmalaopaaStL
import Derived.Test.YtpehefbmalaopaaOpen
namespace Go.Proofs.Ytpehefbmalaopaa
open Go.ChangeShapes Go.WideShapes Go.ChangeAt Go.RowKit

set_option maxRecDepth 100000 in
set_option maxHeartbeats 2000000 in
theorem core_storeOfNothing (n : Int) (lD : List Int) (AD : Option Addr) (cD : Nat) (w : World) (hvD : SeesL w w.heap.size (.slice AD lD.length cD) lD) (hlD : bytesL lD) :
    Calls Try.prog 8 #[.int .i64 n, .slice AD lD.length cD] w fun e w' => e = .returned (.bool true) ∧ Below w.heap.size w w' := by
  by_cases call : lD.length ≤ 20
  case neg =>
    go_enter Try.func8, Try.ntmps8
    go_wp2
    all_goals first
      | (exfalso; omega)
      | (go_ret; exact ⟨rfl, Below.refl _ _⟩)
      | skip
  have k0 := call
  have q1 : decide ((20 : Int) < ((lD.length : Nat) : Int)) = false := decide_eq_false (by omega)
  clear hvD hlD
  go_enter Try.func8, Try.ntmps8
  go_wp2_with fail
  refine (put_st_nil n AD lD.length cD _).mono ?_
  rintro _ w0 ⟨rfl, e⟩
  rw [e]
  clear e w0
  go_wp2_with fail
  refine (member_st_nil n true _).mono ?_
  rintro _ w0 ⟨rfl, e⟩
  rw [e]
  clear e w0
  go_wp2_with fail
  refine (age_st_nil _).mono ?_
  rintro _ w0 ⟨rfl, e⟩
  rw [e]
  clear e w0
  go_wp2_with fail
  refine (clear_st_nil _).mono ?_
  rintro _ w0 ⟨rfl, e⟩
  rw [e]
  clear e w0
  go_wp2_with fail
  refine (get_st_nil n _).mono ?_
  rintro _ w1 ⟨rfl, b⟩
  go_wp2_with fail
  refine (same1 (B := 0) (C := 0) SeesL.nil SeesL.nil bytes_nil).mono ?_
  rintro _ w7 ⟨rfl, b'⟩
  replace b := b.trans (b'.mono b.size)
  clear b'
  go_wp2_with fail
  refine (known_st _).mono ?_
  rintro _ wk ⟨rfl, bk⟩
  replace bk := b.trans (bk.mono b.size)
  go_wp2
  go_ret
  exact ⟨rfl, bk⟩
set_option maxRecDepth 100000 in
set_option maxHeartbeats 2000000 in
theorem walk_storeOfNothing (n : Int) (AD : Option Addr) (mD cD : Nat) (zD : Nat → Int) (w : World) (_hn : -9223372036854775808 ≤ n ∧ n ≤ 9223372036854775807) (sD : InBytesN w AD mD cD zD) :
    Calls Try.prog 8 #[.int .i64 n, .slice AD mD cD] w fun e w' => e = .returned (.bool true) ∧ Below w.heap.size w w' := by
  obtain ⟨hvD, hlD⟩ := sD.list
  have eD := lst_length zD mD
  generalize lst zD mD = lD at *
  subst eD
  exact core_storeOfNothing n lD AD cD w hvD hlD

/-! ### THE ROW's STEP around the walk. -/
theorem own_storeOfNothing : ownKnob Try.prog.godebug = none := by kernel_rfl
theorem laidOut_storeOfNothing : laidOutB Try.prog = true := by kernel_rfl
set_option maxRecDepth 100000 in
theorem lifted_storeOfNothing (os : Os) (started : os.Started) (H : Type) (enc : TypeId × Value → H) :
    ReturnsInHanded {} Try.checked os 8 .any (Rows.storeOfNothingSpec.pre6 enc Try.prog Try.f8 Rows.storeOfNothingRow.domain false) (Rows.storeOfNothingSpec.post enc Try.prog Try.f8 false true false false) := by
  refine returnsInHanded_of_change_sized (C := Try.checked) own_storeOfNothing started (by kernel_rfl) Try.func8
    (ChangeSpec.witness6 (enc := enc) (C := Try.checked) false ⟨#[], #[.int .i64 0, .slice none 0 0], []⟩ 8 (by kernel_rfl) (by kernel_rfl) (by kernel_rfl) (by kernel_rfl)) ?_
  intro W base args ds gs before hval0 hW hcnd hsz0 _
  have hval : ∀ (j : Nat) t v, Try.f8.params[j]? = some t → args[j]? = some v → Value.okWide Try.prog W .any base t v := hval0
  have hW' := hW
  obtain ⟨p, q, hA0, hV, rfl, hfz, hnd⟩ := hW
  have hA : DataW.TrodAll enc Try.prog W 0 (fun _ => true) true Try.f8.params.toList args.toList ds p := hA0
  have hsz : (DataW.weightsEach Try.prog (Try.f8.params.toList ++ Rows.storeOfNothingSpec.plain.varTypes Try.prog) (ds ++ gs)).all (· ≤ reachBytes) = true := hsz0
  rw [Try.params8] at hA hval hsz
  obtain ⟨v0, vs0, d0, ds0, p0, q0, hargs, rfl, rfl, h0, r0⟩ := trodAll_cons hA
  obtain ⟨v1, vs1, d1, ds1, p1, q1, rfl, rfl, rfl, h1, r1⟩ := trodAll_cons r0
  obtain ⟨rfl, rfl, rfl⟩ := trodAll_nil r1
  obtain rfl : args = #[v0, v1] := by cases args; simp_all
  obtain ⟨rfl, rfl⟩ := trodVars_none hV
  obtain ⟨a0, rfl, rfl, rfl, w0⟩ := open_int Try.underlying3 (hval 0 3 v0 rfl rfl) h0
  obtain ⟨A1, n1, c1, rfl⟩ := okWide_slice Try.underlying27 (hval 1 27 v1 rfl rfl)
  have k1 := h1
  have lt1 : ∀ x ∈ p1, x.block < W.heap.size := by obtain ⟨m, hm⟩ := k1; exact DataW.trod_lt m _ _ _ hm
  obtain ⟨z1, s1⟩ := sees_bytesn Try.underlying27 Try.underlying5 (by kernel_rfl) h1 (by kernel_rfl) (fun _ _ hd => sized_slice hsz (j := 1) (t := 27) (e := 5) rfl (congrArg some hd) Try.underlying27)
  clear hA0 hval0
  refine (walk_storeOfNothing a0 A1 n1 c1 z1 W (bounds_i64 w0) s1).mono fun e W' ⟨he, bel⟩ => ?_
  subst he
  exact ⟨_, rfl, _, _, _, [], _, [], hW', trodAll_mk1 (shut_bool Try.underlying4 _), (trodAll_cons_mk (shut_int Try.underlying3 w0) (trodAll_cons_mk (Below.trod laidOut_storeOfNothing (by kernel_rfl) (of_decide_eq_true (by kernel_rfl)) k1 bel lt1) trodAll_mk0)), rfl, bel.frame _, fun h => by cases h⟩

theorem over_storeOfNothing : Rows.storeOfNothingRow.holds Try.pinned (OpenSpec.ofChange Rows.storeOfNothingSpec) :=
  OpenClaim.holds_of_wide 8 Try.f8 rfl rfl rfl rfl rfl rfl rfl ⟨rfl, rfl, rfl, rfl, rfl⟩ rfl rfl rfl rfl rfl (by kernel_rfl) Try.func8 (by kernel_rfl)
    (of_decide_eq_true (by kernel_rfl)) (by unfold Func.isWrapper; first | (rw [if_pos (by decide +kernel)]; kernel_rfl) | (rw [if_neg (by decide +kernel)]; exact ⟨rfl, rfl⟩))
    (fun os started H enc _ => lifted_storeOfNothing os started H enc)

theorem proved_storeOfNothing : Rows.StoreOfNothingSaid := over_storeOfNothing
end Go.Proofs.Ytpehefbmalaopaa
