/- StoreGood holds: whether a node is a member, and what it said, do not hang on one another. For all nodes, bytes and bools. -/
import Derived.Test.YtpehefbmalaopaaStL
import Derived.Test.YtpehefbmalaopaaOpen
namespace Go.Proofs.Ytpehefbmalaopaa
open Go.ChangeShapes Go.WideShapes Go.ChangeAt Go.RowKit

set_option maxRecDepth 100000 in
set_option maxHeartbeats 2000000 in
theorem core_storeGood (n : Int) (lD : List Int) (AD : Option Addr) (cD : Nat) (q : Bool) (w : World) (hvD : SeesL w w.heap.size (.slice AD lD.length cD) lD) (hlD : bytesL lD) :
    Calls Try.prog 11 #[.int .i64 n, .slice AD lD.length cD, .bool q] w fun e w' => e = .returned (.bool true) ∧ Below w.heap.size w w' := by
  by_cases call : 0 ≤ n ∧ n ≤ 7 ∧ lD.length ≤ 8
  case neg =>
    go_enter Try.func11, Try.ntmps11
    go_wp2
    all_goals first
      | (exfalso; omega)
      | (go_ret; exact ⟨rfl, Below.refl _ _⟩)
      | skip
  obtain ⟨k0, k1, k2⟩ := call
  have Fd := field_d
  have Fa := field_a
  have Fg := field_g
  have q1 : decide (n < 0) = false := decide_eq_false (by omega)
  have q2 : decide ((7 : Int) < n) = false := decide_eq_false (by omega)
  have q_lD : decide ((8 : Int) < ((lD.length : Nat) : Int)) = false := decide_eq_false (by omega)
  go_enter Try.func11, Try.ntmps11
  go_wp2_with fail
  refine (new_st _).mono ?_
  rintro _ w1 ⟨g, rfl, hg, h1, b1⟩
  go_wp2_with fail
  refine (new_st _).mono ?_
  rintro _ w2 ⟨g', rfl, hg', h2, b2⟩
  have hgl := SAt.lt (h1 [])
  have hne : g ≠ g' := by omega
  have hg2 : w.heap.size ≤ g' := by have := b1.size; omega
  replace h1 := SAt.below (h1 [g, g']) b2
  replace h2 := h2 [g, g']
  have b := b1.trans (b2.mono b1.size)
  clear b1 b2
  have hFF : ∀ W : World, g < W.heap.size → g' < W.heap.size → ∀ f, f ∈ [g, g'] → f < W.heap.size := fun W a1 a2 f hf => by
    rcases List.mem_cons.1 hf with rfl | hf
    · exact a1
    · rw [List.mem_singleton.1 hf]; exact a2
  go_wp2_with fail
  refine (put_st [g, g'] g _ n _ lD _ _ h1 (by simp) (hFF _ (SAt.lt h1) (SAt.lt h2)) (hvD.below b) hlD).mono ?_
  rintro _ w3 ⟨rfl, h3, o⟩
  replace b := b.trans (o.below hg (SAt.lt h1))
  replace h2 := SAt.only h2 o (Ne.symm hne) (by simp)
  clear o h1
  go_wp2_with fail
  refine (member_st [g, g'] g _ n q _ h3 (by simp)).mono ?_
  rintro _ w4 ⟨rfl, h4, o⟩
  replace b := b.trans (o.below hg (SAt.lt h3))
  replace h2 := SAt.only h2 o (Ne.symm hne) (by simp)
  clear o h3
  go_wp2_with fail
  refine (member_st [g, g'] g' _ n q _ h2 (by simp)).mono ?_
  rintro _ w5 ⟨rfl, h5, o⟩
  replace b := b.trans (o.below hg2 (SAt.lt h2))
  replace h4 := SAt.only h4 o hne (by simp)
  clear o h2
  go_wp2_with fail
  refine (put_st [g, g'] g' _ n _ lD _ _ h5 (by simp) (hFF _ (SAt.lt h4) (SAt.lt h5)) (hvD.below b) hlD).mono ?_
  rintro _ w6 ⟨rfl, h6, o⟩
  replace b := b.trans (o.below hg2 (SAt.lt h5))
  replace h4 := SAt.only h4 o hne (by simp)
  clear o h5 hFF
  have hn8 : isN n := ⟨by omega, by omega⟩
  obtain ⟨s1, e1⟩ : ∃ s1, s1 = (MS.new.put n lD).member n q := ⟨_, rfl⟩
  obtain ⟨s2, e2⟩ : ∃ s2, s2 = (MS.new.member n q).put n lD := ⟨_, rfl⟩
  rw [← e1] at h4
  rw [← e2] at h6
  have x1 : s1.gd n = lD ∧ s1.ga n = 0 ∧ s1.gg n = q := by
    subst e1
    unfold MS.gd MS.ga MS.gg MS.member MS.put
    simp [hn8, k2, upd]
  have x2 : s2.gd n = lD ∧ s2.ga n = 0 ∧ s2.gg n = q := by
    subst e2
    unfold MS.gd MS.ga MS.gg MS.member MS.put
    simp [hn8, k2, upd]
  clear e1 e2 hn8
  have hqq : (q == q) = true := by simp
  go_wp2_with fail
  have G := get1 n h4
  rw [x1.1, x1.2.1, x1.2.2] at G
  refine G.mono ?_
  rintro _ w7 ⟨v7, rfl, s7, -, b'⟩
  replace h4 := SAt.below h4 b'
  replace h6 := SAt.below h6 b'
  replace b := b.trans (b'.mono b.size)
  obtain ⟨A7, c7, rfl, -⟩ := s7.at_
  clear G b'
  go_wp2_with fail
  have G := get1 n h6
  rw [x2.1, x2.2.1, x2.2.2] at G
  refine G.mono ?_
  rintro _ w8 ⟨v8, rfl, s8, -, b'⟩
  replace h4 := SAt.below h4 b'
  replace s7 := s7.below b'
  replace b := b.trans (b'.mono b.size)
  obtain ⟨A8, c8, rfl, -⟩ := s8.at_
  clear G b' h6
  go_wp2_with fail
  refine (same1 s7 s8 hlD).mono ?_
  rintro _ w9 ⟨rfl, b'⟩
  replace h4 := SAt.below h4 b'
  replace b := b.trans (b'.mono b.size)
  clear b' s7 s8
  go_wp2_with fail
  have G := get1 n h4
  rw [x1.1, x1.2.1, x1.2.2] at G
  refine G.mono ?_
  rintro _ w10 ⟨v9, rfl, s9, -, b'⟩
  replace b := b.trans (b'.mono b.size)
  obtain ⟨A9, c9, rfl, -⟩ := s9.at_
  clear G b' s9 h4
  go_wp2_with fail
  refine (known_st _).mono ?_
  rintro _ wk ⟨rfl, bk⟩
  replace bk := b.trans (bk.mono b.size)
  go_wp2
  go_ret
  exact ⟨rfl, bk⟩
set_option maxRecDepth 100000 in
set_option maxHeartbeats 2000000 in
theorem walk_storeGood (n : Int) (AD : Option Addr) (mD cD : Nat) (zD : Nat → Int) (q : Bool) (w : World) (_hn : -9223372036854775808 ≤ n ∧ n ≤ 9223372036854775807) (sD : InBytesN w AD mD cD zD) :
    Calls Try.prog 11 #[.int .i64 n, .slice AD mD cD, .bool q] w fun e w' => e = .returned (.bool true) ∧ Below w.heap.size w w' := by
  obtain ⟨hvD, hlD⟩ := sD.list
  have eD := lst_length zD mD
  generalize lst zD mD = lD at *
  subst eD
  exact core_storeGood n lD AD cD q w hvD hlD

/-! ### THE ROW's STEP around the walk. -/
theorem own_storeGood : ownKnob Try.prog.godebug = none := by kernel_rfl
theorem laidOut_storeGood : laidOutB Try.prog = true := by kernel_rfl
set_option maxRecDepth 100000 in
theorem lifted_storeGood (os : Os) (started : os.Started) (H : Type) (enc : TypeId × Value → H) :
    ReturnsInHanded {} Try.checked os 11 .any (Rows.storeGoodSpec.pre6 enc Try.prog Try.f11 Rows.storeGoodRow.domain false) (Rows.storeGoodSpec.post enc Try.prog Try.f11 false true false false) := by
  refine returnsInHanded_of_change_sized (C := Try.checked) own_storeGood started (by kernel_rfl) Try.func11
    (ChangeSpec.witness6 (enc := enc) (C := Try.checked) false ⟨#[], #[.int .i64 0, .slice none 0 0, .bool false], []⟩ 8 (by kernel_rfl) (by kernel_rfl) (by kernel_rfl) (by kernel_rfl)) ?_
  intro W base args ds gs before hval0 hW hcnd hsz0 _
  have hval : ∀ (j : Nat) t v, Try.f11.params[j]? = some t → args[j]? = some v → Value.okWide Try.prog W .any base t v := hval0
  have hW' := hW
  obtain ⟨p, q, hA0, hV, rfl, hfz, hnd⟩ := hW
  have hA : DataW.TrodAll enc Try.prog W 0 (fun _ => true) true Try.f11.params.toList args.toList ds p := hA0
  have hsz : (DataW.weightsEach Try.prog (Try.f11.params.toList ++ Rows.storeGoodSpec.plain.varTypes Try.prog) (ds ++ gs)).all (· ≤ reachBytes) = true := hsz0
  rw [Try.params11] at hA hval hsz
  obtain ⟨v0, vs0, d0, ds0, p0, q0, hargs, rfl, rfl, h0, r0⟩ := trodAll_cons hA
  obtain ⟨v1, vs1, d1, ds1, p1, q1, rfl, rfl, rfl, h1, r1⟩ := trodAll_cons r0
  obtain ⟨v2, vs2, d2, ds2, p2, q2, rfl, rfl, rfl, h2, r2⟩ := trodAll_cons r1
  obtain ⟨rfl, rfl, rfl⟩ := trodAll_nil r2
  obtain rfl : args = #[v0, v1, v2] := by cases args; simp_all
  obtain ⟨rfl, rfl⟩ := trodVars_none hV
  obtain ⟨a0, rfl, rfl, rfl, w0⟩ := open_int Try.underlying3 (hval 0 3 v0 rfl rfl) h0
  obtain ⟨A1, n1, c1, rfl⟩ := okWide_slice Try.underlying27 (hval 1 27 v1 rfl rfl)
  have k1 := h1
  have lt1 : ∀ x ∈ p1, x.block < W.heap.size := by obtain ⟨m, hm⟩ := k1; exact DataW.trod_lt m _ _ _ hm
  obtain ⟨z1, s1⟩ := sees_bytesn Try.underlying27 Try.underlying5 (by kernel_rfl) h1 (by kernel_rfl) (fun _ _ hd => sized_slice hsz (j := 1) (t := 27) (e := 5) rfl (congrArg some hd) Try.underlying27)
  obtain ⟨a2, rfl, rfl, rfl⟩ := open_bool Try.underlying4 (hval 2 4 v2 rfl rfl) h2
  clear hA0 hval0
  refine (walk_storeGood a0 A1 n1 c1 z1 a2 W (bounds_i64 w0) s1).mono fun e W' ⟨he, bel⟩ => ?_
  subst he
  exact ⟨_, rfl, _, _, _, [], _, [], hW', trodAll_mk1 (shut_bool Try.underlying4 _), (trodAll_cons_mk (shut_int Try.underlying3 w0) (trodAll_cons_mk (Below.trod laidOut_storeGood (by kernel_rfl) (of_decide_eq_true (by kernel_rfl)) k1 bel lt1) (trodAll_cons_mk (shut_bool Try.underlying4 _) trodAll_mk0))), rfl, bel.frame _, fun h => by cases h⟩

theorem over_storeGood : Rows.storeGoodRow.holds Try.pinned (OpenSpec.ofChange Rows.storeGoodSpec) :=
  OpenClaim.holds_of_wide 11 Try.f11 rfl rfl rfl rfl rfl rfl rfl ⟨rfl, rfl, rfl, rfl, rfl⟩ rfl rfl rfl rfl rfl (by kernel_rfl) Try.func11 (by kernel_rfl)
    (of_decide_eq_true (by kernel_rfl)) (by unfold Func.isWrapper; first | (rw [if_pos (by decide +kernel)]; kernel_rfl) | (rw [if_neg (by decide +kernel)]; exact ⟨rfl, rfl⟩))
    (fun os started H enc _ => lifted_storeGood os started H enc)

theorem proved_storeGood : Rows.StoreGoodSaid := over_storeGood
end Go.Proofs.Ytpehefbmalaopaa
