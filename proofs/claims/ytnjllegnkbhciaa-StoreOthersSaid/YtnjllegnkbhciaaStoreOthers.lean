/- StoreOthers holds: nobody else's message is touched. For all nodes and bytes. -/
import Derived.Test.YtnjllegnkbhciaaStL
import Derived.Test.YtnjllegnkbhciaaOpen
namespace Go.Proofs.Ytnjllegnkbhciaa
open Go.ChangeShapes Go.WideShapes Go.ChangeAt Go.RowKit

set_option maxRecDepth 100000 in
set_option maxHeartbeats 2000000 in
theorem core_storeOthers (n : Int) (m : Int) (lD : List Int) (AD : Option Addr) (cD : Nat) (q : Bool) (w : World) (hvD : SeesL w w.heap.size (.slice AD lD.length cD) lD) (hlD : bytesL lD) :
    Calls Try.prog 6 #[.int .i64 n, .int .i64 m, .slice AD lD.length cD, .bool q] w fun e w' => e = .returned (.bool true) ∧ Below w.heap.size w w' := by
  by_cases call : 0 ≤ n ∧ n ≤ 7 ∧ 0 ≤ m ∧ m ≤ 7 ∧ m ≠ n ∧ lD.length ≤ 8
  case neg =>
    go_enter Try.func6, Try.ntmps6
    go_wp2
    all_goals first
      | (exfalso; omega)
      | (go_ret; exact ⟨rfl, Below.refl _ _⟩)
      | skip
  obtain ⟨k0, k1, k2, k3, k4, k5⟩ := call
  have Fd := field_d
  have Fa := field_a
  have Fg := field_g
  have q1 : decide (n < 0) = false := decide_eq_false (by omega)
  have q2 : decide ((7 : Int) < n) = false := decide_eq_false (by omega)
  have q3 : decide (m < 0) = false := decide_eq_false (by omega)
  have q4 : decide ((7 : Int) < m) = false := decide_eq_false (by omega)
  have q5 : (m == n) = false := by rw [beq_eq_false_iff_ne]; omega
  have q_lD : decide ((8 : Int) < ((lD.length : Nat) : Int)) = false := decide_eq_false (by omega)
  go_enter Try.func6, Try.ntmps6
  go_wp2_with fail
  refine (new_st _).mono ?_
  rintro _ w1 ⟨g, rfl, hg, h, b⟩
  replace h := h [g]
  go_wp2_with fail
  refine (put1 n h (hvD.below b) hlD).mono ?_
  rintro _ u2 ⟨rfl, h', o⟩
  replace b := b.trans (o.below hg (SAt.lt h))
  replace h := h'
  clear o h'
  go_wp2_with fail
  refine (member1 n q h).mono ?_
  rintro _ u3 ⟨rfl, h', o⟩
  replace b := b.trans (o.below hg (SAt.lt h))
  replace h := h'
  clear o h'
  obtain ⟨st, hst⟩ : ∃ st, st = (MS.new.put n lD).member n q := ⟨_, rfl⟩
  rw [← hst] at h
  have hn8 : isN n := ⟨by omega, by omega⟩
  have hm8 : isN m := ⟨by omega, by omega⟩
  have hne : ¬ m.toNat = n.toNat := by omega
  have e3 : st.gg n = q := by
    subst hst
    unfold MS.gg MS.member
    simp [hn8, upd]
  have f1 : st.gd m = [] := by
    subst hst
    unfold MS.gd MS.member MS.put
    simp [hn8, hm8, k5, upd, hne, MS.new]
  have f2 : st.ga m = -1 := by
    subst hst
    unfold MS.ga MS.member MS.put
    simp [hn8, hm8, k5, upd, hne, MS.new]
  have f3 : st.gg m = false := by
    subst hst
    unfold MS.gg MS.member MS.put
    simp [hn8, hm8, k5, upd, hne, MS.new]
  have hqq : (q == q) = true := by simp
  clear hst hn8 hm8
  go_wp2_with fail
  have G := get1 m h
  rw [f1, f2, f3] at G
  refine G.mono ?_
  rintro _ u4 ⟨v4, rfl, s4, o4, b'⟩
  replace h := SAt.below h b'
  replace b := b.trans (b'.mono b.size)
  obtain ⟨A4, c4, rfl, -⟩ := s4.at_
  clear G o4 b'
  go_wp2_with fail
  refine (same1 (C := 0) s4 SeesL.nil bytes_nil).mono ?_
  rintro _ w7 ⟨rfl, b'⟩
  replace b := b.trans (b'.mono b.size)
  replace h := SAt.below h b'
  clear b' s4
  go_wp2_with fail
  have G := get1 n h
  rw [e3] at G
  refine G.mono ?_
  rintro _ u5 ⟨v5, rfl, s5, o5, b'⟩
  replace h := SAt.below h b'
  replace b := b.trans (b'.mono b.size)
  obtain ⟨A5, c5, rfl, -⟩ := s5.at_
  clear G s5 o5 b'
  go_wp2_with fail
  refine (known_st _).mono ?_
  rintro _ wk ⟨rfl, bk⟩
  replace bk := b.trans (bk.mono b.size)
  go_wp2
  go_ret
  exact ⟨rfl, bk⟩
set_option maxRecDepth 100000 in
set_option maxHeartbeats 2000000 in
theorem walk_storeOthers (n : Int) (m : Int) (AD : Option Addr) (mD cD : Nat) (zD : Nat → Int) (q : Bool) (w : World) (_hn : -9223372036854775808 ≤ n ∧ n ≤ 9223372036854775807) (_hm : -9223372036854775808 ≤ m ∧ m ≤ 9223372036854775807) (sD : InBytesN w AD mD cD zD) :
    Calls Try.prog 6 #[.int .i64 n, .int .i64 m, .slice AD mD cD, .bool q] w fun e w' => e = .returned (.bool true) ∧ Below w.heap.size w w' := by
  obtain ⟨hvD, hlD⟩ := sD.list
  have eD := lst_length zD mD
  generalize lst zD mD = lD at *
  subst eD
  exact core_storeOthers n m lD AD cD q w hvD hlD

/-! ### THE ROW's STEP around the walk. -/
theorem own_storeOthers : ownKnob Try.prog.godebug = none := by kernel_rfl
theorem laidOut_storeOthers : laidOutB Try.prog = true := by kernel_rfl
set_option maxRecDepth 100000 in
theorem lifted_storeOthers (os : Os) (started : os.Started) (H : Type) (enc : TypeId × Value → H) :
    ReturnsInHanded {} Try.checked os 6 .any (Rows.storeOthersSpec.pre6 enc Try.prog Try.f6 Rows.storeOthersRow.domain false) (Rows.storeOthersSpec.post enc Try.prog Try.f6 false true false false) := by
  refine returnsInHanded_of_change_sized (C := Try.checked) own_storeOthers started (by kernel_rfl) Try.func6
    (ChangeSpec.witness6 (enc := enc) (C := Try.checked) false ⟨#[], #[.int .i64 0, .int .i64 0, .slice none 0 0, .bool false], []⟩ 8 (by kernel_rfl) (by kernel_rfl) (by kernel_rfl) (by kernel_rfl)) ?_
  intro W base args ds gs before hval0 hW hcnd hsz0 _
  have hval : ∀ (j : Nat) t v, Try.f6.params[j]? = some t → args[j]? = some v → Value.okWide Try.prog W .any base t v := hval0
  have hW' := hW
  obtain ⟨p, q, hA0, hV, rfl, hfz, hnd⟩ := hW
  have hA : DataW.TrodAll enc Try.prog W 0 (fun _ => true) true Try.f6.params.toList args.toList ds p := hA0
  have hsz : (DataW.weightsEach Try.prog (Try.f6.params.toList ++ Rows.storeOthersSpec.plain.varTypes Try.prog) (ds ++ gs)).all (· ≤ reachBytes) = true := hsz0
  rw [Try.params6] at hA hval hsz
  obtain ⟨v0, vs0, d0, ds0, p0, q0, hargs, rfl, rfl, h0, r0⟩ := trodAll_cons hA
  obtain ⟨v1, vs1, d1, ds1, p1, q1, rfl, rfl, rfl, h1, r1⟩ := trodAll_cons r0
  obtain ⟨v2, vs2, d2, ds2, p2, q2, rfl, rfl, rfl, h2, r2⟩ := trodAll_cons r1
  obtain ⟨v3, vs3, d3, ds3, p3, q3, rfl, rfl, rfl, h3, r3⟩ := trodAll_cons r2
  obtain ⟨rfl, rfl, rfl⟩ := trodAll_nil r3
  obtain rfl : args = #[v0, v1, v2, v3] := by cases args; simp_all
  obtain ⟨rfl, rfl⟩ := trodVars_none hV
  obtain ⟨a0, rfl, rfl, rfl, w0⟩ := open_int Try.underlying3 (hval 0 3 v0 rfl rfl) h0
  obtain ⟨a1, rfl, rfl, rfl, w1⟩ := open_int Try.underlying3 (hval 1 3 v1 rfl rfl) h1
  obtain ⟨A2, n2, c2, rfl⟩ := okWide_slice Try.underlying27 (hval 2 27 v2 rfl rfl)
  have k2 := h2
  have lt2 : ∀ x ∈ p2, x.block < W.heap.size := by obtain ⟨m, hm⟩ := k2; exact DataW.trod_lt m _ _ _ hm
  obtain ⟨z2, s2⟩ := sees_bytesn Try.underlying27 Try.underlying5 (by kernel_rfl) h2 (by kernel_rfl) (fun _ _ hd => sized_slice hsz (j := 2) (t := 27) (e := 5) rfl (congrArg some hd) Try.underlying27)
  obtain ⟨a3, rfl, rfl, rfl⟩ := open_bool Try.underlying4 (hval 3 4 v3 rfl rfl) h3
  clear hA0 hval0
  refine (walk_storeOthers a0 a1 A2 n2 c2 z2 a3 W (bounds_i64 w0) (bounds_i64 w1) s2).mono fun e W' ⟨he, bel⟩ => ?_
  subst he
  exact ⟨_, rfl, _, _, _, [], _, [], hW', trodAll_mk1 (shut_bool Try.underlying4 _), (trodAll_cons_mk (shut_int Try.underlying3 w0) (trodAll_cons_mk (shut_int Try.underlying3 w1) (trodAll_cons_mk (Below.trod laidOut_storeOthers (by kernel_rfl) (of_decide_eq_true (by kernel_rfl)) k2 bel lt2) (trodAll_cons_mk (shut_bool Try.underlying4 _) trodAll_mk0)))), rfl, bel.frame _, fun h => by cases h⟩

theorem over_storeOthers : Rows.storeOthersRow.holds Try.pinned (OpenSpec.ofChange Rows.storeOthersSpec) :=
  OpenClaim.holds_of_wide 6 Try.f6 rfl rfl rfl rfl rfl rfl rfl ⟨rfl, rfl, rfl, rfl, rfl⟩ rfl rfl rfl rfl rfl (by kernel_rfl) Try.func6 (by kernel_rfl)
    (of_decide_eq_true (by kernel_rfl)) (by unfold Func.isWrapper; first | (rw [if_pos (by decide +kernel)]; kernel_rfl) | (rw [if_neg (by decide +kernel)]; exact ⟨rfl, rfl⟩))
    (fun os started H enc _ => lifted_storeOthers os started H enc)

theorem proved_storeOthers : Rows.StoreOthersSaid := over_storeOthers
end Go.Proofs.Ytnjllegnkbhciaa
