/- StoreLast holds: what was said last is told, as often as it is asked; it ages by rounds. For all nodes, bytes and numbers. -/
import Derived.Test.YtnjllegnkbhciaaStL
import Derived.Test.YtnjllegnkbhciaaOpen
namespace Go.Proofs.Ytnjllegnkbhciaa
open Go.ChangeShapes Go.WideShapes Go.ChangeAt Go.RowKit

set_option maxRecDepth 100000 in
set_option maxHeartbeats 2000000 in
theorem core_storeLast (n : Int) (lD : List Int) (AD : Option Addr) (cD : Nat) (lE : List Int) (AE : Option Addr) (cE : Nat) (k : Int) (w : World) (hvD : SeesL w w.heap.size (.slice AD lD.length cD) lD) (hlD : bytesL lD) (hvE : SeesL w w.heap.size (.slice AE lE.length cE) lE) (hlE : bytesL lE) :
    Calls Try.prog 4 #[.int .i64 n, .slice AD lD.length cD, .slice AE lE.length cE, .int .i64 k] w fun e w' => e = .returned (.bool true) ∧ Below w.heap.size w w' := by
  by_cases call : 0 ≤ n ∧ n ≤ 7 ∧ lD.length ≤ 8 ∧ lE.length ≤ 8 ∧ 0 ≤ k ∧ k ≤ 200
  case neg =>
    go_enter Try.func4, Try.ntmps4
    go_wp2
    all_goals first
      | (exfalso; omega)
      | (go_ret; exact ⟨rfl, Below.refl _ _⟩)
      | skip
  obtain ⟨k0, k1, k2, k3, k4, k5⟩ := call
  obtain ⟨N, rfl⟩ : ∃ t : Nat, k = t := ⟨k.toNat, by omega⟩
  have q1 : decide (n < 0) = false := decide_eq_false (by omega)
  have q2 : decide ((7 : Int) < n) = false := decide_eq_false (by omega)
  have q_lD : decide ((8 : Int) < ((lD.length : Nat) : Int)) = false := decide_eq_false (by omega)
  have q_lE : decide ((8 : Int) < ((lE.length : Nat) : Int)) = false := decide_eq_false (by omega)
  have q3 : decide (((N : Nat) : Int) < 0) = false := decide_eq_false (by omega)
  have q4 : decide ((200 : Int) < ((N : Nat) : Int)) = false := decide_eq_false (by omega)
  go_enter Try.func4, Try.ntmps4
  go_wp2_with fail
  refine (new_st _).mono ?_
  rintro _ w1 ⟨g, rfl, hg, h, b⟩
  replace h := h [g]
  go_wp2_with fail
  refine (put1 n h (hvD.below b) hlD).mono ?_
  rintro _ u2 ⟨rfl, h', o⟩
  replace b := b.trans (o.below hg (SAt.lt h))
  replace h := h'
  clear o h'
  go_wp2_with fail
  refine (age1 h).mono ?_
  rintro _ u3 ⟨rfl, h', o⟩
  replace b := b.trans (o.below hg (SAt.lt h))
  replace h := h'
  clear o h'
  go_wp2_with fail
  refine (put1 n h (hvE.below b) hlE).mono ?_
  rintro _ u4 ⟨rfl, h', o⟩
  replace b := b.trans (o.below hg (SAt.lt h))
  replace h := h'
  clear o h'
  obtain ⟨st, hst⟩ : ∃ st, st = ((MS.new.put n lD).age).put n lE := ⟨_, rfl⟩
  rw [← hst] at h
  have hok := h.2
  have hn8 : isN n := ⟨by omega, by omega⟩
  have e1 : (st.ages N).ga n = ((N : Nat) : Int) := by
    subst hst
    unfold MS.ages MS.ga
    rw [if_pos hn8]
    unfold MS.put
    rw [if_pos ⟨hn8, k3⟩]
    simp only [upd, if_true, oldN]
    rw [if_pos (by omega)]
    omega
  have e2 : (st.ages N).gd n = lE := by
    subst hst
    unfold MS.ages MS.gd
    rw [if_pos hn8]
    unfold MS.put
    rw [if_pos ⟨hn8, k3⟩]
    simp [upd]
  clear hst hn8
  have h := ages_start h
  go_wp2_with fail
  go_loopw [10] (fun i wr => ∃ k : Nat, k ≤ N ∧ i = .int .i64 k ∧ CAt [g] wr g (st.ages k) ∧ Below w.heap.size w wr) (fun i _ => N - (intOf i).toNat)
  case atStart => exact ⟨0, by omega, rfl, h, b⟩
  case round =>
    clear h b
    obtain ⟨k, hk, rfl, h, b⟩ := hrel
    by_cases hlt : k < N
    · have r1 : decide ((k : Int) < (N : Int)) = true := decide_eq_true (by omega)
      go_wp2_with fail
      refine (age1 h).mono ?_
      rintro _ w5 ⟨rfl, h', o⟩
      replace b := b.trans (o.below hg (SAt.lt h))
      replace h := ages_age h' hok
      clear o h'
      go_wp2
      go_roundw
      case rel => exact ⟨k + 1, by omega, by go_num, h, b⟩
      case measure => simp [intOf]; omega
    · obtain rfl : k = N := by omega
      go_wp2_with fail
      have G := get1 n h
      rw [e1, e2] at G
      refine G.mono ?_
      rintro _ u1 ⟨v1, rfl, s1, o1, b'⟩
      replace h := SAt.below h b'
      replace b := b.trans (b'.mono b.size)
      obtain ⟨A1, c1, rfl, -⟩ := s1.at_
      clear G o1 b'
      go_wp2_with fail
      have G := get1 n h
      rw [e1, e2] at G
      refine G.mono ?_
      rintro _ u2 ⟨v2, rfl, s2, o2, b'⟩
      replace h := SAt.below h b'
      replace b := b.trans (b'.mono b.size)
      obtain ⟨A2, c2, rfl, -⟩ := s2.at_
      replace s1 := s1.below b'
      clear G o2 b'
      generalize hgg : (st.ages k).gg n = q at *
      have hM1 : ∃ M, M = Obj.cells #[.slice A1 lE.length c1, .int .i64 ((k : Nat) : Int), .bool q] 33 := ⟨_, rfl⟩
      obtain ⟨M1, hM1⟩ := hM1
      have hM2 : ∃ M, M = Obj.cells #[.slice A2 lE.length c2, .int .i64 ((k : Nat) : Int), .bool q] 33 := ⟨_, rfl⟩
      obtain ⟨M2, hM2⟩ := hM2
      have t1 := (s1.alloc M1).alloc M2
      have t2 := (s2.alloc M1).alloc M2
      have t3 := ((hvE.below b).alloc M1).alloc M2
      replace b := (b.alloc b.size M1).alloc (by simp; have := b.size; omega) M2
      subst hM1 hM2
      have R1 := run_textL t1
      have R3 := run_textL t3
      go_wp2_with fail
      refine (same1 t1 t2 hlE).mono ?_
      rintro _ w7 ⟨rfl, b'⟩
      replace b := b.trans (b'.mono b.size)
      clear b' 
      go_wp2_with fail
      refine (known_st _).mono ?_
      rintro _ wk ⟨rfl, bk⟩
      replace bk := b.trans (bk.mono b.size)
      go_wp2
      go_ret
      exact ⟨rfl, bk⟩
set_option maxRecDepth 100000 in
set_option maxHeartbeats 2000000 in
theorem walk_storeLast (n : Int) (AD : Option Addr) (mD cD : Nat) (zD : Nat → Int) (AE : Option Addr) (mE cE : Nat) (zE : Nat → Int) (k : Int) (w : World) (_hn : -9223372036854775808 ≤ n ∧ n ≤ 9223372036854775807) (sD : InBytesN w AD mD cD zD) (sE : InBytesN w AE mE cE zE) (_hk : -9223372036854775808 ≤ k ∧ k ≤ 9223372036854775807) :
    Calls Try.prog 4 #[.int .i64 n, .slice AD mD cD, .slice AE mE cE, .int .i64 k] w fun e w' => e = .returned (.bool true) ∧ Below w.heap.size w w' := by
  obtain ⟨hvD, hlD⟩ := sD.list
  have eD := lst_length zD mD
  generalize lst zD mD = lD at *
  subst eD
  obtain ⟨hvE, hlE⟩ := sE.list
  have eE := lst_length zE mE
  generalize lst zE mE = lE at *
  subst eE
  exact core_storeLast n lD AD cD lE AE cE k w hvD hlD hvE hlE

/-! ### THE ROW's STEP around the walk. -/
theorem own_storeLast : ownKnob Try.prog.godebug = none := by kernel_rfl
theorem laidOut_storeLast : laidOutB Try.prog = true := by kernel_rfl
set_option maxRecDepth 100000 in
theorem lifted_storeLast (os : Os) (started : os.Started) (H : Type) (enc : TypeId × Value → H) :
    ReturnsInHanded {} Try.checked os 4 .any (Rows.storeLastSpec.pre6 enc Try.prog Try.f4 Rows.storeLastRow.domain false) (Rows.storeLastSpec.post enc Try.prog Try.f4 false true false false) := by
  refine returnsInHanded_of_change_sized (C := Try.checked) own_storeLast started (by kernel_rfl) Try.func4
    (ChangeSpec.witness6 (enc := enc) (C := Try.checked) false ⟨#[], #[.int .i64 0, .slice none 0 0, .slice none 0 0, .int .i64 0], []⟩ 8 (by kernel_rfl) (by kernel_rfl) (by kernel_rfl) (by kernel_rfl)) ?_
  intro W base args ds gs before hval0 hW hcnd hsz0 _
  have hval : ∀ (j : Nat) t v, Try.f4.params[j]? = some t → args[j]? = some v → Value.okWide Try.prog W .any base t v := hval0
  have hW' := hW
  obtain ⟨p, q, hA0, hV, rfl, hfz, hnd⟩ := hW
  have hA : DataW.TrodAll enc Try.prog W 0 (fun _ => true) true Try.f4.params.toList args.toList ds p := hA0
  have hsz : (DataW.weightsEach Try.prog (Try.f4.params.toList ++ Rows.storeLastSpec.plain.varTypes Try.prog) (ds ++ gs)).all (· ≤ reachBytes) = true := hsz0
  rw [Try.params4] at hA hval hsz
  obtain ⟨v0, vs0, d0, ds0, p0, q0, hargs, rfl, rfl, h0, r0⟩ := trodAll_cons hA
  obtain ⟨v1, vs1, d1, ds1, p1, q1, rfl, rfl, rfl, h1, r1⟩ := trodAll_cons r0
  obtain ⟨v2, vs2, d2, ds2, p2, q2, rfl, rfl, rfl, h2, r2⟩ := trodAll_cons r1
  obtain ⟨v3, vs3, d3, ds3, p3, q3, rfl, rfl, rfl, h3, r3⟩ := trodAll_cons r2
  obtain ⟨rfl, rfl, rfl⟩ := trodAll_nil r3
  obtain rfl : args = #[v0, v1, v2, v3] := by cases args; simp_all
  obtain ⟨rfl, rfl⟩ := trodVars_none hV
  obtain ⟨a0, rfl, rfl, rfl, w0⟩ := open_int Try.underlying3 (hval 0 3 v0 rfl rfl) h0
  obtain ⟨A1, n1, c1, rfl⟩ := okWide_slice Try.underlying27 (hval 1 27 v1 rfl rfl)
  have k1 := h1
  have lt1 : ∀ x ∈ p1, x.block < W.heap.size := by obtain ⟨m, hm⟩ := k1; exact DataW.trod_lt m _ _ _ hm
  obtain ⟨z1, s1⟩ := sees_bytesn Try.underlying27 Try.underlying5 (by kernel_rfl) h1 (by kernel_rfl) (fun _ _ hd => sized_slice hsz (j := 1) (t := 27) (e := 5) rfl (congrArg some hd) Try.underlying27)
  obtain ⟨A2, n2, c2, rfl⟩ := okWide_slice Try.underlying27 (hval 2 27 v2 rfl rfl)
  have k2 := h2
  have lt2 : ∀ x ∈ p2, x.block < W.heap.size := by obtain ⟨m, hm⟩ := k2; exact DataW.trod_lt m _ _ _ hm
  obtain ⟨z2, s2⟩ := sees_bytesn Try.underlying27 Try.underlying5 (by kernel_rfl) h2 (by kernel_rfl) (fun _ _ hd => sized_slice hsz (j := 2) (t := 27) (e := 5) rfl (congrArg some hd) Try.underlying27)
  obtain ⟨a3, rfl, rfl, rfl, w3⟩ := open_int Try.underlying3 (hval 3 3 v3 rfl rfl) h3
  clear hA0 hval0
  refine (walk_storeLast a0 A1 n1 c1 z1 A2 n2 c2 z2 a3 W (bounds_i64 w0) s1 s2 (bounds_i64 w3)).mono fun e W' ⟨he, bel⟩ => ?_
  subst he
  exact ⟨_, rfl, _, _, _, [], _, [], hW', trodAll_mk1 (shut_bool Try.underlying4 _), (trodAll_cons_mk (shut_int Try.underlying3 w0) (trodAll_cons_mk (Below.trod laidOut_storeLast (by kernel_rfl) (of_decide_eq_true (by kernel_rfl)) k1 bel lt1) (trodAll_cons_mk (Below.trod laidOut_storeLast (by kernel_rfl) (of_decide_eq_true (by kernel_rfl)) k2 bel lt2) (trodAll_cons_mk (shut_int Try.underlying3 w3) trodAll_mk0)))), rfl, bel.frame _, fun h => by cases h⟩

theorem over_storeLast : Rows.storeLastRow.holds Try.pinned (OpenSpec.ofChange Rows.storeLastSpec) :=
  OpenClaim.holds_of_wide 4 Try.f4 rfl rfl rfl rfl rfl rfl rfl ⟨rfl, rfl, rfl, rfl, rfl⟩ rfl rfl rfl rfl rfl (by kernel_rfl) Try.func4 (by kernel_rfl)
    (of_decide_eq_true (by kernel_rfl)) (by unfold Func.isWrapper; first | (rw [if_pos (by decide +kernel)]; kernel_rfl) | (rw [if_neg (by decide +kernel)]; exact ⟨rfl, rfl⟩))
    (fun os started H enc _ => lifted_storeLast os started H enc)

theorem proved_storeLast : Rows.StoreLastSaid := over_storeLast
end Go.Proofs.Ytnjllegnkbhciaa
