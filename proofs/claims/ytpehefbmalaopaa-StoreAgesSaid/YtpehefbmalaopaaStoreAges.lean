/- StoreAges holds: what was never said does not age; what was said ages to a bound. For all numbers and bytes. -/
import Derived.Test.YtpehefbmalaopaaStL
import Derived.Test.YtpehefbmalaopaaOpen
namespace Go.Proofs.Ytpehefbmalaopaa
open Go.ChangeShapes Go.WideShapes Go.ChangeAt Go.RowKit

set_option maxRecDepth 100000 in
set_option maxHeartbeats 2000000 in
theorem core_storeAges (n : Int) (l : List Int) (A : Option Addr) (c : Nat) (w : World) (hv : SeesL w w.heap.size (.slice A l.length c) l) (hl : bytesL l) :
    Calls Try.prog 9 #[.int .i64 n, .slice A l.length c] w fun e w' => e = .returned (.bool true) ∧ Below w.heap.size w w' := by
  by_cases call : 0 ≤ n ∧ n ≤ 70000 ∧ l.length ≤ 8
  case neg =>
    go_enter Try.func9, Try.ntmps9
    go_wp2
    all_goals first
      | (exfalso; omega)
      | (go_ret; exact ⟨rfl, Below.refl _ _⟩)
      | skip
  obtain ⟨c1, c2, c3⟩ := call
  obtain ⟨N, rfl⟩ : ∃ t : Nat, n = t := ⟨n.toNat, by omega⟩
  have d1 : decide (((N : Nat) : Int) < 0) = false := decide_eq_false (by omega)
  have d2 : decide ((70000 : Int) < ((N : Nat) : Int)) = false := decide_eq_false (by omega)
  have d3 : decide ((8 : Int) < ((l.length : Nat) : Int)) = false := decide_eq_false (by omega)
  have Fd := field_d
  have Fa := field_a
  have Fg := field_g
  go_enter Try.func9, Try.ntmps9
  go_wp2_with fail
  refine (new_st _).mono ?_
  rintro _ w1 ⟨g, rfl, hg, h, b⟩
  replace h := h [g]
  go_wp2_with fail
  refine (put1 2 h (hv.below b) hl).mono ?_
  rintro _ u2 ⟨rfl, h', o⟩
  replace b := b.trans (o.below hg (SAt.lt h))
  replace h := h'
  clear o h'
  obtain ⟨st, hst⟩ : ∃ st, st = MS.new.put 2 l := ⟨_, rfl⟩
  rw [← hst] at h
  have hok := h.2
  have e1 : (st.ages N).ga 2 = if 65535 < ((N : Nat) : Int) then 65535 else ((N : Nat) : Int) := by
    subst hst
    simp [MS.ages, MS.put, MS.ga, isN, c3, upd, oldN, MS.new]
    split <;> omega
  have e2 : (st.ages N).ga 3 = -1 := by
    subst hst
    simp [MS.ages, MS.put, MS.ga, isN, c3, upd, oldN, MS.new]
  clear hst
  generalize hM : (if 65535 < ((N : Nat) : Int) then 65535 else ((N : Nat) : Int)) = M at *
  have h := ages_start h
  go_wp2_with fail
  go_loopw [6] (fun i wr => ∃ k : Nat, k ≤ N ∧ i = .int .i64 k ∧ CAt [g] wr g (st.ages k) ∧ Below w.heap.size w wr) (fun i _ => N - (intOf i).toNat)
  case atStart => exact ⟨0, by omega, rfl, h, b⟩
  case round =>
    clear h b
    obtain ⟨k, hk, rfl, h, b⟩ := hrel
    by_cases hlt : k < N
    · have r1 : decide ((k : Int) < (N : Int)) = true := decide_eq_true (by omega)
      go_wp2_with fail
      refine (age1 h).mono ?_
      rintro _ w5 ⟨rfl, h', o⟩
      replace b := b.trans (o.below hg (SAt.lt h))
      replace h := ages_age h' hok
      clear o h'
      go_wp2
      go_roundw
      case rel => exact ⟨k + 1, by omega, by go_num, h, b⟩
      case measure => simp [intOf]; omega
    · obtain rfl : k = N := by omega
      go_wp2_with fail
      have G := get1 2 h
      rw [e1] at G
      refine G.mono ?_
      rintro _ u1 ⟨v1, rfl, s1, o1, b'⟩
      replace h := SAt.below h b'
      replace b := b.trans (b'.mono b.size)
      obtain ⟨A1, c1, rfl, -⟩ := s1.at_
      clear G s1 o1 b'
      go_wp2_with fail
      have G := get1 3 h
      rw [e2] at G
      refine G.mono ?_
      rintro _ u2 ⟨v2, rfl, s2, o2, b'⟩
      replace h := SAt.below h b'
      replace b := b.trans (b'.mono b.size)
      obtain ⟨A2, c2, rfl, -⟩ := s2.at_
      clear G s2 o2 b'
      go_wp2_with fail
      refine (known_st _).mono ?_
      rintro _ wk ⟨rfl, bk⟩
      replace bk := b.trans (bk.mono b.size)
      go_wp2
      go_ret
      exact ⟨rfl, bk⟩
set_option maxRecDepth 100000 in
set_option maxHeartbeats 2000000 in
theorem walk_storeAges (n : Int) (A : Option Addr) (m c : Nat) (z : Nat → Int) (w : World) (_hn : -9223372036854775808 ≤ n ∧ n ≤ 9223372036854775807) (s : InBytesN w A m c z) :
    Calls Try.prog 9 #[.int .i64 n, .slice A m c] w fun e w' => e = .returned (.bool true) ∧ Below w.heap.size w w' := by
  obtain ⟨hv, hl⟩ := s.list
  have e := lst_length z m
  generalize lst z m = l at *
  subst e
  exact core_storeAges n l A c w hv hl

/-! ### THE ROW's STEP around the walk. -/
theorem own_storeAges : ownKnob Try.prog.godebug = none := by kernel_rfl
theorem laidOut_storeAges : laidOutB Try.prog = true := by kernel_rfl
set_option maxRecDepth 100000 in
theorem lifted_storeAges (os : Os) (started : os.Started) (H : Type) (enc : TypeId × Value → H) :
    ReturnsInHanded {} Try.checked os 9 .any (Rows.storeAgesSpec.pre6 enc Try.prog Try.f9 Rows.storeAgesRow.domain false) (Rows.storeAgesSpec.post enc Try.prog Try.f9 false true false false) := by
  refine returnsInHanded_of_change_sized (C := Try.checked) own_storeAges started (by kernel_rfl) Try.func9
    (ChangeSpec.witness6 (enc := enc) (C := Try.checked) false ⟨#[], #[.int .i64 0, .slice none 0 0], []⟩ 8 (by kernel_rfl) (by kernel_rfl) (by kernel_rfl) (by kernel_rfl)) ?_
  intro W base args ds gs before hval0 hW hcnd hsz0 _
  have hval : ∀ (j : Nat) t v, Try.f9.params[j]? = some t → args[j]? = some v → Value.okWide Try.prog W .any base t v := hval0
  have hW' := hW
  obtain ⟨p, q, hA0, hV, rfl, hfz, hnd⟩ := hW
  have hA : DataW.TrodAll enc Try.prog W 0 (fun _ => true) true Try.f9.params.toList args.toList ds p := hA0
  have hsz : (DataW.weightsEach Try.prog (Try.f9.params.toList ++ Rows.storeAgesSpec.plain.varTypes Try.prog) (ds ++ gs)).all (· ≤ reachBytes) = true := hsz0
  rw [Try.params9] at hA hval hsz
  obtain ⟨v0, vs0, d0, ds0, p0, q0, hargs, rfl, rfl, h0, r0⟩ := trodAll_cons hA
  obtain ⟨v1, vs1, d1, ds1, p1, q1, rfl, rfl, rfl, h1, r1⟩ := trodAll_cons r0
  obtain ⟨rfl, rfl, rfl⟩ := trodAll_nil r1
  obtain rfl : args = #[v0, v1] := by cases args; simp_all
  obtain ⟨rfl, rfl⟩ := trodVars_none hV
  obtain ⟨a0, rfl, rfl, rfl, w0⟩ := open_int Try.underlying3 (hval 0 3 v0 rfl rfl) h0
  obtain ⟨A1, n1, c1, rfl⟩ := okWide_slice Try.underlying27 (hval 1 27 v1 rfl rfl)
  have k1 := h1
  have lt1 : ∀ x ∈ p1, x.block < W.heap.size := by obtain ⟨m, hm⟩ := k1; exact DataW.trod_lt m _ _ _ hm
  obtain ⟨z1, s1⟩ := sees_bytesn Try.underlying27 Try.underlying5 (by kernel_rfl) h1 (by kernel_rfl) (fun _ _ hd => sized_slice hsz (j := 1) (t := 27) (e := 5) rfl (congrArg some hd) Try.underlying27)
  clear hA0 hval0
  refine (walk_storeAges a0 A1 n1 c1 z1 W (bounds_i64 w0) s1).mono fun e W' ⟨he, bel⟩ => ?_
  subst he
  exact ⟨_, rfl, _, _, _, [], _, [], hW', trodAll_mk1 (shut_bool Try.underlying4 _), (trodAll_cons_mk (shut_int Try.underlying3 w0) (trodAll_cons_mk (Below.trod laidOut_storeAges (by kernel_rfl) (of_decide_eq_true (by kernel_rfl)) k1 bel lt1) trodAll_mk0)), rfl, bel.frame _, fun h => by cases h⟩

theorem over_storeAges : Rows.storeAgesRow.holds Try.pinned (OpenSpec.ofChange Rows.storeAgesSpec) :=
  OpenClaim.holds_of_wide 9 Try.f9 rfl rfl rfl rfl rfl rfl rfl ⟨rfl, rfl, rfl, rfl, rfl⟩ rfl rfl rfl rfl rfl (by kernel_rfl) Try.func9 (by kernel_rfl)
    (of_decide_eq_true (by kernel_rfl)) (by unfold Func.isWrapper; first | (rw [if_pos (by decide +kernel)]; kernel_rfl) | (rw [if_neg (by decide +kernel)]; exact ⟨rfl, rfl⟩))
    (fun os started H enc _ => lifted_storeAges os started H enc)

theorem proved_storeAges : Rows.StoreAgesSaid := over_storeAges
end Go.Proofs.Ytpehefbmalaopaa
