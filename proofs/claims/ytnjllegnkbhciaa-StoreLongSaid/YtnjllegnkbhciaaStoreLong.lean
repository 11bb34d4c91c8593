/- StoreLong holds: more bytes than may be, and what is no node, are not taken. For all arguments. -/
import Derived.Test.YtnjllegnkbhciaaStL
import Derived.Test.YtnjllegnkbhciaaOpen
namespace Go.Proofs.Ytnjllegnkbhciaa
open Go.ChangeShapes Go.WideShapes Go.ChangeAt Go.RowKit

theorem owns_zeros {w : World} {B : Nat} {v : Value} {n : Nat} (h : Owns w B 5 v n (fun _ => .int .u8 0)) : OwnsL w B v (List.replicate n 0) := by
  unfold OwnsL
  rw [List.length_replicate]
  refine h.alike fun k hk => ?_
  simp [bv, List.getD_eq_getElem?_getD, hk]
theorem bytes_zeros (n : Nat) : bytesL (List.replicate n 0) := fun x hx => by
  have := List.eq_of_mem_replicate hx
  omega
set_option maxRecDepth 100000 in
set_option maxHeartbeats 2000000 in
theorem core_storeLong (n : Int) (k : Int) (w : World) :
    Calls Try.prog 7 #[.int .i64 n, .int .i64 k] w fun e w' => e = .returned (.bool true) ∧ Below w.heap.size w w' := by
  by_cases call : 0 ≤ k ∧ k ≤ 30
  case neg =>
    go_enter Try.func7, Try.ntmps7
    go_wp2
    all_goals first
      | (exfalso; omega)
      | (go_ret; exact ⟨rfl, Below.refl _ _⟩)
      | skip
  obtain ⟨k0, k1⟩ := call
  have Fd := field_d
  have Fa := field_a
  have Fg := field_g
  obtain ⟨N, rfl⟩ : ∃ t : Nat, k = t := ⟨k.toNat, by omega⟩
  have q3 : decide (((N : Nat) : Int) < 0) = false := decide_eq_false (by omega)
  have q4 : decide ((30 : Int) < ((N : Nat) : Int)) = false := decide_eq_false (by omega)
  go_enter Try.func7, Try.ntmps7
  go_wp2_with fail
  refine (new_st _).mono ?_
  rintro _ w1 ⟨g, rfl, hg, h, b⟩
  replace h := h [g]
  go_wp2_with (at_make; refine wpList_zeros _ rfl _ _ 27 rfl w1.heap.size w1 (Below.refl _ _) (Nat.le_refl _) 5 (.int .u8 0) 1 infoU8 rfl Try.underlying27 _ _ _ _ N rfl rfl rfl rfl (by omega) (by unfold maxLen; omega) ?_)
  intro w2 ho2 hb2 hsz hgr
  have hS := (owns_zeros ho2).sees
  replace h := SAt.below h hb2
  replace b := b.trans (hb2.mono b.size)
  clear ho2 hb2 hsz hgr
  go_wp2_with fail
  refine (put1 n h hS (bytes_zeros N)).mono ?_
  rintro _ w3 ⟨rfl, h', o⟩
  replace b := b.trans (o.below hg (SAt.lt h))
  replace h := h'
  clear o h' hS
  have key : ∃ st, st = MS.new.put n (List.replicate N 0) ∧ ((st.ga n = 0 ∧ 0 ≤ n ∧ n ≤ 7 ∧ N ≤ 8) ∨ (st.ga n = -1 ∧ n < 0) ∨ (st.ga n = -1 ∧ 0 ≤ n ∧ 7 < n) ∨ (st.ga n = -1 ∧ 0 ≤ n ∧ n ≤ 7 ∧ 8 < N)) := by
    refine ⟨_, rfl, ?_⟩
    by_cases hn : isN n
    · unfold MS.put MS.ga
      rw [if_pos hn]
      by_cases h8 : N ≤ 8
      · rw [if_pos ⟨hn, by simpa using h8⟩]
        unfold isN at hn
        exact .inl ⟨by simp [upd], by omega, by omega, h8⟩
      · rw [if_neg (fun h => h8 (by simpa using h.2))]
        unfold isN at hn
        exact .inr (.inr (.inr ⟨rfl, by omega, by omega, by omega⟩))
    · unfold MS.ga
      rw [if_neg hn]
      unfold isN at hn
      by_cases h0 : n < 0
      · exact .inr (.inl ⟨rfl, h0⟩)
      · exact .inr (.inr (.inl ⟨rfl, by omega, by omega⟩))
  obtain ⟨st, hst, hcase⟩ := key
  rw [← hst] at h
  clear hst
  rcases hcase with ⟨e, r1, r2, r3⟩ | ⟨e, r1⟩ | ⟨e, r1, r2⟩ | ⟨e, r1, r2, r3⟩
  · have z1 : decide ((0 : Int) ≤ n) = true := decide_eq_true r1
    have z2 : decide (n ≤ 7) = true := decide_eq_true r2
    have z3 : decide (((N : Nat) : Int) ≤ 8) = true := decide_eq_true (by omega)
    go_wp2_with fail
    have G := get1 n h
    rw [e] at G
    refine G.mono ?_
    rintro _ u4 ⟨v4, rfl, s4, o4, b'⟩
    replace h := SAt.below h b'
    replace b := b.trans (b'.mono b.size)
    obtain ⟨A4, c4, rfl, -⟩ := s4.at_
    clear G s4 o4 b'
    go_wp2_with fail
    refine (known_st _).mono ?_
    rintro _ wk ⟨rfl, bk⟩
    replace bk := b.trans (bk.mono b.size)
    go_wp2
    go_ret
    exact ⟨rfl, bk⟩
  · have z1 : decide ((0 : Int) ≤ n) = false := decide_eq_false (by omega)
    go_wp2_with fail
    have G := get1 n h
    rw [e] at G
    refine G.mono ?_
    rintro _ u4 ⟨v4, rfl, s4, o4, b'⟩
    replace h := SAt.below h b'
    replace b := b.trans (b'.mono b.size)
    obtain ⟨A4, c4, rfl, -⟩ := s4.at_
    clear G s4 o4 b'
    go_wp2_with fail
    have G := get1 n h
    rw [e] at G
    refine G.mono ?_
    rintro _ u5 ⟨v5, rfl, s5, o5, b'⟩
    replace h := SAt.below h b'
    replace b := b.trans (b'.mono b.size)
    obtain ⟨A5, c5, rfl, -⟩ := s5.at_
    clear G s5 o5 b'
    go_wp2_with fail
    refine (known_st _).mono ?_
    rintro _ wk ⟨rfl, bk⟩
    replace bk := b.trans (bk.mono b.size)
    go_wp2
    go_ret
    exact ⟨rfl, bk⟩
  · have z1 : decide ((0 : Int) ≤ n) = true := decide_eq_true r1
    have z2 : decide (n ≤ 7) = false := decide_eq_false (by omega)
    go_wp2_with fail
    have G := get1 n h
    rw [e] at G
    refine G.mono ?_
    rintro _ u4 ⟨v4, rfl, s4, o4, b'⟩
    replace h := SAt.below h b'
    replace b := b.trans (b'.mono b.size)
    obtain ⟨A4, c4, rfl, -⟩ := s4.at_
    clear G s4 o4 b'
    go_wp2_with fail
    have G := get1 n h
    rw [e] at G
    refine G.mono ?_
    rintro _ u5 ⟨v5, rfl, s5, o5, b'⟩
    replace h := SAt.below h b'
    replace b := b.trans (b'.mono b.size)
    obtain ⟨A5, c5, rfl, -⟩ := s5.at_
    clear G s5 o5 b'
    go_wp2_with fail
    refine (known_st _).mono ?_
    rintro _ wk ⟨rfl, bk⟩
    replace bk := b.trans (bk.mono b.size)
    go_wp2
    go_ret
    exact ⟨rfl, bk⟩
  · have z1 : decide ((0 : Int) ≤ n) = true := decide_eq_true r1
    have z2 : decide (n ≤ 7) = true := decide_eq_true r2
    have z3 : decide (((N : Nat) : Int) ≤ 8) = false := decide_eq_false (by omega)
    go_wp2_with fail
    have G := get1 n h
    rw [e] at G
    refine G.mono ?_
    rintro _ u4 ⟨v4, rfl, s4, o4, b'⟩
    replace h := SAt.below h b'
    replace b := b.trans (b'.mono b.size)
    obtain ⟨A4, c4, rfl, -⟩ := s4.at_
    clear G s4 o4 b'
    go_wp2_with fail
    have G := get1 n h
    rw [e] at G
    refine G.mono ?_
    rintro _ u5 ⟨v5, rfl, s5, o5, b'⟩
    replace h := SAt.below h b'
    replace b := b.trans (b'.mono b.size)
    obtain ⟨A5, c5, rfl, -⟩ := s5.at_
    clear G s5 o5 b'
    go_wp2_with fail
    refine (known_st _).mono ?_
    rintro _ wk ⟨rfl, bk⟩
    replace bk := b.trans (bk.mono b.size)
    go_wp2
    go_ret
    exact ⟨rfl, bk⟩
set_option maxRecDepth 100000 in
set_option maxHeartbeats 2000000 in
theorem walk_storeLong (n : Int) (k : Int) (w : World) (_hn : -9223372036854775808 ≤ n ∧ n ≤ 9223372036854775807) (_hk : -9223372036854775808 ≤ k ∧ k ≤ 9223372036854775807) :
    Calls Try.prog 7 #[.int .i64 n, .int .i64 k] w fun e w' => e = .returned (.bool true) ∧ Below w.heap.size w w' := by
  exact core_storeLong n k w

/-! ### THE ROW's STEP around the walk. -/
theorem own_storeLong : ownKnob Try.prog.godebug = none := by kernel_rfl
theorem laidOut_storeLong : laidOutB Try.prog = true := by kernel_rfl
set_option maxRecDepth 100000 in
theorem lifted_storeLong (os : Os) (started : os.Started) (H : Type) (enc : TypeId × Value → H) :
    ReturnsInHanded {} Try.checked os 7 .any (Rows.storeLongSpec.pre6 enc Try.prog Try.f7 Rows.storeLongRow.domain false) (Rows.storeLongSpec.post enc Try.prog Try.f7 false true false false) := by
  refine returnsInHanded_of_change (C := Try.checked) own_storeLong started (by kernel_rfl) Try.func7
    (ChangeSpec.witness6 (enc := enc) (C := Try.checked) false ⟨#[], #[.int .i64 0, .int .i64 0], []⟩ 8 (by kernel_rfl) (by kernel_rfl) (by kernel_rfl) (by kernel_rfl)) ?_
  intro W base args ds gs before hval0 hW hcnd _
  have hval : ∀ (j : Nat) t v, Try.f7.params[j]? = some t → args[j]? = some v → Value.okWide Try.prog W .any base t v := hval0
  have hW' := hW
  obtain ⟨p, q, hA0, hV, rfl, hfz, hnd⟩ := hW
  have hA : DataW.TrodAll enc Try.prog W 0 (fun _ => true) true Try.f7.params.toList args.toList ds p := hA0
  rw [Try.params7] at hA hval
  obtain ⟨v0, vs0, d0, ds0, p0, q0, hargs, rfl, rfl, h0, r0⟩ := trodAll_cons hA
  obtain ⟨v1, vs1, d1, ds1, p1, q1, rfl, rfl, rfl, h1, r1⟩ := trodAll_cons r0
  obtain ⟨rfl, rfl, rfl⟩ := trodAll_nil r1
  obtain rfl : args = #[v0, v1] := by cases args; simp_all
  obtain ⟨rfl, rfl⟩ := trodVars_none hV
  obtain ⟨a0, rfl, rfl, rfl, w0⟩ := open_int Try.underlying3 (hval 0 3 v0 rfl rfl) h0
  obtain ⟨a1, rfl, rfl, rfl, w1⟩ := open_int Try.underlying3 (hval 1 3 v1 rfl rfl) h1
  clear hA0 hval0
  refine (walk_storeLong a0 a1 W (bounds_i64 w0) (bounds_i64 w1)).mono fun e W' ⟨he, bel⟩ => ?_
  subst he
  exact ⟨_, rfl, _, _, _, [], _, [], hW', trodAll_mk1 (shut_bool Try.underlying4 _), (trodAll_cons_mk (shut_int Try.underlying3 w0) (trodAll_cons_mk (shut_int Try.underlying3 w1) trodAll_mk0)), rfl, bel.frame _, fun h => by cases h⟩

theorem over_storeLong : Rows.storeLongRow.holds Try.pinned (OpenSpec.ofChange Rows.storeLongSpec) :=
  OpenClaim.holds_of_wide 7 Try.f7 rfl rfl rfl rfl rfl rfl rfl ⟨rfl, rfl, rfl, rfl, rfl⟩ rfl rfl rfl rfl rfl (by kernel_rfl) Try.func7 (by kernel_rfl)
    (of_decide_eq_true (by kernel_rfl)) (by unfold Func.isWrapper; first | (rw [if_pos (by decide +kernel)]; kernel_rfl) | (rw [if_neg (by decide +kernel)]; exact ⟨rfl, rfl⟩))
    (fun os started H enc _ => lifted_storeLong os started H enc)

theorem proved_storeLong : Rows.StoreLongSaid := over_storeLong
end Go.Proofs.Ytnjllegnkbhciaa
