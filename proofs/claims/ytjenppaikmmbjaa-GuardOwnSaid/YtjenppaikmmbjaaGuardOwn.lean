/- GuardOwn holds: who is not the slot's node is not passed by one who knows it, whatever it sends, and whenever. For all numbers of nodes, slots, senders and times. -/
import Derived.Test.YtjenppaikmmbjaaGdL
import Derived.Test.YtjenppaikmmbjaaGdO
namespace Go.Proofs.Ytjenppaikmmbjaa
open Go.ChangeShapes Go.WideShapes Go.ChangeAt Go.RowKit

theorem pass_own (s : G) (f : Nat → Bool) (a : Nat → Int) (hk : s.kn = true) : (s.pass f a = -1) ∨ (s.pass f a = (s.slot : Nat) ∧ f s.slot = true) := by
  unfold G.pass
  rw [hk]
  cases h : f s.slot
  · left; simp
  · cases h2 : nearB (a s.slot) s.now s.wi
    · left; simp
    · right; simp
set_option maxRecDepth 100000 in
set_option maxHeartbeats 8000000 in
theorem walk_guardOwn (n sl : Int) (b0 b1 b2 b3 b4 b5 b6 b7 : Bool) (c0 c1 c2 c3 c4 c5 c6 c7 : Int) (w : World) (_hn : -9223372036854775808 ≤ n ∧ n ≤ 9223372036854775807) (_hs : -9223372036854775808 ≤ sl ∧ sl ≤ 9223372036854775807)
    (_hc : ∀ k, i64g (is8 c0 c1 c2 c3 c4 c5 c6 c7 k)) :
    Calls Try.prog 3 #[.int .i64 n, .int .i64 sl, bools8 (bs8 b0 b1 b2 b3 b4 b5 b6 b7), ints8 (is8 c0 c1 c2 c3 c4 c5 c6 c7)] w fun e w' => e = .returned (.bool true) ∧ Below w.heap.size w w' := by
  generalize bs8 b0 b1 b2 b3 b4 b5 b6 b7 = f
  generalize is8 c0 c1 c2 c3 c4 c5 c6 c7 = a at *
  have hB := ((Below.refl w.heap.size w).alloc (Nat.le_refl _) (.cells #[.bool (f 0), .bool (f 1), .bool (f 2), .bool (f 3), .bool (f 4), .bool (f 5), .bool (f 6), .bool (f 7)] 22)).alloc (by simp) (.cells #[.int .i64 (a 0), .int .i64 (a 1), .int .i64 (a 2), .int .i64 (a 3), .int .i64 (a 4), .int .i64 (a 5), .int .i64 (a 6), .int .i64 (a 7)] 23)
  have hX := (Blk.new w _ rfl #[.bool (f 0), .bool (f 1), .bool (f 2), .bool (f 3), .bool (f 4), .bool (f 5), .bool (f 6), .bool (f 7)] 22).alloc (.cells #[.int .i64 (a 0), .int .i64 (a 1), .int .i64 (a 2), .int .i64 (a 3), .int .i64 (a 4), .int .i64 (a 5), .int .i64 (a 6), .int .i64 (a 7)] 23)
  have hY := Blk.new (w.alloc (.cells #[.bool (f 0), .bool (f 1), .bool (f 2), .bool (f 3), .bool (f 4), .bool (f 5), .bool (f 6), .bool (f 7)] 22)) (w.heap.size + 1) (by simp) #[.int .i64 (a 0), .int .i64 (a 1), .int .i64 (a 2), .int .i64 (a 3), .int .i64 (a 4), .int .i64 (a 5), .int .i64 (a 6), .int .i64 (a 7)] 23
  have hKn := fun W => Lib.hid (known_gd W)
  unfold bools8 ints8
  generalize hw0 : (w.alloc (.cells #[.bool (f 0), .bool (f 1), .bool (f 2), .bool (f 3), .bool (f 4), .bool (f 5), .bool (f 6), .bool (f 7)] 22)).alloc (.cells #[.int .i64 (a 0), .int .i64 (a 1), .int .i64 (a 2), .int .i64 (a 3), .int .i64 (a 4), .int .i64 (a 5), .int .i64 (a 6), .int .i64 (a 7)] 23) = w0 at *
  by_cases hok : (4 ≤ n ∧ n ≤ 8) ∧ 0 ≤ sl ∧ sl < n
  case neg =>
    clear hX hY hKn
    go_enter Try.func3, Try.ntmps3
    go_wp2_with fail
    all_goals first
      | (exfalso; omega)
      | (go_ret; exact ⟨rfl, hB⟩)
      | skip
  obtain ⟨⟨g4, g8⟩, p0, pn⟩ := hok
  obtain ⟨N, rfl⟩ := Int.eq_ofNat_of_zero_le (show 0 ≤ n by omega)
  obtain ⟨S, rfl⟩ := Int.eq_ofNat_of_zero_le p0
  have q1 : decide ((N : Int) < 4) = false := decide_eq_false (by omega)
  have q2 : decide ((8 : Int) < (N : Int)) = false := decide_eq_false (by omega)
  have q3 : decide ((S : Int) < 0) = false := decide_eq_false (by omega)
  have q4 : decide ((N : Int) ≤ (S : Int)) = false := decide_eq_false (by omega)
  have hS := fun W => Lib.hid (some_gd N 1 (by omega) (by omega) W)
  unfold someT tabV at hS
  simp only at hS
  have hN := fun v W B (h : OwnsD W B v (someL N)) => Lib.hid (show Calls Try.prog 10 #[.agg #[v, .int .i64 1, .int .i64 10, .int .i64 13]] W fun e w' => ∃ g, e = .returned (.tuple #[.pointer (some ⟨g, 0, none⟩), .int .i64 0]) ∧ W.heap.size ≤ g ∧ GAt w' g (newG (someT N 1)) ∧ Below W.heap.size W w' from new_some N 1 (by omega) (by omega) (by omega) v W h)
  have hE := fun W => Lib.hid (enc_law (k := 3) (s := (S : Int)) (by omega) (by omega) W)
  have hlen : (newG (someT N 1)).n = N := someL_length N
  have hEnd := fun g v W (h : GAt W g (newG (someT N 1))) (hv : SeesL W W.heap.size v (lawF 3 (S : Int)).bytes) => Lib.hid (show Calls Try.prog 13 #[.pointer (some ⟨g, 0, none⟩), v, .int .i64 5] W fun e w' => e = .returned (.tuple #[]) ∧ GAt w' g ((newG (someT N 1)).told S 5) ∧ Only g W w' from by
    have := end_gd g _ v _ 5 W h (newG_ok N 1 (by omega) (by omega) (by omega) 5 (by omega)) hv (lawF_ok (by omega) (by omega))
    rw [ended_told _ rfl (by omega) S (by omega) (by omega)] at this
    exact this)
  have hslot : ((newG (someT N 1)).told S 5).slot = (S + 1) % N := by show (S + 1) % (newG (someT N 1)).n = _; rw [hlen]
  have hP := fun g W (h : GAt W g ((newG (someT N 1)).told S 5)) (ha : time (a ((S + 1) % N))) => Lib.hid (show Calls Try.prog 15 #[.pointer (some ⟨g, 0, none⟩), .agg #[.bool (f 0), .bool (f 1), .bool (f 2), .bool (f 3), .bool (f 4), .bool (f 5), .bool (f 6), .bool (f 7)], .agg #[.int .i64 (a 0), .int .i64 (a 1), .int .i64 (a 2), .int .i64 (a 3), .int .i64 (a 4), .int .i64 (a 5), .int .i64 (a 6), .int .i64 (a 7)]] W fun e w' => e = .returned (.int .i64 (((newG (someT N 1)).told S 5).pass f a)) ∧ Below W.heap.size W w' from
    pass_gd g _ f a W h (by show (newG (someT N 1)).n ≤ 8; omega) (by rw [hslot]; have := Nat.mod_lt (S + 1) (show 0 < N by omega); omega) (by show time 5; unfold time; omega) (by rw [hslot]; exact ha) (by show (0 : Int) ≤ 4 * 1 + 6 ∧ (4 * 1 + 6 : Int) ≤ _; omega))
  have hK := fun g W (h : GAt W g ((newG (someT N 1)).told S 5)) => Lib.hid (knows_gd g _ W h)
  have hpo := pass_own ((newG (someT N 1)).told S 5) f a rfl
  rw [hslot] at hK hpo
  rw [show ((newG (someT N 1)).told S 5).kn = true from rfl] at hK
  generalize (newG (someT N 1)).told S 5 = s1 at *
  generalize s1.pass f a = p at *
  generalize newG (someT N 1) = s0 at *
  generalize someL N = ls at *
  generalize (lawF 3 (S : Int)).bytes = bs at *
  have hm : (S + 1) % N < N := Nat.mod_lt _ (by omega)
  have z1 : IntKind.i64.wrap ((S : Int) + 1) = (S : Int) + 1 := IntWalk.i64_in _ (by omega)
  have z2 : Int.tmod ((S : Int) + 1) (N : Int) = (((S + 1) % N : Nat) : Int) := by
    rw [Int.tmod_eq_emod_of_nonneg (by omega)]
    simp
  have z3 : ¬ (N : Int) = 0 := by omega
  generalize hmm : (S + 1) % N = m at *
  clear hmm
  have HX : Hid (∀ W k, Below w0.heap.size w0 W → k < 8 → W.cell? ⟨w.heap.size, k, none⟩ = some (.bool (f k))) := Lib.hid fun W k hW hk => (hX.below hW hX.lt).cell k (b8_get f k hk)
  have HY : Hid (∀ W k, Below w0.heap.size w0 W → k < 8 → W.cell? ⟨w.heap.size + 1, k, none⟩ = some (.int .i64 (a k))) := Lib.hid fun W k hW hk => (hY.below hW hY.lt).cell k (i8_get a k hk)
  clear hX hY
  go_enter Try.func3, Try.ntmps3
  go_wp2_with fail
  go_loopw [9] (fun i wr => ∃ k : Nat, k ≤ 8 ∧ i = .int .i64 k ∧ (∀ j, j < k → time (a j)) ∧ wr = w0) (fun i _ => 8 - (intOf i).toNat)
  case atStart => exact ⟨0, by omega, rfl, fun j hj => by omega, rfl⟩
  case round =>
    obtain ⟨k, hk, rfl, ht, rfl⟩ := hrel
    by_cases hlt : k < 8
    · have r1 : decide ((k : Int) < 8) = true := decide_eq_true (by omega)
      have ck := HY.out _ k (Below.refl _ _) hlt
      have i1 : (0 : Int) ≤ (k : Int) := by omega
      have i2 : (k : Int) < 8 := by omega
      by_cases u1 : a k < -1099511627776
      · go_wp2
        go_ret
        exact ⟨rfl, hB⟩
      by_cases u2 : 1099511627776 < a k
      · go_wp2
        go_ret
        exact ⟨rfl, hB⟩
      have u3 : decide (a k < -1099511627776) = false := decide_eq_false u1
      have u4 : decide (1099511627776 < a k) = false := decide_eq_false u2
      go_wp2
      go_roundw
      case rel => exact ⟨k + 1, by omega, by go_num, fun j hj => by
        by_cases e : j = k
        · subst e; unfold time; omega
        · exact ht j (by omega), trivial⟩
      case measure => simp [intOf]; omega
    · have r1 : decide ((k : Int) < 8) = false := decide_eq_false (by omega)
      have hta := ht m (by omega)
      go_wp2_with fail
      refine (hS _).out.mono ?_
      rintro e w1 ⟨v1, rfl, ho1, hb1⟩
      go_wp2_with fail
      refine (hN v1 w1 _ ho1).out.mono ?_
      rintro e w2 ⟨g, rfl, hg, hG, hb⟩
      have hb2 := hb1.trans (hb.mono hb1.size)
      have hg2 := Nat.le_trans hb1.size hg
      clear hb hb1 ho1
      go_wp2_with fail
      refine (hE w2).out.mono ?_
      rintro e w3 ⟨v3, rfl, ho3, hb⟩
      have hb3 := hb2.trans (hb.mono hb2.size)
      have hG3 := hG.below hb hG.lt
      clear hb hb2 hG
      have hv3 := ho3.sees
      obtain ⟨A3, c3, rfl, -⟩ := hv3.at_
      go_wp2_with fail
      refine (hEnd g _ w3 hG3 hv3).out.mono ?_
      rintro e w4 ⟨rfl, hG4, hO⟩
      have hb4 := hb3.trans (hO.below hg2 hG3.lt)
      clear hO hG3 ho3 hv3 hb3
      go_wp2_with fail
      refine (hK g w4 hG4).out.mono ?_
      rintro e w5 ⟨rfl, hb⟩
      have hb5 := hb4.trans (hb.mono hb4.size)
      have hG5 := hG4.below hb hG4.lt
      clear hb hb4 hG4
      obtain ⟨x0, x1, x2, x3, x4, x5, x6, x7⟩ := (⟨HX.out w5 0 hb5 (by omega), HX.out w5 1 hb5 (by omega), HX.out w5 2 hb5 (by omega), HX.out w5 3 hb5 (by omega), HX.out w5 4 hb5 (by omega), HX.out w5 5 hb5 (by omega), HX.out w5 6 hb5 (by omega), HX.out w5 7 hb5 (by omega)⟩ : _ ∧ _ ∧ _ ∧ _ ∧ _ ∧ _ ∧ _ ∧ _)
      obtain ⟨y0, y1, y2, y3, y4, y5, y6, y7⟩ := (⟨HY.out w5 0 hb5 (by omega), HY.out w5 1 hb5 (by omega), HY.out w5 2 hb5 (by omega), HY.out w5 3 hb5 (by omega), HY.out w5 4 hb5 (by omega), HY.out w5 5 hb5 (by omega), HY.out w5 6 hb5 (by omega), HY.out w5 7 hb5 (by omega)⟩ : _ ∧ _ ∧ _ ∧ _ ∧ _ ∧ _ ∧ _ ∧ _)
      go_wp2_with fail
      refine (hP g w5 hG5 hta).out.mono ?_
      rintro e w6 ⟨rfl, hb⟩
      have hb6 := hb5.trans (hb.mono hb5.size)
      have hm8 : m < 8 := by omega
      have xm := HX.out w6 m hb6 hm8
      clear hb hb5 x0 x1 x2 x3 x4 x5 x6 x7 y0 y1 y2 y3 y4 y5 y6 y7
      have i1 : (0 : Int) ≤ (m : Int) := by omega
      have i2 : (m : Int) < 8 := by omega
      rcases hpo with rfl | ⟨rfl, hfm⟩
      · go_wp2_with fail
        refine (hKn w6).out.mono ?_
        rintro e w7 ⟨rfl, hb⟩
        go_wp2
        go_ret
        exact ⟨rfl, hB.trans ((hb6.trans (hb.mono hb6.size)).mono hB.size)⟩
      · rw [hfm] at xm
        have e1 : ((m : Int) == -1) = false := by rw [beq_eq_false_iff_ne]; omega
        have e2 : decide ((m : Int) < 0) = false := decide_eq_false (by omega)
        go_wp2_with fail
        refine (hKn w6).out.mono ?_
        rintro e w7 ⟨rfl, hb⟩
        go_wp2
        go_ret
        exact ⟨rfl, hB.trans ((hb6.trans (hb.mono hb6.size)).mono hB.size)⟩

/-! ### THE ROW's STEP around the walk. -/
theorem own_guardOwn : ownKnob Try.prog.godebug = none := by kernel_rfl
theorem laidOut_guardOwn : laidOutB Try.prog = true := by kernel_rfl
set_option maxRecDepth 100000 in
theorem lifted_guardOwn (os : Os) (started : os.Started) (H : Type) (enc : TypeId × Value → H) :
    ReturnsInHanded {} Try.checked os 3 .any (Rows.guardOwnSpec.pre6 enc Try.prog Try.f3 Rows.guardOwnRow.domain false) (Rows.guardOwnSpec.post enc Try.prog Try.f3 false true false false) := by
  refine returnsInHanded_of_change (C := Try.checked) own_guardOwn started (by kernel_rfl) Try.func3
    (ChangeSpec.witness6 (enc := enc) (C := Try.checked) false ⟨#[], #[.int .i64 0, .int .i64 0, .agg #[.bool false, .bool false, .bool false, .bool false, .bool false, .bool false, .bool false, .bool false], .agg #[.int .i64 0, .int .i64 0, .int .i64 0, .int .i64 0, .int .i64 0, .int .i64 0, .int .i64 0, .int .i64 0]], []⟩ 8 (by kernel_rfl) (by kernel_rfl) (by kernel_rfl) (by kernel_rfl)) ?_
  intro W base args ds gs before hval0 hW hcnd _
  have hval : ∀ (j : Nat) t v, Try.f3.params[j]? = some t → args[j]? = some v → Value.okWide Try.prog W .any base t v := hval0
  have hW' := hW
  obtain ⟨p, q, hA0, hV, rfl, hfz, hnd⟩ := hW
  have hA : DataW.TrodAll enc Try.prog W 0 (fun _ => true) true Try.f3.params.toList args.toList ds p := hA0
  rw [Try.params3] at hA hval
  obtain ⟨v0, vs0, d0, ds0, p0, q0, hargs, rfl, rfl, h0, r0⟩ := trodAll_cons hA
  obtain ⟨v1, vs1, d1, ds1, p1, q1, rfl, rfl, rfl, h1, r1⟩ := trodAll_cons r0
  obtain ⟨v2, vs2, d2, ds2, p2, q2, rfl, rfl, rfl, h2, r2⟩ := trodAll_cons r1
  obtain ⟨v3, vs3, d3, ds3, p3, q3, rfl, rfl, rfl, h3, r3⟩ := trodAll_cons r2
  obtain ⟨rfl, rfl, rfl⟩ := trodAll_nil r3
  obtain rfl : args = #[v0, v1, v2, v3] := by cases args; simp_all
  obtain ⟨rfl, rfl⟩ := trodVars_none hV
  obtain ⟨a0, rfl, rfl, rfl, w0⟩ := open_int Try.underlying3 (hval 0 3 v0 rfl rfl) h0
  obtain ⟨a1, rfl, rfl, rfl, w1⟩ := open_int Try.underlying3 (hval 1 3 v1 rfl rfl) h1
  obtain ⟨y2_0, y2_1, y2_2, y2_3, y2_4, y2_5, y2_6, y2_7, rfl⟩ := sees_bools8 Try.underlying22 (by kernel_rfl) Try.underlying4 (by kernel_rfl) (hval 2 22 v2 rfl rfl) h2
  have k2 := h2
  have lt2 : ∀ x ∈ p2, x.block < W.heap.size := by obtain ⟨m, hm⟩ := k2; exact DataW.trod_lt m _ _ _ hm
  obtain ⟨y3_0, y3_1, y3_2, y3_3, y3_4, y3_5, y3_6, y3_7, rfl, s3⟩ := sees_ints8 Try.underlying23 (by kernel_rfl) Try.underlying3 (by kernel_rfl) (hval 3 23 v3 rfl rfl) h3
  have k3 := h3
  have lt3 : ∀ x ∈ p3, x.block < W.heap.size := by obtain ⟨m, hm⟩ := k3; exact DataW.trod_lt m _ _ _ hm
  clear hA0 hval0
  refine (walk_guardOwn a0 a1 y2_0 y2_1 y2_2 y2_3 y2_4 y2_5 y2_6 y2_7 y3_0 y3_1 y3_2 y3_3 y3_4 y3_5 y3_6 y3_7 W (bounds_i64 w0) (bounds_i64 w1) s3).mono fun e W' ⟨he, bel⟩ => ?_
  subst he
  exact ⟨_, rfl, _, _, _, [], _, [], hW', trodAll_mk1 (shut_bool Try.underlying4 _), (trodAll_cons_mk (shut_int Try.underlying3 w0) (trodAll_cons_mk (shut_int Try.underlying3 w1) (trodAll_cons_mk (Below.trod laidOut_guardOwn (by kernel_rfl) (of_decide_eq_true (by kernel_rfl)) k2 bel lt2) (trodAll_cons_mk (Below.trod laidOut_guardOwn (by kernel_rfl) (of_decide_eq_true (by kernel_rfl)) k3 bel lt3) trodAll_mk0)))), rfl, bel.frame _, fun h => by cases h⟩

theorem over_guardOwn : Rows.guardOwnRow.holds Try.pinned (OpenSpec.ofChange Rows.guardOwnSpec) :=
  OpenClaim.holds_of_wide 3 Try.f3 rfl rfl rfl rfl rfl rfl rfl ⟨rfl, rfl, rfl, rfl, rfl⟩ rfl rfl rfl rfl rfl (by kernel_rfl) Try.func3 (by kernel_rfl)
    (of_decide_eq_true (by kernel_rfl)) (by unfold Func.isWrapper; first | (rw [if_pos (by decide +kernel)]; kernel_rfl) | (rw [if_neg (by decide +kernel)]; exact ⟨rfl, rfl⟩))
    (fun os started H enc _ => lifted_guardOwn os started H enc)

theorem proved_guardOwn : Rows.GuardOwnSaid := over_guardOwn
end Go.Proofs.Ytjenppaikmmbjaa
