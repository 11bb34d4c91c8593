/- GuardLearns holds: a guardian is told the slot just by an Info or Cold frame of one of its nodes. For all numbers and bytes. -/
import Derived.Test.YthigojakapgllaaGdS
import Derived.Test.YthigojakapgllaaGdO
namespace Go.Proofs.Ythigojakapgllaa
open Go.ChangeShapes Go.WideShapes Go.ChangeAt Go.RowKit

theorem OwnsL.only {w w1 : World} {Bs g : Nat} {v : Value} {l : List Int} (h : OwnsL w Bs v l) (k : Only g w w1) (hg : g < Bs) : OwnsL w1 Bs v l :=
  World.ownsRow.kept (row := some g) h k (.inr fun e => by have := World.ownsRow.lt h g e; omega)
set_option maxRecDepth 100000 in
set_option maxHeartbeats 8000000 in
theorem walk_guardLearns (n k sl : Int) (A : Option Addr) (m c : Nat) (z : Nat → Int) (w : World) (_h1 : -9223372036854775808 ≤ n ∧ n ≤ 9223372036854775807) (_h2 : -9223372036854775808 ≤ k ∧ k ≤ 9223372036854775807) (_h3 : -9223372036854775808 ≤ sl ∧ sl ≤ 9223372036854775807) (h : InBytesN w A m c z) :
    Calls Try.prog 6 #[.int .i64 n, .int .i64 k, .int .i64 sl, .slice A m c] w fun e w' => e = .returned (.bool true) ∧ Below w.heap.size w w' := by
  obtain ⟨hL, hby⟩ := h.list
  have hlm : (lst z m).length = m := lst_length z m
  clear h
  by_cases hok : (4 ≤ n ∧ n ≤ 8) ∧ (1 ≤ k ∧ k ≤ 3) ∧ (0 ≤ sl ∧ sl ≤ 7) ∧ m ≤ 3
  case neg =>
    clear hL hby hlm
    go_enter Try.func6, Try.ntmps6
    go_wp2_with fail
    all_goals first
      | (exfalso; omega)
      | (go_ret; exact ⟨rfl, Below.refl _ _⟩)
      | skip
  obtain ⟨⟨g4, g8⟩, ⟨k1, k3⟩, ⟨p0, p7⟩, m3⟩ := hok
  obtain ⟨N, rfl⟩ := Int.eq_ofNat_of_zero_le (show 0 ≤ n by omega)
  obtain ⟨S, rfl⟩ := Int.eq_ofNat_of_zero_le p0
  have q1 : decide ((N : Int) < 4) = false := decide_eq_false (by omega)
  have q2 : decide ((8 : Int) < (N : Int)) = false := decide_eq_false (by omega)
  have q3 : decide ((S : Int) < 0) = false := decide_eq_false (by omega)
  have q4 : decide ((7 : Int) < (S : Int)) = false := decide_eq_false (by omega)
  have q5 : decide (k < 1) = false := decide_eq_false (by omega)
  have q6 : decide ((3 : Int) < k) = false := decide_eq_false (by omega)
  have q7 : decide ((3 : Int) < (m : Int)) = false := decide_eq_false (by omega)
  have hKn := fun W => Lib.hid (known_gd W)
  have hS := fun W => Lib.hid (some_gd N 1 (by omega) (by omega) W)
  unfold someT tabV at hS
  simp only at hS
  have hN := fun v W B (h : OwnsD W B v (someL N)) => Lib.hid (show Calls Try.prog 11 #[.agg #[v, .int .i64 1, .int .i64 10, .int .i64 13]] W fun e w' => ∃ g, e = .returned (.tuple #[.pointer (some ⟨g, 0, none⟩), .int .i64 0]) ∧ W.heap.size ≤ g ∧ GAt w' g (newG (someT N 1)) ∧ Below W.heap.size W w' from new_some N 1 (by omega) (by omega) (by omega) v W h)
  have hE := fun W => Lib.hid (enc_law (k := k) (s := (S : Int)) (by omega) (by omega) W)
  have hOk := newG_ok N 1 (by omega) (by omega) (by omega) 7 (by omega)
  have hJ := fun g W (h : GAt W g (newG (someT N 1))) (hv : SeesL W W.heap.size (.slice A m c) (lst z m)) => Lib.hid (show Calls Try.prog 14 #[.pointer (some ⟨g, 0, none⟩), .slice A m c, .int .i64 7] W fun e w' => e = .returned (.tuple #[]) ∧ GAt w' g (newG (someT N 1)) ∧ Only g W w' from by
    have := end_gd g _ _ _ 7 W h hOk hv hby
    rw [ended_not _ rfl (tells_short (by omega) _)] at this
    exact this)
  have hK0 := fun g W (h : GAt W g (newG (someT N 1))) => Lib.hid (show Calls Try.prog 15 #[.pointer (some ⟨g, 0, none⟩)] W fun e w' => e = .returned (.tuple #[.int .i64 0, .bool false]) ∧ Below W.heap.size W w' from knows_gd g _ W h)
  have key : ∃ s1 : G, (∀ g v W, GAt W g (newG (someT N 1)) → SeesL W W.heap.size v (lawF k (S : Int)).bytes → Hid (Calls Try.prog 14 #[.pointer (some ⟨g, 0, none⟩), v, .int .i64 7] W fun e w' => e = .returned (.tuple #[]) ∧ GAt w' g s1 ∧ Only g W w')) ∧
      ((s1.kn = true ∧ s1.slot = (S + 1) % N ∧ s1.now = 7 ∧ (k != 1) = true ∧ decide ((S : Int) < (N : Int)) = true) ∨ (s1.kn = false ∧ s1.slot = 0 ∧ (k != 1) = true ∧ decide ((S : Int) < (N : Int)) = false) ∨ (s1.kn = false ∧ s1.slot = 0 ∧ (k != 1) = false)) := by
    by_cases hk1 : k = 1
    · subst hk1
      refine ⟨newG (someT N 1), fun g v W h hv => Lib.hid ?_, .inr (.inr ⟨rfl, rfl, rfl⟩)⟩
      have := end_gd g _ v _ 7 W h hOk hv (lawF_ok (by omega) (by omega))
      rw [ended_not _ rfl (tells_one _ _)] at this
      exact this
    · have hk1' : (k != 1) = true := by rw [bne_iff_ne]; exact hk1
      by_cases hSN : S < N
      · refine ⟨(newG (someT N 1)).told S 7, fun g v W h hv => Lib.hid ?_, .inl ⟨rfl, ?_, rfl, hk1', decide_eq_true (by omega)⟩⟩
        · have := end_gd g _ v _ 7 W h hOk hv (lawF_ok (by omega) (by omega))
          rw [ended_told _ rfl (by omega) S (by rw [newG_n]; omega) (by rw [newG_n]; omega)] at this
          exact this
        · show (S + 1) % (newG (someT N 1)).n = _
          rw [newG_n]
      · refine ⟨newG (someT N 1), fun g v W h hv => Lib.hid ?_, .inr (.inl ⟨rfl, rfl, hk1', decide_eq_false (by omega)⟩)⟩
        have := end_gd g _ v _ 7 W h hOk hv (lawF_ok (by omega) (by omega))
        rw [ended_not _ rfl (by rw [(tells_law (by omega) (by omega) _).1, newG_n]; exact decide_eq_false (by omega))] at this
        exact this
  obtain ⟨s1, hEnd, hcase⟩ := key
  have hK := fun g W (h : GAt W g s1) => Lib.hid (knows_gd g _ W h)
  have hW := fun g W (h : GAt W g s1) => Lib.hid (now_gd g _ W h)
  clear hOk hby
  generalize s1.kn = kn at *
  generalize s1.slot = ss at *
  generalize s1.now = nw at *
  generalize newG (someT N 1) = s0 at *
  generalize someL N = ls at *
  generalize (lawF k (S : Int)).bytes = bs at *
  have z1 : IntKind.i64.wrap ((S : Int) + 1) = (S : Int) + 1 := IntWalk.i64_in _ (by omega)
  have z2 : Int.tmod ((S : Int) + 1) (N : Int) = (((S + 1) % N : Nat) : Int) := by
    rw [Int.tmod_eq_emod_of_nonneg (by omega)]
    simp
  have z3 : ¬ (N : Int) = 0 := by omega
  have HLm := Lib.hid hlm
  clear hlm
  generalize (S + 1) % N = mm at *
  go_enter Try.func6, Try.ntmps6
  go_wp2_with fail
  refine (hS _).out.mono ?_
  rintro e w1 ⟨v1, rfl, ho1, hb1⟩
  go_wp2_with fail
  refine (hN v1 w1 _ ho1).out.mono ?_
  rintro e w2 ⟨g, rfl, hg, hG, hb⟩
  have hb2 := hb1.trans (hb.mono hb1.size)
  have hg2 := Nat.le_trans hb1.size hg
  clear hb hb1 ho1
  go_wp2_with fail
  refine (hE w2).out.mono ?_
  rintro e w3 ⟨v3, rfl, ho3, hb⟩
  have hb3 := hb2.trans (hb.mono hb2.size)
  have hG3 := hG.below hb hG.lt
  have hgw2 : g < w2.heap.size := hG.lt
  clear hb hG
  have hL3 := (hL.below hb3).more hb3.size
  obtain ⟨A3, c3, rfl, -⟩ := ho3.sees.at_
  go_wp2_with fail
  refine (hJ g w3 hG3 hL3).out.mono ?_
  rintro e w4 ⟨rfl, hG4, hO⟩
  have hb4 := hb3.trans (hO.below hg2 hG3.lt)
  have ho4 := ho3.only hO hgw2
  clear hO hG3 hL3 hb3 ho3
  go_wp2_with fail
  refine (hK0 g w4 hG4).out.mono ?_
  rintro e w5 ⟨rfl, hb⟩
  have hb5 := hb4.trans (hb.mono hb4.size)
  have hG5 := hG4.below hb hG4.lt
  have ho5 := ho4.below hb (Nat.le_refl _)
  clear hb hb4 hG4 ho4
  go_wp2_with fail
  refine (hEnd g _ w5 hG5 ho5.sees).out.mono ?_
  rintro e w6 ⟨rfl, hG6, hO⟩
  have hb6 := hb5.trans (hO.below hg2 hG5.lt)
  clear hO hG5 ho5 hb5
  go_wp2_with fail
  refine (hK g w6 hG6).out.mono ?_
  rintro e w7 ⟨rfl, hb⟩
  have hb7 := hb6.trans (hb.mono hb6.size)
  have hG7 := hG6.below hb hG6.lt
  clear hb hb6 hG6
  rcases hcase with ⟨rfl, rfl, rfl, r1, r2⟩ | ⟨rfl, rfl, r1, r2⟩ | ⟨rfl, rfl, r1⟩
  · have r3 : S < N := by have := of_decide_eq_true r2; omega
    go_wp2_with fail
    refine (hW g w7 hG7).out.mono ?_
    rintro e w8 ⟨rfl, rfl⟩
    go_wp2_with fail
    refine (hKn _).out.mono ?_
    rintro e w9 ⟨rfl, hb⟩
    go_wp2
    go_ret
    exact ⟨rfl, hb7.trans (hb.mono hb7.size)⟩
  · have r3 : ¬ S < N := by have := of_decide_eq_false r2; omega
    go_wp2_with fail
    refine (hKn _).out.mono ?_
    rintro e w9 ⟨rfl, hb⟩
    go_wp2
    go_ret
    exact ⟨rfl, hb7.trans (hb.mono hb7.size)⟩
  · go_wp2_with fail
    refine (hKn _).out.mono ?_
    rintro e w9 ⟨rfl, hb⟩
    go_wp2
    go_ret
    exact ⟨rfl, hb7.trans (hb.mono hb7.size)⟩

/-! ### THE ROW's STEP around the walk. -/
theorem own_guardLearns : ownKnob Try.prog.godebug = none := by kernel_rfl
theorem laidOut_guardLearns : laidOutB Try.prog = true := by kernel_rfl
set_option maxRecDepth 100000 in
theorem lifted_guardLearns (os : Os) (started : os.Started) (H : Type) (enc : TypeId × Value → H) :
    ReturnsInHanded {} Try.checked os 6 .any (Rows.guardLearnsSpec.pre6 enc Try.prog Try.f6 Rows.guardLearnsRow.domain false) (Rows.guardLearnsSpec.post enc Try.prog Try.f6 false true false false) := by
  refine returnsInHanded_of_change_sized (C := Try.checked) own_guardLearns started (by kernel_rfl) Try.func6
    (ChangeSpec.witness6 (enc := enc) (C := Try.checked) false ⟨#[], #[.int .i64 0, .int .i64 0, .int .i64 0, .slice none 0 0], []⟩ 8 (by kernel_rfl) (by kernel_rfl) (by kernel_rfl) (by kernel_rfl)) ?_
  intro W base args ds gs before hval0 hW hcnd hsz0 _
  have hval : ∀ (j : Nat) t v, Try.f6.params[j]? = some t → args[j]? = some v → Value.okWide Try.prog W .any base t v := hval0
  have hW' := hW
  obtain ⟨p, q, hA0, hV, rfl, hfz, hnd⟩ := hW
  have hA : DataW.TrodAll enc Try.prog W 0 (fun _ => true) true Try.f6.params.toList args.toList ds p := hA0
  have hsz : (DataW.weightsEach Try.prog (Try.f6.params.toList ++ Rows.guardLearnsSpec.plain.varTypes Try.prog) (ds ++ gs)).all (· ≤ reachBytes) = true := hsz0
  rw [Try.params6] at hA hval hsz
  obtain ⟨v0, vs0, d0, ds0, p0, q0, hargs, rfl, rfl, h0, r0⟩ := trodAll_cons hA
  obtain ⟨v1, vs1, d1, ds1, p1, q1, rfl, rfl, rfl, h1, r1⟩ := trodAll_cons r0
  obtain ⟨v2, vs2, d2, ds2, p2, q2, rfl, rfl, rfl, h2, r2⟩ := trodAll_cons r1
  obtain ⟨v3, vs3, d3, ds3, p3, q3, rfl, rfl, rfl, h3, r3⟩ := trodAll_cons r2
  obtain ⟨rfl, rfl, rfl⟩ := trodAll_nil r3
  obtain rfl : args = #[v0, v1, v2, v3] := by cases args; simp_all
  obtain ⟨rfl, rfl⟩ := trodVars_none hV
  obtain ⟨a0, rfl, rfl, rfl, w0⟩ := open_int Try.underlying3 (hval 0 3 v0 rfl rfl) h0
  obtain ⟨a1, rfl, rfl, rfl, w1⟩ := open_int Try.underlying3 (hval 1 3 v1 rfl rfl) h1
  obtain ⟨a2, rfl, rfl, rfl, w2⟩ := open_int Try.underlying3 (hval 2 3 v2 rfl rfl) h2
  obtain ⟨A3, n3, c3, rfl⟩ := okWide_slice Try.underlying32 (hval 3 32 v3 rfl rfl)
  have k3 := h3
  have lt3 : ∀ x ∈ p3, x.block < W.heap.size := by obtain ⟨m, hm⟩ := k3; exact DataW.trod_lt m _ _ _ hm
  obtain ⟨z3, s3⟩ := sees_bytesn Try.underlying32 Try.underlying5 (by kernel_rfl) h3 (by kernel_rfl) (fun _ _ hd => sized_slice hsz (j := 3) (t := 32) (e := 5) rfl (congrArg some hd) Try.underlying32)
  clear hA0 hval0
  refine (walk_guardLearns a0 a1 a2 A3 n3 c3 z3 W (bounds_i64 w0) (bounds_i64 w1) (bounds_i64 w2) s3).mono fun e W' ⟨he, bel⟩ => ?_
  subst he
  exact ⟨_, rfl, _, _, _, [], _, [], hW', trodAll_mk1 (shut_bool Try.underlying4 _), (trodAll_cons_mk (shut_int Try.underlying3 w0) (trodAll_cons_mk (shut_int Try.underlying3 w1) (trodAll_cons_mk (shut_int Try.underlying3 w2) (trodAll_cons_mk (Below.trod laidOut_guardLearns (by kernel_rfl) (of_decide_eq_true (by kernel_rfl)) k3 bel lt3) trodAll_mk0)))), rfl, bel.frame _, fun h => by cases h⟩

theorem over_guardLearns : Rows.guardLearnsRow.holds Try.pinned (OpenSpec.ofChange Rows.guardLearnsSpec) :=
  OpenClaim.holds_of_wide 6 Try.f6 rfl rfl rfl rfl rfl rfl rfl ⟨rfl, rfl, rfl, rfl, rfl⟩ rfl rfl rfl rfl rfl (by kernel_rfl) Try.func6 (by kernel_rfl)
    (of_decide_eq_true (by kernel_rfl)) (by unfold Func.isWrapper; first | (rw [if_pos (by decide +kernel)]; kernel_rfl) | (rw [if_neg (by decide +kernel)]; exact ⟨rfl, rfl⟩))
    (fun os started H enc _ => lifted_guardLearns os started H enc)

theorem proved_guardLearns : Rows.GuardLearnsSaid := over_guardLearns
end Go.Proofs.Ythigojakapgllaa
