/- LineMany holds: rows at once do not hang on their order; no rows are an empty one. For all levels. -/
import Derived.Test.YtgchecnfdbnnpaaMixMany
import Derived.Test.YtgchecnfdbnnpaaOpen2
namespace Go.Proofs.Ytgchecnfdbnnpaa
open Go.ChangeShapes Go.WideShapes Go.ChangeAt Go.RowKit
open Go.ChangeMaps (open_string shut_string)

set_option maxRecDepth 100000 in
set_option maxHeartbeats 4000000 in
theorem walk_lineMany (A : Option Addr) (n c : Nat) (a b : Nat → Int) (A' : Option Addr) (n' c' : Nat) (a' b' : Nat → Int) (A'' : Option Addr) (n'' c'' : Nat) (a'' b'' : Nat → Int) (w : World) (h : InPairs w A n c a b) (h' : InPairs w A' n' c' a' b') (h'' : InPairs w A'' n'' c'' a'' b'') :
    Calls Try.prog 12 #[.slice A n c, .slice A' n' c', .slice A'' n'' c''] w fun e w' => e = .returned (.bool true) ∧ Below w.heap.size w w' := by
  obtain ⟨hs, hn, hc⟩ := h
  obtain ⟨hs', hn', hc'⟩ := h'
  obtain ⟨hs'', hn'', hc''⟩ := h''
  obtain ⟨X, hX⟩ : ∃ X, X = min n 200 := ⟨_, rfl⟩
  obtain ⟨Y, hY⟩ : ∃ Y, Y = min n' 200 := ⟨_, rfl⟩
  obtain ⟨Z, hZ⟩ : ∃ Z, Z = min n'' 200 := ⟨_, rfl⟩
  have hX2 : X ≤ 200 := by omega
  have hY2 : Y ≤ 200 := by omega
  have hZ2 : Z ≤ 200 := by omega
  have RX := fun (W : World) (hb : Below w.heap.size w W) => row_any A n c a b W ((hs.below hb).more hb.size) (by omega)
  have RY := fun (W : World) (hb : Below w.heap.size w W) => row_any A' n' c' a' b' W ((hs'.below hb).more hb.size) (by omega)
  have RZ := fun (W : World) (hb : Below w.heap.size w W) => row_any A'' n'' c'' a'' b'' W ((hs''.below hb).more hb.size) (by omega)
  rw [← hX] at RX
  rw [← hY] at RY
  rw [← hZ] at RZ
  have HX := Lib.hid RX
  have HY := Lib.hid RY
  have HZ := Lib.hid RZ
  clear RX RY RZ hX hY hZ hn hn' hn'' hc hc' hc'' hs hs' hs''
  have lvs : ∀ x, (lev x).natAbs < 2 ^ 40 := fun x => by have := lev_small x; omega
  have lv2 : ∀ x, (lev x).natAbs < 2 ^ 50 := fun x => Nat.lt_trans (lvs x) (by decide)
  have ivs : ∀ (i k : Nat) x, (if k < i then lev x else 0).natAbs < 2 ^ 40 := fun i k x => by split; exact lvs x; decide
  have jvs : ∀ (i j k : Nat) x y, ((if k < i then lev x else 0) + (if k < j then lev y else 0)).natAbs < 2 ^ 50 := fun i j k x y => by
    have e1 := ivs i k x
    have e2 := ivs j k y
    omega
  go_enter Try.func12, Try.ntmps12
  go_wp2_with fail
  refine (HX.out w (Below.refl _ _)).mono ?_
  rintro e w1 ⟨v, rfl, ho, hb1⟩
  obtain ⟨A1, c1, rfl, -, -, g⟩ := Owns2.form ho
  clear ho
  go_wp2_with fail
  refine (of_any A1 X c1 _ _ w1 g (by omega)).mono ?_
  rintro e w2 ⟨v, rfl, ho, hb2⟩
  obtain ⟨AX, cX, rfl, -, -, gX⟩ := Owns.form ho
  have hb02 := hb1.trans (hb2.mono hb1.size)
  clear ho g hb1 hb2
  go_wp2_with fail
  refine (HY.out w2 hb02).mono ?_
  rintro e w3 ⟨v, rfl, ho, hb3⟩
  obtain ⟨A3, c3, rfl, -, -, g⟩ := Owns2.form ho
  clear ho
  go_wp2_with fail
  refine (of_any A3 Y c3 _ _ w3 g (by omega)).mono ?_
  rintro e w4 ⟨v, rfl, ho, hb4⟩
  obtain ⟨AY, cY, rfl, -, -, gY⟩ := Owns.form ho
  have hb24 := hb3.trans (hb4.mono hb3.size)
  have hb04 := hb02.trans (hb24.mono hb02.size)
  have gX4 := (gX.below hb24).more hb24.size
  clear ho g hb3 hb4 gX hb24
  go_wp2_with fail
  refine (HZ.out w4 hb04).mono ?_
  rintro e w5 ⟨v, rfl, ho, hb5⟩
  obtain ⟨A5, c5, rfl, -, -, g⟩ := Owns2.form ho
  clear ho
  go_wp2_with fail
  refine (of_any A5 Z c5 _ _ w5 g (by omega)).mono ?_
  rintro e w6 ⟨v, rfl, ho, hb6⟩
  obtain ⟨AZ, cZ, rfl, -, -, gZ⟩ := Owns.form ho
  have hb46 := hb5.trans (hb6.mono hb5.size)
  have hb06 := hb04.trans (hb46.mono hb04.size)
  have gX6 := (gX4.below hb46).more hb46.size
  have gY6 := (gY.below hb46).more hb46.size
  clear ho g hb5 hb6 gX4 gY hb46 HX HY HZ hb02 hb04
  go_wp2_with fail
  refine (mix_three AX AY AZ X Y Z cX cY cZ _ _ _ _ _ _ w6 _ gX6 gY6 gZ (by omega) (by omega) (by omega) (fun k => ⟨lv2 _, lv2 _⟩) (fun k => ⟨lv2 _, lv2 _⟩) (fun k => ⟨lv2 _, lv2 _⟩)).mono ?_
  rintro e w7 ⟨v, rfl, ho, hb7⟩
  obtain ⟨M, hM⟩ : ∃ M, M = max (max X Y) Z := ⟨_, rfl⟩
  have hM2 : M ≤ 200 := by omega
  rw [← hM] at ho
  obtain ⟨AM, cM, rfl, -, -, gM⟩ := Owns.form ho
  have gX7 := (gX6.below hb7).more hb7.size
  have gY7 := (gY6.below hb7).more hb7.size
  have gZ7 := (gZ.below hb7).more hb7.size
  have hb07 := hb06.trans (hb7.mono hb06.size)
  have HM := Lib.hid hM
  clear ho hb7 gX6 gY6 gZ hb06 hM
  go_wp2_with fail
  refine (mix_two AY AX Y X cY cX _ _ _ _ w7 _ gY7 gX7 (by omega) (by omega) (fun k => ⟨lv2 _, lv2 _⟩) (fun k => ⟨lv2 _, lv2 _⟩)).mono ?_
  rintro e w8 ⟨v, rfl, ho, hb8⟩
  obtain ⟨YX, hYX⟩ : ∃ M, M = max Y X := ⟨_, rfl⟩
  have hYX2 : YX ≤ 200 := by omega
  rw [← hYX] at ho
  obtain ⟨A8, c8, rfl, -, -, g8⟩ := Owns.form ho
  have HYX := Lib.hid hYX
  have gX8 := (gX7.below hb8).more hb8.size
  have gY8 := (gY7.below hb8).more hb8.size
  have gZ8 := (gZ7.below hb8).more hb8.size
  have gM8 := (gM.below hb8).more hb8.size
  have hb08 := hb07.trans (hb8.mono hb07.size)
  clear ho hb8 gX7 gY7 gZ7 gM hYX hb07
  go_wp2_with fail
  refine (mix_two AZ A8 Z YX cZ c8 _ _ _ _ w8 _ gZ8 g8 (by omega) (by omega) (fun k => ⟨lv2 _, lv2 _⟩) (fun k => ⟨jvs _ _ _ _ _, jvs _ _ _ _ _⟩)).mono ?_
  rintro e w9 ⟨v, rfl, ho, hb9⟩
  rw [show max Z YX = M by rw [HM.out, HYX.out]; omega] at ho
  have ho' := ho.alike (V' := fun k => cx ((if k < X then lev (a k) else 0) + (if k < Y then lev (a' k) else 0) + (if k < Z then lev (a'' k) else 0)) ((if k < X then lev (b k) else 0) + (if k < Y then lev (b' k) else 0) + (if k < Z then lev (b'' k) else 0))) (fun k _ => by
    have e := HYX.out
    by_cases h1 : k < X <;> by_cases h2 : k < Y <;> by_cases h3 : k < YX <;> first | omega | (simp only [h1, h2, h3, if_true, if_false]; congr 1 <;> omega))
  obtain ⟨A9, c9, rfl, -, -, g9⟩ := Owns.form ho'
  have gX9 := (gX8.below hb9).more hb9.size
  have gY9 := (gY8.below hb9).more hb9.size
  have gZ9 := (gZ8.below hb9).more hb9.size
  have gM9 := (gM8.below hb9).more hb9.size
  have hb09 := hb08.trans (hb9.mono hb08.size)
  have mvs : ∀ k (x y z : Int), ((if k < X then lev x else 0) + (if k < Y then lev y else 0) + (if k < Z then lev z else 0)).natAbs < 2 ^ 53 := fun k x y z => by
    have e1 := ivs X k x
    have e2 := ivs Y k y
    have e3 := ivs Z k z
    omega
  clear ho ho' hb9 gX8 gY8 gZ8 gM8 g8 HYX hYX2 hb08
  go_wp2_with fail
  refine (same_any AM A9 M cM c9 _ _ _ _ w9 gM9 g9 (fun k _ => mvs _ _ _ _) (fun k _ => mvs _ _ _ _) (by omega)).mono ?_
  rintro e w10 ⟨rfl, d, rfl⟩
  have gX10 : Sees (w9.drewN d) (w9.drewN d).heap.size AX X (fun k => cx (lev (a k)) (lev (b k))) := gX9
  have gY10 : Sees (w9.drewN d) (w9.drewN d).heap.size AY Y (fun k => cx (lev (a' k)) (lev (b' k))) := gY9
  have gZ10 : Sees (w9.drewN d) (w9.drewN d).heap.size AZ Z (fun k => cx (lev (a'' k)) (lev (b'' k))) := gZ9
  have gM10 : Sees (w9.drewN d) (w9.drewN d).heap.size AM M _ := gM9
  have hb010 : Below w.heap.size w (w9.drewN d) := ⟨hb09.os, hb09.tape, hb09.output, hb09.size, hb09.block⟩
  clear g9 gX9 gY9 gZ9 gM9 hb09
  go_wp2_with fail
  refine (mix_two AX AZ X Z cX cZ _ _ _ _ (w9.drewN d) _ gX10 gZ10 (by omega) (by omega) (fun k => ⟨lv2 _, lv2 _⟩) (fun k => ⟨lv2 _, lv2 _⟩)).mono ?_
  rintro e w11 ⟨v, rfl, ho, hb11⟩
  obtain ⟨XZ, hXZ⟩ : ∃ M, M = max X Z := ⟨_, rfl⟩
  have hXZ2 : XZ ≤ 200 := by omega
  rw [← hXZ] at ho
  obtain ⟨A11, c11, rfl, -, -, g11⟩ := Owns.form ho
  have HXZ := Lib.hid hXZ
  have gY11 := (gY10.below hb11).more hb11.size
  have gM11 := (gM10.below hb11).more hb11.size
  have hb011 := hb010.trans (hb11.mono hb010.size)
  clear ho hb11 gX10 gY10 gZ10 gM10 hXZ hb010
  go_wp2_with fail
  refine (mix_two A11 AY XZ Y c11 cY _ _ _ _ w11 _ g11 gY11 (by omega) (by omega) (fun k => ⟨jvs _ _ _ _ _, jvs _ _ _ _ _⟩) (fun k => ⟨lv2 _, lv2 _⟩)).mono ?_
  rintro e w12 ⟨v, rfl, ho, hb12⟩
  rw [show max XZ Y = M by rw [HM.out, HXZ.out]; omega] at ho
  have ho' := ho.alike (V' := fun k => cx ((if k < X then lev (a k) else 0) + (if k < Y then lev (a' k) else 0) + (if k < Z then lev (a'' k) else 0)) ((if k < X then lev (b k) else 0) + (if k < Y then lev (b' k) else 0) + (if k < Z then lev (b'' k) else 0))) (fun k _ => by
    have e := HXZ.out
    by_cases h1 : k < X <;> by_cases h2 : k < Z <;> by_cases h3 : k < XZ <;> first | omega | (simp only [h1, h2, h3, if_true, if_false]; congr 1 <;> omega))
  obtain ⟨A12, c12, rfl, -, -, g12⟩ := Owns.form ho'
  have gM12 := (gM11.below hb12).more hb12.size
  have hb012 := hb011.trans (hb12.mono hb011.size)
  clear ho ho' hb12 gY11 gM11 g11 HXZ hXZ2 hb011
  go_wp2_with fail
  refine (same_any AM A12 M cM c12 _ _ _ _ w12 gM12 g12 (fun k _ => mvs _ _ _ _) (fun k _ => mvs _ _ _ _) (by omega)).mono ?_
  rintro e w13 ⟨rfl, d2, rfl⟩
  have hb013 : Below w.heap.size w (w12.drewN d2) := ⟨hb012.os, hb012.tape, hb012.output, hb012.size, hb012.block⟩
  clear g12 gM12 hb012 jvs ivs mvs lvs lv2
  go_wp2_with fail
  refine (mix_none (w12.drewN d2)).mono ?_
  rintro e w14 ⟨A14, c14, rfl, hb14⟩
  have hb014 := hb013.trans (hb14.mono hb013.size)
  clear hb14 hb013
  have hM := HM.out
  rcases (show (Y ≤ X ∧ Z ≤ X ∧ X ≤ M ∧ M ≤ X) ∨ (X ≤ Y ∧ Z ≤ Y ∧ Y ≤ M ∧ M ≤ Y) ∨ (X ≤ Z ∧ Y ≤ Z ∧ Z ≤ M ∧ M ≤ Z) by omega) with ⟨m1, m2, m3, m4⟩ | ⟨m1, m2, m3, m4⟩ | ⟨m1, m2, m3, m4⟩
  all_goals
    clear hM
    go_wp2_with (go_at_call 19; refine (known_any _).mono ?_; rintro e w15 ⟨rfl, hb15⟩)
    all_goals
      go_ret
      exact ⟨rfl, hb014.trans (hb15.mono hb014.size)⟩

/-! ### THE ROW's STEP around the walk. -/
theorem own_lineMany : ownKnob Try.prog.godebug = none := by kernel_rfl
theorem laidOut_lineMany : laidOutB Try.prog = true := by kernel_rfl
set_option maxRecDepth 100000 in
theorem lifted_lineMany (os : Os) (started : os.Started) (H : Type) (enc : TypeId × Value → H) :
    ReturnsInHanded {} Try.checked os 12 .any (Rows.lineManySpec.pre6 enc Try.prog Try.f12 Rows.lineManyRow.domain false) (Rows.lineManySpec.post enc Try.prog Try.f12 false true false false) := by
  refine returnsInHanded_of_change (C := Try.checked) own_lineMany started (by kernel_rfl) Try.func12
    (ChangeSpec.witness6 (enc := enc) (C := Try.checked) false ⟨#[], #[.slice none 0 0, .slice none 0 0, .slice none 0 0], []⟩ 8 (by kernel_rfl) (by kernel_rfl) (by kernel_rfl) (by kernel_rfl)) ?_
  intro W base args ds gs before hval0 hW hcnd _
  have hval : ∀ (j : Nat) t v, Try.f12.params[j]? = some t → args[j]? = some v → Value.okWide Try.prog W .any base t v := hval0
  have hW' := hW
  obtain ⟨p, q, hA0, hV, rfl, hfz, hnd⟩ := hW
  have hA : DataW.TrodAll enc Try.prog W 0 (fun _ => true) true Try.f12.params.toList args.toList ds p := hA0
  rw [Try.params12] at hA hval
  obtain ⟨v0, vs0, d0, ds0, p0, q0, hargs, rfl, rfl, h0, r0⟩ := trodAll_cons hA
  obtain ⟨v1, vs1, d1, ds1, p1, q1, rfl, rfl, rfl, h1, r1⟩ := trodAll_cons r0
  obtain ⟨v2, vs2, d2, ds2, p2, q2, rfl, rfl, rfl, h2, r2⟩ := trodAll_cons r1
  obtain ⟨rfl, rfl, rfl⟩ := trodAll_nil r2
  obtain rfl : args = #[v0, v1, v2] := by cases args; simp_all
  obtain ⟨rfl, rfl⟩ := trodVars_none hV
  obtain ⟨A0, n0, c0, rfl⟩ := okWide_slice Try.underlying31 (hval 0 31 v0 rfl rfl)
  have k0 := h0
  have lt0 : ∀ x ∈ p0, x.block < W.heap.size := by obtain ⟨m, hm⟩ := k0; exact DataW.trod_lt m _ _ _ hm
  obtain ⟨a0, b0, s0⟩ := sees_pairs Try.underlying31 Try.underlying60 (by kernel_rfl) rfl rfl (by kernel_rfl) (by kernel_rfl) Try.underlying3 Try.underlying3 h0
  obtain ⟨A1, n1, c1, rfl⟩ := okWide_slice Try.underlying31 (hval 1 31 v1 rfl rfl)
  have k1 := h1
  have lt1 : ∀ x ∈ p1, x.block < W.heap.size := by obtain ⟨m, hm⟩ := k1; exact DataW.trod_lt m _ _ _ hm
  obtain ⟨a1, b1, s1⟩ := sees_pairs Try.underlying31 Try.underlying60 (by kernel_rfl) rfl rfl (by kernel_rfl) (by kernel_rfl) Try.underlying3 Try.underlying3 h1
  obtain ⟨A2, n2, c2, rfl⟩ := okWide_slice Try.underlying31 (hval 2 31 v2 rfl rfl)
  have k2 := h2
  have lt2 : ∀ x ∈ p2, x.block < W.heap.size := by obtain ⟨m, hm⟩ := k2; exact DataW.trod_lt m _ _ _ hm
  obtain ⟨a2, b2, s2⟩ := sees_pairs Try.underlying31 Try.underlying60 (by kernel_rfl) rfl rfl (by kernel_rfl) (by kernel_rfl) Try.underlying3 Try.underlying3 h2
  clear hA0 hval0
  refine (walk_lineMany A0 n0 c0 a0 b0 A1 n1 c1 a1 b1 A2 n2 c2 a2 b2 W s0 s1 s2).mono fun e W' ⟨he, bel⟩ => ?_
  subst he
  exact ⟨_, rfl, _, _, _, [], _, [], hW', trodAll_mk1 (shut_bool Try.underlying4 _), (trodAll_cons_mk (Below.trod laidOut_lineMany (by kernel_rfl) (of_decide_eq_true (by kernel_rfl)) k0 bel lt0) (trodAll_cons_mk (Below.trod laidOut_lineMany (by kernel_rfl) (of_decide_eq_true (by kernel_rfl)) k1 bel lt1) (trodAll_cons_mk (Below.trod laidOut_lineMany (by kernel_rfl) (of_decide_eq_true (by kernel_rfl)) k2 bel lt2) trodAll_mk0))), rfl, bel.frame _, fun h => by cases h⟩

theorem over_lineMany : Rows.lineManyRow.holds Try.pinned (OpenSpec.ofChange Rows.lineManySpec) :=
  OpenClaim.holds_of_wide 12 Try.f12 rfl rfl rfl rfl rfl rfl rfl ⟨rfl, rfl, rfl, rfl, rfl⟩ rfl rfl rfl rfl rfl (by kernel_rfl) Try.func12 (by kernel_rfl)
    (of_decide_eq_true (by kernel_rfl)) (by unfold Func.isWrapper; first | (rw [if_pos (by decide +kernel)]; kernel_rfl) | (rw [if_neg (by decide +kernel)]; exact ⟨rfl, rfl⟩))
    (fun os started H enc _ => lifted_lineMany os started H enc)

theorem proved_lineMany : Rows.LineManySaid := over_lineMany
end Go.Proofs.Ytgchecnfdbnnpaa
