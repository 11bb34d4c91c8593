/- LineMixes holds: any two rows at once; a row in some channels, or with a sample turned: the document's. For all levels, bools and numbers. -/
import Derived.Test.YtbjojpcgigoenaaLineP
import Derived.Test.YtbjojpcgigoenaaMixTwo
import Derived.Test.YtbjojpcgigoenaaOpen2
namespace Go.Proofs.Ytbjojpcgigoenaa
open Go.ChangeShapes Go.WideShapes Go.ChangeAt Go.RowKit
open Go.ChangeMaps (open_string shut_string)

theorem below_drewN {B : Nat} {w w' : World} (h : Below B w w') (d : Nat) : Below B w (w'.drewN d) := ⟨h.os, h.tape, h.output, h.size, h.block⟩

set_option maxRecDepth 100000 in
set_option maxHeartbeats 8000000 in
theorem walk_lineMixes (A : Option Addr) (n c : Nat) (a b : Nat → Int) (A' : Option Addr) (n' c' : Nat) (a' b' : Nat → Int) (f s : Bool) (t : Int) (w : World) (h : InPairs w A n c a b) (h' : InPairs w A' n' c' a' b') (ht : -9223372036854775808 ≤ t ∧ t ≤ 9223372036854775807) :
    Calls Try.prog 3 #[.slice A n c, .slice A' n' c', .bool f, .bool s, .int .i64 t] w fun e w' => e = .returned (.bool true) ∧ Below w.heap.size w w' := by
  obtain ⟨hs, hn, hc⟩ := h
  obtain ⟨hs', hn', hc'⟩ := h'
  obtain ⟨X, hX⟩ : ∃ X, X = min n 200 := ⟨_, rfl⟩
  obtain ⟨Y, hY⟩ : ∃ Y, Y = min n' 200 := ⟨_, rfl⟩
  have hX2 : X ≤ 200 := by omega
  have hY2 : Y ≤ 200 := by omega
  have RX := row_any A n c a b w hs (by omega)
  have RY := fun (W : World) (hb : Below w.heap.size w W) => row_any A' n' c' a' b' W ((hs'.below hb).more hb.size) (by omega)
  rw [← hX] at RX
  rw [← hY] at RY
  have HX := Lib.hid RX
  have HY := Lib.hid RY
  have lvs : ∀ x, -9 ≤ lev x ∧ lev x ≤ 9 := fun x => by have := lev_small x; omega
  have lv50 : ∀ x, (lev x).natAbs < 2 ^ 50 := fun x => by have := lev_small x; omega
  have lv52 : ∀ x, (lev x).natAbs < 2 ^ 52 := fun x => by have := lev_small x; omega
  have pvs : ∀ g x, (pf g (lev x)).natAbs < 2 ^ 53 := fun g x => by
    cases g
    · exact (by decide : (0 : Int).natAbs < 2 ^ 53)
    · exact Nat.lt_trans (lv52 x) (by decide)
  have tvs : ∀ (g : Nat → Int) k, (turned t (fun k => lev (g k)) k).natAbs < 2 ^ 53 := fun g k => by
    have := lev_small (g k)
    simp only [turned]
    split <;> omega
  have svs : ∀ (g g' : Nat → Int) k, ((if k < X then lev (g k) else 0) + (if k < Y then lev (g' k) else 0)).natAbs < 2 ^ 53 := fun g g' k => by
    have h1 := lev_small (g k)
    have h2 := lev_small (g' k)
    split <;> split <;> omega
  clear RX RY hX hY hn hn' hc hc' hs hs'
  go_enter Try.func3, Try.ntmps3
  go_wp2_with fail
  refine HX.out.mono ?_
  rintro e w1 ⟨v, rfl, ho, hb1⟩
  obtain ⟨A1, c1, rfl, -, -, g1, hnil⟩ := Owns2.formN ho
  have hN := Lib.hid hnil
  clear ho hnil HX
  go_wp2_with fail
  refine (HY.out w1 hb1).mono ?_
  rintro e w2 ⟨v, rfl, ho, hb2⟩
  obtain ⟨A2, c2, rfl, -, -, g2⟩ := Owns2.form ho
  have g1 := (g1.below hb2).more hb2.size
  have hb := hb1.trans (hb2.mono hb1.size)
  clear ho HY hb1 hb2
  go_wp2_with fail
  refine (of_any A1 X c1 _ _ w2 g1 (by omega)).mono ?_
  rintro e w3 ⟨v, rfl, ho, hb3⟩
  obtain ⟨A3, c3, rfl, -, -, g3⟩ := Owns.form ho
  have g1 := (g1.below hb3).more hb3.size
  have g2 := (g2.below hb3).more hb3.size
  have hb := hb.trans (hb3.mono hb.size)
  clear ho hb3
  go_wp2_with fail
  refine (of_any A2 Y c2 _ _ w3 g2 (by omega)).mono ?_
  rintro e w4 ⟨v, rfl, ho, hb4⟩
  obtain ⟨A4, c4, rfl, -, -, g4⟩ := Owns.form ho
  have g1 := (g1.below hb4).more hb4.size
  have g2 := (g2.below hb4).more hb4.size
  have g3 := (g3.below hb4).more hb4.size
  have hb := hb.trans (hb4.mono hb.size)
  clear ho hb4
  go_wp2_with fail
  refine (mix_two A3 A4 X Y c3 c4 (fun k => lev (a k)) (fun k => lev (b k)) (fun k => lev (a' k)) (fun k => lev (b' k)) w4 _ g3 g4 (by omega) (by omega) (fun k => ⟨lv50 _, lv50 _⟩) (fun k => ⟨lv50 _, lv50 _⟩)).mono ?_
  rintro e w5 ⟨v, rfl, ho, hb5⟩
  obtain ⟨A5, c5, rfl, -, -, g5⟩ := Owns.form ho
  have g1 := (g1.below hb5).more hb5.size
  have g2 := (g2.below hb5).more hb5.size
  have hb := hb.trans (hb5.mono hb.size)
  clear ho hb5 g3 g4
  go_wp2_with fail
  refine (refMix_any A1 X c1 A2 Y c2 (fun k => lev (a k)) (fun k => lev (b k)) (fun k => lev (a' k)) (fun k => lev (b' k)) w5 g1 g2 (fun k _ => ⟨lvs _, lvs _⟩) (fun k _ => ⟨lvs _, lvs _⟩) (by omega) (by omega)).mono ?_
  rintro e w6 ⟨v, rfl, ho, hb6⟩
  obtain ⟨A6, c6, rfl, -, -, g6⟩ := Owns2.form ho
  have g1 := (g1.below hb6).more hb6.size
  have g5 := (g5.below hb6).more hb6.size
  have hb := hb.trans (hb6.mono hb.size)
  obtain ⟨M, hM⟩ : ∃ M, M = max X Y := ⟨_, rfl⟩
  rw [← hM] at g5 g6
  have hM2 : M ≤ 200 := by omega
  rw [← hM]
  clear ho hb6 g2 hM
  go_wp2_with fail
  refine (of_any A6 M c6 _ _ w6 g6 (by omega)).mono ?_
  rintro e w7 ⟨v, rfl, ho, hb7⟩
  obtain ⟨A7, c7, rfl, -, -, g7⟩ := Owns.form ho
  have g1 := (g1.below hb7).more hb7.size
  have g5 := (g5.below hb7).more hb7.size
  have hb := hb.trans (hb7.mono hb.size)
  clear ho hb7 g6
  go_wp2_with fail
  refine (same_any A5 A7 M c5 c7 _ _ _ _ w7 g5 g7 (fun k _ => svs _ _ _) (fun k _ => svs _ _ _) (by omega)).mono ?_
  rintro e w8 ⟨rfl, d, rfl⟩
  have hb := below_drewN hb d
  have g1 : Sees (w7.drewN d) (w7.drewN d).heap.size A1 (2 * X) (prs (fun k => lev (a k)) (fun k => lev (b k))) := g1
  clear g5 g7
  generalize w7.drewN d = w8 at *
  go_wp2_with fail
  refine (of_any A1 X c1 _ _ w8 g1 (by omega)).mono ?_
  rintro e w9 ⟨v, rfl, ho, hb9⟩
  obtain ⟨A9, c9, rfl, -, -, g9⟩ := Owns.form ho
  have g1 := (g1.below hb9).more hb9.size
  have hb := hb.trans (hb9.mono hb.size)
  clear ho hb9
  go_wp2_with fail
  refine (gate_any A9 X c9 _ _ f s w9 g9 (by omega)).mono ?_
  rintro e w10 ⟨v, rfl, ho, hb10⟩
  obtain ⟨A10, c10, rfl, -, -, g10⟩ := Owns.form ho
  have g1 := (g1.below hb10).more hb10.size
  have hb := hb.trans (hb10.mono hb.size)
  clear ho hb10 g9
  go_wp2_with fail
  refine (refGate_any A1 X c1 _ _ f s w10 g1 (by omega)).mono ?_
  rintro e w11 ⟨v, rfl, ho, hb11⟩
  obtain ⟨A11, c11, rfl, -, -, g11⟩ := Owns2.form ho
  have g1 := (g1.below hb11).more hb11.size
  have g10 := (g10.below hb11).more hb11.size
  have hb := hb.trans (hb11.mono hb.size)
  clear ho hb11
  go_wp2_with fail
  refine (of_any A11 X c11 _ _ w11 g11 (by omega)).mono ?_
  rintro e w12 ⟨v, rfl, ho, hb12⟩
  obtain ⟨A12, c12, rfl, -, -, g12⟩ := Owns.form ho
  have g1 := (g1.below hb12).more hb12.size
  have g10 := (g10.below hb12).more hb12.size
  have hb := hb.trans (hb12.mono hb.size)
  clear ho hb12 g11
  go_wp2_with fail
  refine (same_any A10 A12 X c10 c12 _ _ _ _ w12 g10 g12 (fun k _ => pvs _ _) (fun k _ => pvs _ _) (by omega)).mono ?_
  rintro e w13 ⟨rfl, d, rfl⟩
  have hb := below_drewN hb d
  have g1 : Sees (w12.drewN d) (w12.drewN d).heap.size A1 (2 * X) (prs (fun k => lev (a k)) (fun k => lev (b k))) := g1
  clear g10 g12
  generalize w12.drewN d = w13 at *
  go_wp2_with fail
  refine (of_any A1 X c1 _ _ w13 g1 (by omega)).mono ?_
  rintro e w14 ⟨v, rfl, ho, hb14⟩
  obtain ⟨A14, c14, rfl, -, -, g14⟩ := Owns.form ho
  have g1 := (g1.below hb14).more hb14.size
  have hb := hb.trans (hb14.mono hb.size)
  clear ho hb14
  go_wp2_with fail
  refine (turn_any A14 X c14 _ _ t w14 g14 (fun k _ => lv52 _) (fun k _ => lv52 _) ht (by omega)).mono ?_
  rintro e w15 ⟨v, rfl, ho, hb15⟩
  obtain ⟨A15, c15, rfl, -, -, g15⟩ := Owns.form ho
  have g1 := (g1.below hb15).more hb15.size
  have hb := hb.trans (hb15.mono hb.size)
  clear ho hb15 g14
  go_wp2_with fail
  refine (refTurn_any A1 X c1 _ _ t w15 g1 hN.out (fun k => ⟨lvs _, lvs _⟩) ht (by omega)).mono ?_
  rintro e w16 ⟨v, rfl, ho, hb16⟩
  obtain ⟨A16, c16, rfl, -, -, g16⟩ := Owns2.form ho
  have g15 := (g15.below hb16).more hb16.size
  have hb := hb.trans (hb16.mono hb.size)
  clear ho hb16 g1
  go_wp2_with fail
  refine (of_any A16 X c16 _ _ w16 g16 (by omega)).mono ?_
  rintro e w17 ⟨v, rfl, ho, hb17⟩
  obtain ⟨A17, c17, rfl, -, -, g17⟩ := Owns.form ho
  have g15 := (g15.below hb17).more hb17.size
  have hb := hb.trans (hb17.mono hb.size)
  clear ho hb17 g16
  go_wp2_with fail
  refine (same_any A15 A17 X c15 c17 _ _ _ _ w17 g15 g17 (fun k _ => tvs _ _) (fun k _ => tvs _ _) (by omega)).mono ?_
  rintro e w18 ⟨rfl, d, rfl⟩
  have hb := below_drewN hb d
  clear g15 g17
  generalize w17.drewN d = w18 at *
  go_wp2_with (go_at_call 24; refine (known_any _).mono ?_; rintro e w19 ⟨rfl, hb19⟩)
  go_ret
  exact ⟨rfl, hb.trans (hb19.mono hb.size)⟩

/-! ### THE ROW's STEP around the walk. -/
theorem own_lineMixes : ownKnob Try.prog.godebug = none := by kernel_rfl
theorem laidOut_lineMixes : laidOutB Try.prog = true := by kernel_rfl
set_option maxRecDepth 100000 in
theorem lifted_lineMixes (os : Os) (started : os.Started) (H : Type) (enc : TypeId × Value → H) :
    ReturnsInHanded {} Try.checked os 3 .any (Rows.lineMixesSpec.pre6 enc Try.prog Try.f3 Rows.lineMixesRow.domain false) (Rows.lineMixesSpec.post enc Try.prog Try.f3 false true false false) := by
  refine returnsInHanded_of_change (C := Try.checked) own_lineMixes started (by kernel_rfl) Try.func3
    (ChangeSpec.witness6 (enc := enc) (C := Try.checked) false ⟨#[], #[.slice none 0 0, .slice none 0 0, .bool false, .bool false, .int .i64 0], []⟩ 8 (by kernel_rfl) (by kernel_rfl) (by kernel_rfl) (by kernel_rfl)) ?_
  intro W base args ds gs before hval0 hW hcnd _
  have hval : ∀ (j : Nat) t v, Try.f3.params[j]? = some t → args[j]? = some v → Value.okWide Try.prog W .any base t v := hval0
  have hW' := hW
  obtain ⟨p, q, hA0, hV, rfl, hfz, hnd⟩ := hW
  have hA : DataW.TrodAll enc Try.prog W 0 (fun _ => true) true Try.f3.params.toList args.toList ds p := hA0
  rw [Try.params3] at hA hval
  obtain ⟨v0, vs0, d0, ds0, p0, q0, hargs, rfl, rfl, h0, r0⟩ := trodAll_cons hA
  obtain ⟨v1, vs1, d1, ds1, p1, q1, rfl, rfl, rfl, h1, r1⟩ := trodAll_cons r0
  obtain ⟨v2, vs2, d2, ds2, p2, q2, rfl, rfl, rfl, h2, r2⟩ := trodAll_cons r1
  obtain ⟨v3, vs3, d3, ds3, p3, q3, rfl, rfl, rfl, h3, r3⟩ := trodAll_cons r2
  obtain ⟨v4, vs4, d4, ds4, p4, q4, rfl, rfl, rfl, h4, r4⟩ := trodAll_cons r3
  obtain ⟨rfl, rfl, rfl⟩ := trodAll_nil r4
  obtain rfl : args = #[v0, v1, v2, v3, v4] := by cases args; simp_all
  obtain ⟨rfl, rfl⟩ := trodVars_none hV
  obtain ⟨A0, n0, c0, rfl⟩ := okWide_slice Try.underlying22 (hval 0 22 v0 rfl rfl)
  have k0 := h0
  have lt0 : ∀ x ∈ p0, x.block < W.heap.size := by obtain ⟨m, hm⟩ := k0; exact DataW.trod_lt m _ _ _ hm
  obtain ⟨a0, b0, s0⟩ := sees_pairs Try.underlying22 Try.underlying58 (by kernel_rfl) rfl rfl (by kernel_rfl) (by kernel_rfl) Try.underlying3 Try.underlying3 h0
  obtain ⟨A1, n1, c1, rfl⟩ := okWide_slice Try.underlying22 (hval 1 22 v1 rfl rfl)
  have k1 := h1
  have lt1 : ∀ x ∈ p1, x.block < W.heap.size := by obtain ⟨m, hm⟩ := k1; exact DataW.trod_lt m _ _ _ hm
  obtain ⟨a1, b1, s1⟩ := sees_pairs Try.underlying22 Try.underlying58 (by kernel_rfl) rfl rfl (by kernel_rfl) (by kernel_rfl) Try.underlying3 Try.underlying3 h1
  obtain ⟨a2, rfl, rfl, rfl⟩ := open_bool Try.underlying4 (hval 2 4 v2 rfl rfl) h2
  obtain ⟨a3, rfl, rfl, rfl⟩ := open_bool Try.underlying4 (hval 3 4 v3 rfl rfl) h3
  obtain ⟨a4, rfl, rfl, rfl, w4⟩ := open_int Try.underlying3 (hval 4 3 v4 rfl rfl) h4
  clear hA0 hval0
  refine (walk_lineMixes A0 n0 c0 a0 b0 A1 n1 c1 a1 b1 a2 a3 a4 W s0 s1 (bounds_i64 w4)).mono fun e W' ⟨he, bel⟩ => ?_
  subst he
  exact ⟨_, rfl, _, _, _, [], _, [], hW', trodAll_mk1 (shut_bool Try.underlying4 _), (trodAll_cons_mk (Below.trod laidOut_lineMixes (by kernel_rfl) (of_decide_eq_true (by kernel_rfl)) k0 bel lt0) (trodAll_cons_mk (Below.trod laidOut_lineMixes (by kernel_rfl) (of_decide_eq_true (by kernel_rfl)) k1 bel lt1) (trodAll_cons_mk (shut_bool Try.underlying4 _) (trodAll_cons_mk (shut_bool Try.underlying4 _) (trodAll_cons_mk (shut_int Try.underlying3 w4) trodAll_mk0))))), rfl, bel.frame _, fun h => by cases h⟩

theorem over_lineMixes : Rows.lineMixesRow.holds Try.pinned (OpenSpec.ofChange Rows.lineMixesSpec) :=
  OpenClaim.holds_of_wide 3 Try.f3 rfl rfl rfl rfl rfl rfl rfl ⟨rfl, rfl, rfl, rfl, rfl⟩ rfl rfl rfl rfl rfl (by kernel_rfl) Try.func3 (by kernel_rfl)
    (of_decide_eq_true (by kernel_rfl)) (by unfold Func.isWrapper; first | (rw [if_pos (by decide +kernel)]; kernel_rfl) | (rw [if_neg (by decide +kernel)]; exact ⟨rfl, rfl⟩))
    (fun os started H enc _ => lifted_lineMixes os started H enc)

theorem proved_lineMixes : Rows.LineMixesSaid := over_lineMixes
end Go.Proofs.Ytbjojpcgigoenaa
