/- LineOwn holds: what is handed in is not changed, though all that is answered is written over. For all levels and numbers. -/
import Derived.Test.YtgchecnfdbnnpaaMixTwo
import Derived.Test.YtgchecnfdbnnpaaOpen2
namespace Go.Proofs.Ytgchecnfdbnnpaa
open Go.ChangeShapes Go.WideShapes Go.ChangeAt Go.RowKit
open Go.ChangeMaps (open_string shut_string)

theorem owns_addr {w : World} {B n c : Nat} {A : Option Addr} {e : TypeId} {V : Nat → Value} (h : Owns w B e (.slice A n c) n V) (h0 : 0 < n) : ∃ g, A = some ⟨g, 0, none⟩ ∧ B ≤ g := by
  rcases h.2 with ⟨h1, h2⟩ | ⟨g, cap, cur, h1, h2, _⟩
  · omega
  · simp only [Value.slice.injEq] at h1
    exact ⟨g, h1.1, h2⟩
attribute [local go_sem] store_complex

set_option maxRecDepth 100000 in
set_option maxHeartbeats 4000000 in
theorem walk_lineOwn (A : Option Addr) (n c : Nat) (a b : Nat → Int) (A' : Option Addr) (n' c' : Nat) (a' b' : Nat → Int) (t : Int) (w : World) (h : InPairs w A n c a b) (h' : InPairs w A' n' c' a' b') (ht : -9223372036854775808 ≤ t ∧ t ≤ 9223372036854775807) :
    Calls Try.prog 11 #[.slice A n c, .slice A' n' c', .int .i64 t] w fun e w' => e = .returned (.bool true) ∧ Below w.heap.size w w' := by
  obtain ⟨hs, hn, hc⟩ := h
  obtain ⟨hs', hn', hc'⟩ := h'
  obtain ⟨X, hX⟩ : ∃ X, X = min n 200 := ⟨_, rfl⟩
  obtain ⟨Y, hY⟩ : ∃ Y, Y = min n' 200 := ⟨_, rfl⟩
  have hX2 : X ≤ 200 := by omega
  have hY2 : Y ≤ 200 := by omega
  have RX := fun (W : World) (hb : Below w.heap.size w W) => row_any A n c a b W ((hs.below hb).more hb.size) (by omega)
  have RY := fun (W : World) (hb : Below w.heap.size w W) => row_any A' n' c' a' b' W ((hs'.below hb).more hb.size) (by omega)
  rw [← hX] at RX
  rw [← hY] at RY
  have HX := Lib.hid RX
  have HY := Lib.hid RY
  have lvs : ∀ x, (lev x).natAbs < 2 ^ 50 := fun x => by have := lev_small x; omega
  have lv3 : ∀ x, (lev x).natAbs < 2 ^ 53 := fun x => Nat.lt_trans (lvs x) (by decide)
  have TX := fun (W : World) (AX : Option Addr) (cX : Nat) (g : Sees W W.heap.size AX X fun k => cx (lev (a k)) (lev (b k))) => turn_any AX X cX _ _ t W g (fun k _ => Nat.lt_trans (lvs (a k)) (by decide)) (fun k _ => Nat.lt_trans (lvs (b k)) (by decide)) ht (by omega)
  have HTX := Lib.hid TX
  clear RX RY hX hY hn hn' hc hc' hs hs' ht TX
  go_enter Try.func11, Try.ntmps11
  go_wp2_with fail
  refine (HX.out w (Below.refl _ _)).mono ?_
  rintro e w1 ⟨v, rfl, ho, hb1⟩
  obtain ⟨A1, c1, rfl, -, -, g⟩ := Owns2.form ho
  clear ho
  go_wp2_with fail
  refine (of_any A1 X c1 _ _ w1 g (by omega)).mono ?_
  rintro e w2 ⟨v, rfl, ho, hb2⟩
  obtain ⟨AX, cX, rfl, -, -, gX⟩ := Owns.form ho
  have hb02 := hb1.trans (hb2.mono hb1.size)
  clear ho g hb1 hb2
  go_wp2_with fail
  refine (HY.out w2 hb02).mono ?_
  rintro e w3 ⟨v, rfl, ho, hb3⟩
  obtain ⟨A3, c3, rfl, -, -, g⟩ := Owns2.form ho
  clear ho
  go_wp2_with fail
  refine (of_any A3 Y c3 _ _ w3 g (by omega)).mono ?_
  rintro e w4 ⟨v, rfl, ho, hb4⟩
  obtain ⟨AY, cY, rfl, -, -, gY⟩ := Owns.form ho
  have hb24 := hb3.trans (hb4.mono hb3.size)
  have hb04 := hb02.trans (hb24.mono hb02.size)
  have gX4 := (gX.below hb24).more hb24.size
  clear ho g hb3 hb4 gX hb24 hb02
  go_wp2_with fail
  refine (mix_two AX AY X Y cX cY _ _ _ _ w4 _ gX4 gY (by omega) (by omega) (fun k => ⟨lvs _, lvs _⟩) (fun k => ⟨lvs _, lvs _⟩)).mono ?_
  rintro e w5 ⟨v, rfl, ho, hb5⟩
  obtain ⟨M, hM⟩ : ∃ M, M = max X Y := ⟨_, rfl⟩
  have hM2 : M ≤ 200 := by omega
  rw [← hM] at ho
  clear hM
  obtain ⟨AM, cM, rfl, -, -, -⟩ := Owns.form ho
  go_wp2_with fail
  go_loopw [10] (fun i wr => ∃ (k : Nat) (V : Nat → Value), k ≤ M ∧ i = .int .i64 k ∧ Owns wr w4.heap.size 51 (.slice AM M cM) M V ∧ Below w4.heap.size w4 wr) (fun i _ => M - (intOf i).toNat)
  case atStart => exact ⟨0, _, by omega, rfl, ho, hb5⟩
  case round =>
    clear ho hb5
    obtain ⟨k, V, hk, rfl, ho, hb5⟩ := hrel
    by_cases hlt : k < M
    · obtain ⟨g, rfl, hg⟩ := owns_addr ho (by omega)
      have hc0 := ho.cell hlt
      have hfr := ho.frozen k
      have ho2 := ho.set_ (V' := fun j => if j = k then .complex .f64 4621256167635550208 0 else V j) k (.complex .f64 4621256167635550208 0) (by simp) (fun j _ hj => by simp [hj])
      have hb6 := hb5.setCell (p := ⟨g, k, none⟩) hg (.complex .f64 4621256167635550208 0)
      clear ho hb5
      go_wp2
      go_roundw
      case rel => exact ⟨k + 1, _, by omega, by go_num, ho2, hb6⟩
      case measure => simp [intOf]; omega
    · have gX5 := (gX4.below hb5).more hb5.size
      have gY5 := (gY.below hb5).more hb5.size
      have hb05 := hb04.trans (hb5.mono hb04.size)
      obtain ⟨w5', rfl⟩ : ∃ W : World, W = wr := ⟨_, rfl⟩
      clear gX4 gY hb5 ho hb04 hk
      go_wp2_with fail
      refine (HTX.out w5' AX cX gX5).mono ?_
      rintro e w6 ⟨v, rfl, ho, hb6⟩
      obtain ⟨A6, c6, rfl, -, -, -⟩ := Owns.form ho
      go_wp2_with fail
      go_loopw [12] (fun i wr => ∃ (k : Nat) (V : Nat → Value), k ≤ X ∧ i = .int .i64 k ∧ Owns wr w5'.heap.size 51 (.slice A6 X c6) X V ∧ Below w5'.heap.size w5' wr) (fun i _ => X - (intOf i).toNat)
      case atStart => exact ⟨0, _, by omega, rfl, ho, hb6⟩
      case round =>
        clear ho hb6
        obtain ⟨k, V, hk, rfl, ho, hb6⟩ := hrel
        by_cases hlt : k < X
        · obtain ⟨g, rfl, hg⟩ := owns_addr ho (by omega)
          have hc0 := ho.cell hlt
          have hfr := ho.frozen k
          have ho2 := ho.set_ (V' := fun j => if j = k then .complex .f64 4621256167635550208 0 else V j) k (.complex .f64 4621256167635550208 0) (by simp) (fun j _ hj => by simp [hj])
          have hb7 := hb6.setCell (p := ⟨g, k, none⟩) hg (.complex .f64 4621256167635550208 0)
          clear ho hb6
          go_wp2
          go_roundw
          case rel => exact ⟨k + 1, _, by omega, by go_num, ho2, hb7⟩
          case measure => simp [intOf]; omega
        · have gX6 := (gX5.below hb6).more hb6.size
          have gY6 := (gY5.below hb6).more hb6.size
          have hb06 := hb05.trans (hb6.mono hb05.size)
          obtain ⟨w6', rfl⟩ : ∃ W : World, W = wr := ⟨_, rfl⟩
          clear gX5 gY5 hb6 ho hb05 hk HTX
          go_wp2_with fail
          refine (gate_any AX X cX _ _ _ _ w6' gX6 (by omega)).mono ?_
          rintro e w7 ⟨v, rfl, ho, hb7⟩
          obtain ⟨A7, c7, rfl, -, -, -⟩ := Owns.form ho
          go_wp2_with fail
          go_loopw [14] (fun i wr => ∃ (k : Nat) (V : Nat → Value), k ≤ X ∧ i = .int .i64 k ∧ Owns wr w6'.heap.size 51 (.slice A7 X c7) X V ∧ Below w6'.heap.size w6' wr) (fun i _ => X - (intOf i).toNat)
          case atStart => exact ⟨0, _, by omega, rfl, ho, hb7⟩
          case round =>
            clear ho hb7
            obtain ⟨k, V, hk, rfl, ho, hb7⟩ := hrel
            by_cases hlt : k < X
            · obtain ⟨g, rfl, hg⟩ := owns_addr ho (by omega)
              have hc0 := ho.cell hlt
              have hfr := ho.frozen k
              have ho2 := ho.set_ (V' := fun j => if j = k then .complex .f64 4621256167635550208 0 else V j) k (.complex .f64 4621256167635550208 0) (by simp) (fun j _ hj => by simp [hj])
              have hb8 := hb7.setCell (p := ⟨g, k, none⟩) hg (.complex .f64 4621256167635550208 0)
              clear ho hb7
              go_wp2
              go_roundw
              case rel => exact ⟨k + 1, _, by omega, by go_num, ho2, hb8⟩
              case measure => simp [intOf]; omega
            · have gX7 := (gX6.below hb7).more hb7.size
              have gY7 := (gY6.below hb7).more hb7.size
              have hb07 := hb06.trans (hb7.mono hb06.size)
              obtain ⟨w7', rfl⟩ : ∃ W : World, W = wr := ⟨_, rfl⟩
              clear gX6 gY6 hb7 ho hb06 hk
              go_wp2_with fail
              refine (HX.out w7' hb07).mono ?_
              rintro e w8 ⟨v, rfl, ho, hb8⟩
              obtain ⟨A8, c8, rfl, -, -, g⟩ := Owns2.form ho
              clear ho
              go_wp2_with fail
              refine (of_any A8 X c8 _ _ w8 g (by omega)).mono ?_
              rintro e w9 ⟨v, rfl, ho, hb9⟩
              obtain ⟨A9, c9, rfl, -, -, g9⟩ := Owns.form ho
              have hb79 := hb8.trans (hb9.mono hb8.size)
              have gX9 := (gX7.below hb79).more hb79.size
              have gY9 := (gY7.below hb79).more hb79.size
              have hb09 := hb07.trans (hb79.mono hb07.size)
              clear ho g hb8 hb9 hb79 gX7 gY7 hb07 HX
              go_wp2_with fail
              refine (same_any AX A9 X cX c9 _ _ _ _ w9 gX9 g9 (fun k _ => lv3 _) (fun k _ => lv3 _) (by omega)).mono ?_
              rintro e w10 ⟨rfl, d, rfl⟩
              have gY10 : Sees (w9.drewN d) (w9.drewN d).heap.size AY Y (fun k => cx (lev (a' k)) (lev (b' k))) := gY9
              have hb010 : Below w.heap.size w (w9.drewN d) := ⟨hb09.os, hb09.tape, hb09.output, hb09.size, hb09.block⟩
              clear g9 gX9 gY9 hb09
              go_wp2_with fail
              refine (HY.out (w9.drewN d) hb010).mono ?_
              rintro e w11 ⟨v, rfl, ho, hb11⟩
              obtain ⟨A11, c11, rfl, -, -, g⟩ := Owns2.form ho
              clear ho
              go_wp2_with fail
              refine (of_any A11 Y c11 _ _ w11 g (by omega)).mono ?_
              rintro e w12 ⟨v, rfl, ho, hb12⟩
              obtain ⟨A12, c12, rfl, -, -, g12⟩ := Owns.form ho
              have hb1012 := hb11.trans (hb12.mono hb11.size)
              have gY12 := (gY10.below hb1012).more hb1012.size
              have hb012 := hb010.trans (hb1012.mono hb010.size)
              clear ho g hb11 hb12 hb1012 gY10 hb010 HY
              go_wp2_with fail
              refine (same_any AY A12 Y cY c12 _ _ _ _ w12 gY12 g12 (fun k _ => lv3 _) (fun k _ => lv3 _) (by omega)).mono ?_
              rintro e w13 ⟨rfl, d2, rfl⟩
              have hb013 : Below w.heap.size w (w12.drewN d2) := ⟨hb012.os, hb012.tape, hb012.output, hb012.size, hb012.block⟩
              clear g12 gY12 hb012 lvs lv3
              go_wp2_with (go_at_call 19; refine (known_any _).mono ?_; rintro e w15 ⟨rfl, hb15⟩)
              go_ret
              exact ⟨rfl, hb013.trans (hb15.mono hb013.size)⟩

/-! ### THE ROW's STEP around the walk. -/
theorem own_lineOwn : ownKnob Try.prog.godebug = none := by kernel_rfl
theorem laidOut_lineOwn : laidOutB Try.prog = true := by kernel_rfl
set_option maxRecDepth 100000 in
theorem lifted_lineOwn (os : Os) (started : os.Started) (H : Type) (enc : TypeId × Value → H) :
    ReturnsInHanded {} Try.checked os 11 .any (Rows.lineOwnSpec.pre6 enc Try.prog Try.f11 Rows.lineOwnRow.domain false) (Rows.lineOwnSpec.post enc Try.prog Try.f11 false true false false) := by
  refine returnsInHanded_of_change (C := Try.checked) own_lineOwn started (by kernel_rfl) Try.func11
    (ChangeSpec.witness6 (enc := enc) (C := Try.checked) false ⟨#[], #[.slice none 0 0, .slice none 0 0, .int .i64 0], []⟩ 8 (by kernel_rfl) (by kernel_rfl) (by kernel_rfl) (by kernel_rfl)) ?_
  intro W base args ds gs before hval0 hW hcnd _
  have hval : ∀ (j : Nat) t v, Try.f11.params[j]? = some t → args[j]? = some v → Value.okWide Try.prog W .any base t v := hval0
  have hW' := hW
  obtain ⟨p, q, hA0, hV, rfl, hfz, hnd⟩ := hW
  have hA : DataW.TrodAll enc Try.prog W 0 (fun _ => true) true Try.f11.params.toList args.toList ds p := hA0
  rw [Try.params11] at hA hval
  obtain ⟨v0, vs0, d0, ds0, p0, q0, hargs, rfl, rfl, h0, r0⟩ := trodAll_cons hA
  obtain ⟨v1, vs1, d1, ds1, p1, q1, rfl, rfl, rfl, h1, r1⟩ := trodAll_cons r0
  obtain ⟨v2, vs2, d2, ds2, p2, q2, rfl, rfl, rfl, h2, r2⟩ := trodAll_cons r1
  obtain ⟨rfl, rfl, rfl⟩ := trodAll_nil r2
  obtain rfl : args = #[v0, v1, v2] := by cases args; simp_all
  obtain ⟨rfl, rfl⟩ := trodVars_none hV
  obtain ⟨A0, n0, c0, rfl⟩ := okWide_slice Try.underlying31 (hval 0 31 v0 rfl rfl)
  have k0 := h0
  have lt0 : ∀ x ∈ p0, x.block < W.heap.size := by obtain ⟨m, hm⟩ := k0; exact DataW.trod_lt m _ _ _ hm
  obtain ⟨a0, b0, s0⟩ := sees_pairs Try.underlying31 Try.underlying60 (by kernel_rfl) rfl rfl (by kernel_rfl) (by kernel_rfl) Try.underlying3 Try.underlying3 h0
  obtain ⟨A1, n1, c1, rfl⟩ := okWide_slice Try.underlying31 (hval 1 31 v1 rfl rfl)
  have k1 := h1
  have lt1 : ∀ x ∈ p1, x.block < W.heap.size := by obtain ⟨m, hm⟩ := k1; exact DataW.trod_lt m _ _ _ hm
  obtain ⟨a1, b1, s1⟩ := sees_pairs Try.underlying31 Try.underlying60 (by kernel_rfl) rfl rfl (by kernel_rfl) (by kernel_rfl) Try.underlying3 Try.underlying3 h1
  obtain ⟨a2, rfl, rfl, rfl, w2⟩ := open_int Try.underlying3 (hval 2 3 v2 rfl rfl) h2
  clear hA0 hval0
  refine (walk_lineOwn A0 n0 c0 a0 b0 A1 n1 c1 a1 b1 a2 W s0 s1 (bounds_i64 w2)).mono fun e W' ⟨he, bel⟩ => ?_
  subst he
  exact ⟨_, rfl, _, _, _, [], _, [], hW', trodAll_mk1 (shut_bool Try.underlying4 _), (trodAll_cons_mk (Below.trod laidOut_lineOwn (by kernel_rfl) (of_decide_eq_true (by kernel_rfl)) k0 bel lt0) (trodAll_cons_mk (Below.trod laidOut_lineOwn (by kernel_rfl) (of_decide_eq_true (by kernel_rfl)) k1 bel lt1) (trodAll_cons_mk (shut_int Try.underlying3 w2) trodAll_mk0))), rfl, bel.frame _, fun h => by cases h⟩

theorem over_lineOwn : Rows.lineOwnRow.holds Try.pinned (OpenSpec.ofChange Rows.lineOwnSpec) :=
  OpenClaim.holds_of_wide 11 Try.f11 rfl rfl rfl rfl rfl rfl rfl ⟨rfl, rfl, rfl, rfl, rfl⟩ rfl rfl rfl rfl rfl (by kernel_rfl) Try.func11 (by kernel_rfl)
    (of_decide_eq_true (by kernel_rfl)) (by unfold Func.isWrapper; first | (rw [if_pos (by decide +kernel)]; kernel_rfl) | (rw [if_neg (by decide +kernel)]; exact ⟨rfl, rfl⟩))
    (fun os started H enc _ => lifted_lineOwn os started H enc)

theorem proved_lineOwn : Rows.LineOwnSaid := over_lineOwn
end Go.Proofs.Ytgchecnfdbnnpaa
