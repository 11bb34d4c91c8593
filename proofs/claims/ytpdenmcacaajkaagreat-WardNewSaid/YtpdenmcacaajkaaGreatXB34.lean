/- Texts SrG, SrH in one. For what each says in front of its theorems. -/
import Derived.Deep.CutBlock
import Derived.Test.YtpdenmcacaajkaaGreatXB30
import Derived.Test.YtpdenmcacaajkaaGreatXB32
import Derived.Test.YtpdenmcacaajkaaGreatXB33
/-! ### SrG -/
namespace Go.Proofs.YtpdenmcacaajkaaGreat
open Go.RowKit

/-- Two guardians in memory. -/
def GsAt (W : World) (g N : Nat) (s0 s1 : G) : Prop := Blk W g (#[.int .i64 (N : Nat)] ++ grd s0 ++ grd s1) 155 ∧ s0.l.length ≤ 4 ∧ s1.l.length ≤ 4
def cx1 (N : Nat) (s1 : G) : Cx 1 := ⟨#[.int .i64 (N : Nat)], grd s1, 155, rfl⟩
def cx2 (N : Nat) (s0 : G) : Cx 21 := ⟨#[.int .i64 (N : Nat)] ++ grd s0, #[], 155, by simp [grd]⟩
theorem GsAt.one {W : World} {g N : Nat} {s0 s1 : G} (h : GsAt W g N s0 s1) : GPt1 (cx1 N s1) W g s0 := ⟨h.1, h.2.1⟩
theorem GsAt.two {W : World} {g N : Nat} {s0 s1 : G} (h : GsAt W g N s0 s1) : GPt2 (cx2 N s0) W g s1 := ⟨h.1.eq (show _ = (cx2 N s0).a ++ grd s1 ++ (cx2 N s0).b by simp [cx2]), h.2.2⟩
theorem GsAt.of1 {W : World} {g N : Nat} {s0 s1 : G} (h : GPt1 (cx1 N s1) W g s0) (h1 : s1.l.length ≤ 4) : GsAt W g N s0 s1 := ⟨h.1, h.2, h1⟩
theorem GsAt.of2 {W : World} {g N : Nat} {s0 s1 : G} (h : GPt2 (cx2 N s0) W g s1) (h0 : s0.l.length ≤ 4) : GsAt W g N s0 s1 := ⟨Blk.eq h.1 (show (cx2 N s0).a ++ grd s1 ++ (cx2 N s0).b = _ by simp [cx2]), h0, h.2⟩
theorem GsAt.lt {W : World} {g N : Nat} {s0 s1 : G} (h : GsAt W g N s0 s1) : g < W.heap.size := h.1.lt
theorem GsAt.below {W W' : World} {g N : Nat} {s0 s1 : G} (h : GsAt W g N s0 s1) {B : Nat} (hb : Below B W W') (hg : g < B) : GsAt W' g N s0 s1 := ⟨h.1.below hb hg, h.2⟩
theorem GsAt.kp {W W' : World} {P : List Nat} {g N : Nat} {s0 s1 : G} (h : GsAt W g N s0 s1) (k : Kw P W W') (hg : g ∉ P) : GsAt W' g N s0 s1 := ⟨h.1.kp k hg, h.2⟩
theorem GsAt.n_ {W : World} {g N : Nat} {s0 s1 : G} (h : GsAt W g N s0 s1) : W.cell? ⟨g, 0, none⟩ = some (.int .i64 (N : Nat)) := h.1.cell 0 (by simp [grd])

/-- How many samples of whom are heard, and which. -/
def hn (m : List Sd) (p : Int) : Nat := if p < 0 then 0 else match m[p.toNat]? with
  | some s => s.n
  | none => 0
def hq (m : List Sd) (p : Int) : Nat → Int := match m[p.toNat]? with
  | some s => s.q
  | none => fun _ => 0
/-- Whose time counts. -/
def prV (bl : Bool) (p : Int) : Int := if bl then -1 else p
set_option maxRecDepth 100000 in
set_option maxHeartbeats 8000000 in
theorem pass_sr (g N x b : Nat) (s : G) (l : List (Value × Sd)) (bl : Bool) (p : Int) (P : List Nat) (w : World) (hg : GsAt w g N s s) (h : XAt w P x b l ⟨bl, false, .slice none 0 0, 0⟩ ⟨bl, false, .slice none 0 0, 0⟩) (hl : l.length ≤ 8) (hgx : g ≠ x) (hP : ∀ i ∈ P, i < w.heap.size)
    (sn : s.n ≤ 8) (ss : s.slot < 8) (sw : time s.now) (sx : time (sA (l.map Prod.snd) s.slot)) (swi : 0 ≤ s.wi ∧ s.wi ≤ 2305843009213693952) (hp : s.pass (sF (l.map Prod.snd)) (sA (l.map Prod.snd)) = p) (hpl : p = -1 ∨ ∃ j : Nat, p = j ∧ j < l.length) :
    Calls Tryz.prog 158 #[.pointer (some ⟨g, 0, none⟩), .pointer (some ⟨x, 0, none⟩)] w fun e w' => e = .returned (.tuple #[]) ∧ ∃ u0 u1, XAt w' P x b l ⟨bl, false, u0, prV bl p⟩ ⟨bl, false, u1, prV bl p⟩ ∧
      Row w' P u0 (hn (l.map Prod.snd) (prV bl p)) (hq (l.map Prod.snd) p) (fun _ => 0) ∧ Row w' P u1 (hn (l.map Prod.snd) (prV bl p)) (fun _ => 0) (hq (l.map Prod.snd) p) ∧ Kw [x] w w' := by
  have hS := Lib.hid (senders_sr x b l _ _ P w h hl)
  have hone : ∀ k, (hq (l.map Prod.snd) p k).natAbs ≤ 1 := fun k => by
    unfold hq
    cases he : (l.map Prod.snd)[p.toNat]? with
    | some sd =>
      rw [List.getElem?_map] at he
      obtain ⟨y, hy, rfl⟩ := Option.map_eq_some_iff.1 he
      exact ((h.sd.row y (List.mem_of_getElem? hy)).one k).1
    | none => simp
  have HQ : Hid (∀ (W : World) (i : Nat), i < 2 → Row W P (.slice none 0 0) 0 (fun k => pf (decide (i = 0)) (hq (l.map Prod.snd) p k)) (fun k => pf (decide (i = 1)) (hq (l.map Prod.snd) p k))) := Lib.hid fun W i hi => Row.nil _ _ _ _ (fun k => by
    have := hone k
    unfold pf
    constructor <;> split <;> omega)
  have HJ : Hid (∀ j : Nat, p = j → j < l.length → ∃ v sd, l[j]? = some (v, sd) ∧ hn (l.map Prod.snd) p = sd.n ∧ hq (l.map Prod.snd) p = sd.q) := Lib.hid fun j e hj => by
    subst e
    obtain ⟨⟨v, sd⟩, hk0⟩ : ∃ y, l[j]? = some y := ⟨_, List.getElem?_eq_getElem hj⟩
    refine ⟨v, sd, hk0, ?_, ?_⟩
    · unfold hn; rw [if_neg (by omega)]; simp [hk0]
    · unfold hq; simp [hk0]
  have HN0 : Hid (hn (l.map Prod.snd) (-1) = 0) := Lib.hid rfl
  unfold bools8 ints8 at hS
  generalize hff : sF (l.map Prod.snd) = ff at *
  generalize haa : sA (l.map Prod.snd) = aa at *
  clear hff haa hone
  go_enter Tryz.func158, Tryz.ntmps158
  go_wp2_with fail
  refine hS.out.mono ?_
  rintro e w1 ⟨rfl, hb1⟩
  have Y0 := (Blk.new w1 w1.heap.size rfl (b8 ff) 150).alloc (.cells (i8 aa) 66)
  have Y1 := Blk.new (w1.alloc (.cells (b8 ff) 150)) (w1.heap.size + 1) (by simp) (i8 aa) 66
  have hbb := (hb1.alloc hb1.size (.cells (b8 ff) 150)).alloc (by have := hb1.size; simp; omega) (.cells (i8 aa) 66)
  unfold b8 i8 at Y0 Y1 hbb
  go_wp2_with fail
  generalize (w1.alloc (.cells #[.bool (ff 0), .bool (ff 1), .bool (ff 2), .bool (ff 3), .bool (ff 4), .bool (ff 5), .bool (ff 6), .bool (ff 7)] 150)).alloc (.cells #[.int .i64 (aa 0), .int .i64 (aa 1), .int .i64 (aa 2), .int .i64 (aa 3), .int .i64 (aa 4), .int .i64 (aa 5), .int .i64 (aa 6), .int .i64 (aa 7)] 66) = w2 at *
  have hz2 : w.heap.size ≤ w1.heap.size := hb1.size
  have hP0 : ∀ i, w.heap.size ≤ i → i ∉ P := fun i hi hm => by have := hP i hm; omega
  have HZ : Hid (w1.heap.size ∉ [x] ∧ w1.heap.size + 1 ∉ [x]) := Lib.hid ⟨fun hm => by simp at hm; exact hP0 _ (by omega) (hm ▸ h.mem), fun hm => by simp at hm; exact hP0 _ (by omega) (hm ▸ h.mem)⟩
  generalize w1.heap.size = z at *
  clear hS hb1 hP0 hz2
  have H2 := h.below hbb
  have K2 := Kw.ofBelow [x] hbb
  have hG2 := hg.below hbb hg.lt
  have hPz : Hid (∀ i ∈ P, i < w2.heap.size) := Lib.hid fun i hi => by have := hP i hi; have := hbb.size; omega
  have hxP := h.mem
  clear h hg hP
  go_loopw [13] (fun i wr => ∃ k : Nat, ∃ u0 u1, k ≤ 2 ∧ i = .int .i64 k ∧ XAt wr P x b l (if 0 < k then ⟨bl, false, u0, prV bl p⟩ else ⟨bl, false, .slice none 0 0, 0⟩) (if 1 < k then ⟨bl, false, u1, prV bl p⟩ else ⟨bl, false, .slice none 0 0, 0⟩) ∧
    (0 < k → Row wr P u0 (hn (l.map Prod.snd) (prV bl p)) (hq (l.map Prod.snd) p) (fun _ => 0)) ∧ (1 < k → Row wr P u1 (hn (l.map Prod.snd) (prV bl p)) (fun _ => 0) (hq (l.map Prod.snd) p)) ∧ Kw [x] w wr ∧ Kw [x] w2 wr) (fun i _ => 2 - (intOf i).toNat)
  case atStart => exact ⟨0, .slice none 0 0, .slice none 0 0, by omega, rfl, by simpa using H2, fun h => by omega, fun h => by omega, K2, Kw.refl _ _⟩
  case round =>
    obtain ⟨k, u0, u1, hk, rfl, hX, hR0, hR1, hK, hK2⟩ := hrel
    clear H2 K2
    have hG := hG2.kp hK2 (by simpa using hgx)
    have Z0 := Y0.kp hK2 HZ.out.1
    have Z1 := Y1.kp hK2 HZ.out.2
    rcases (by omega : k = 0 ∨ k = 1 ∨ k = 2) with rfl | rfl | rfl
    · -- channel 0
      have hX : XAt wr P x b l ⟨bl, false, .slice none 0 0, 0⟩ ⟨bl, false, .slice none 0 0, 0⟩ := by simpa using hX
      have HPs := fun W (hW : Below wr.heap.size wr W) => Lib.hid (pass_gp1 _ g s ff aa W ((hG.below hW hG.lt).one) sn ss sw sx swi)
      rw [hp] at HPs
      unfold bools8 ints8 at HPs
      have c0 := Z0.cell 0 (x := .bool (ff 0)) rfl
      have c1 := Z0.cell 1 (x := .bool (ff 1)) rfl
      have c2 := Z0.cell 2 (x := .bool (ff 2)) rfl
      have c3 := Z0.cell 3 (x := .bool (ff 3)) rfl
      have c4 := Z0.cell 4 (x := .bool (ff 4)) rfl
      have c5 := Z0.cell 5 (x := .bool (ff 5)) rfl
      have c6 := Z0.cell 6 (x := .bool (ff 6)) rfl
      have c7 := Z0.cell 7 (x := .bool (ff 7)) rfl
      have d0 := Z1.cell 0 (x := .int .i64 (aa 0)) rfl
      have d1 := Z1.cell 1 (x := .int .i64 (aa 1)) rfl
      have d2 := Z1.cell 2 (x := .int .i64 (aa 2)) rfl
      have d3 := Z1.cell 3 (x := .int .i64 (aa 3)) rfl
      have d4 := Z1.cell 4 (x := .int .i64 (aa 4)) rfl
      have d5 := Z1.cell 5 (x := .int .i64 (aa 5)) rfl
      have d6 := Z1.cell 6 (x := .int .i64 (aa 6)) rfl
      have d7 := Z1.cell 7 (x := .int .i64 (aa 7)) rfl
      have y4 := hX.blk.cell 4 (x := .int .i64 0) rfl
      have y1 := hX.blk.cell 1 (x := .bool bl) rfl
      have y2 := hX.blk.cell 2 (x := .bool false) rfl
      have ff4 := hX.blk.frozen 4
      have HXB : Hid (∀ W, Below wr.heap.size wr W → XAt W P x b l ⟨bl, false, .slice none 0 0, 0⟩ ⟨bl, false, .slice none 0 0, 0⟩ ∧ Kw [x] w W ∧ Kw [x] w2 W ∧ W.cell? ⟨x, 4, none⟩ = some (.int .i64 0) ∧ W.frozen? ⟨x, 4, none⟩ = false) := Lib.hid fun W hW => ⟨hX.below hW, hK.below hW, hK2.below hW, (hX.below hW).blk.cell 4 rfl, (hX.below hW).blk.frozen 4⟩
      have hB0 := Below.refl wr.heap.size wr
      go_wp2_with fail
      go_cut [] from 21 to 79 (fun W => XAt W P x b l ⟨bl, false, .slice none 0 0, p⟩ ⟨bl, false, .slice none 0 0, 0⟩ ∧ Kw [x] w W ∧ Kw [x] w2 W)
      case first =>
        go_region_with (first
          | (go_at_call 177; refine (HPs wr.drew hB0.drew).out.mono ?_; rintro e w5 ⟨rfl, hb5⟩; obtain ⟨H5, K5, K25, y5, f5⟩ := HXB.out w5 (hB0.drew.trans hb5))
          | fail)
        all_goals
          have H6 := Lib.hid (H5.put 4 (.int .i64 p) (c' := ⟨bl, false, .slice none 0 0, p⟩) (d' := ⟨bl, false, .slice none 0 0, 0⟩) rfl)
          have K6 := Lib.hid (K5.set ⟨x, 4, none⟩ (by simp) (.int .i64 p))
          have K26 := Lib.hid (K25.set ⟨x, 4, none⟩ (by simp) (.int .i64 p))
          go_wp2_with fail
          go_meet
          exact ⟨H6.out, K6.out, K26.out⟩
      case rest =>
        obtain ⟨H3, K3, K23⟩ := hcut
        clear y4 y1 y2 ff4 HXB HPs hX hK hK2 Z0 Z1 hG hB0
        have HP2 := Lib.hid (show ∀ i ∈ P, i < wc.heap.size from fun i hi => Nat.lt_of_lt_of_le (hPz.out i hi) K23.size)
        have y1 := H3.blk.cell 1 (x := .bool bl) rfl
        have y2 := H3.blk.cell 2 (x := .bool false) rfl
        have y4 := H3.blk.cell 4 (x := .int .i64 p) rfl
        have f4 := H3.blk.frozen 4
        cases hbl : bl
        · rw [hbl] at y1
          rcases hpl with e | ⟨j, e, hj⟩
          · rw [e] at y4
            go_wp2_with fail
            go_roundw
            case rel => exact ⟨1, .slice none 0 0, .slice none 0 0, by omega, rfl, by simpa [prV, hbl] using H3, fun _ => by simpa [prV, hbl, e, HN0.out, pf] using HQ.out _ 0 (by omega), fun h => by omega, K3, K23⟩
            case measure => simp [intOf]
          · obtain ⟨v, sd, hk0, en, eq⟩ := HJ.out j e hj
            rw [e] at y4
            have q0 : ((j : Int) != -1) = true := by rw [bne_iff_ne]; omega
            have i1 : (j : Int) < (l.length : Nat) := by omega
            have y0 := H3.blk.cell 0 (x := .slice (some ⟨b, 0, none⟩) l.length l.length) rfl
            obtain ⟨e0, -, -⟩ := H3.sd.cells hk0
            have hrow : Row wc P v sd.n sd.q sd.q := H3.sd.row _ (List.mem_of_getElem? hk0)
            have HGt := fun W (hW : Below wc.heap.size wc W) => Lib.hid (gate_sr v sd.n sd.q 0 P W (hrow.kp (Kw.ofBelow P hW)) (fun i hi => by have := HP2.out i hi; have := hW.size; omega))
            obtain ⟨A1, a1, rfl, -⟩ := hrow.sees
            have HXB : Hid (∀ W, Below wc.heap.size wc W → XAt W P x b l ⟨bl, false, .slice none 0 0, p⟩ ⟨bl, false, .slice none 0 0, 0⟩ ∧ Kw [x] w W ∧ Kw [x] w2 W ∧ W.cell? ⟨x, 3, none⟩ = some (.slice none 0 0) ∧ W.frozen? ⟨x, 3, none⟩ = false) := Lib.hid fun W hW => ⟨H3.below hW, K3.below hW, K23.below hW, (H3.below hW).blk.cell 3 rfl, (H3.below hW).blk.frozen 3⟩
            have hB0 := Below.refl wc.heap.size wc
            clear H3 K3 K23 hrow
            go_wp2_with fail
            go_region_with (first
              | (go_at_call 179; refine (HGt wc.drew hB0.drew).out.mono ?_; rintro e w5 ⟨u, rfl, hr5, hb5⟩; obtain ⟨H5, K5, K25, y5, f5⟩ := HXB.out w5 (hB0.drew.trans hb5); obtain ⟨A2, a2, rfl, -⟩ := hr5.sees)
              | fail)
            all_goals
              have H6 := Lib.hid (H5.put 3 (.slice A2 sd.n a2) (c' := ⟨bl, false, .slice A2 sd.n a2, p⟩) (d' := ⟨bl, false, .slice none 0 0, 0⟩) rfl)
              have kk := (Kw.refl P w5).set ⟨x, 3, none⟩ hxP (.slice A2 sd.n a2)
              have K6 := Lib.hid (K5.set ⟨x, 3, none⟩ (by simp) (.slice A2 sd.n a2))
              have K26 := Lib.hid (K25.set ⟨x, 3, none⟩ (by simp) (.slice A2 sd.n a2))
              have R6 := Lib.hid (hr5.kp kk)
              go_wp2_with fail
              go_roundw
              case rel => exact ⟨1, .slice A2 sd.n a2, .slice none 0 0, by omega, rfl, by simpa [prV, hbl] using H6.out, fun _ => by have e9 := R6.out; simp only [prV, hbl, Bool.false_eq_true, if_false]; rw [en, eq]; simpa [pf] using e9, fun h => by omega, K6.out, K26.out⟩
              case measure => simp [intOf]
        · rw [hbl] at y1
          have H6 := Lib.hid (H3.put 4 (.int .i64 (-1)) (c' := ⟨bl, false, .slice none 0 0, -1⟩) (d' := ⟨bl, false, .slice none 0 0, 0⟩) (by rw [hbl]; rfl))
          have K6 := Lib.hid (K3.set ⟨x, 4, none⟩ (by simp) (.int .i64 (-1)))
          have K26 := Lib.hid (K23.set ⟨x, 4, none⟩ (by simp) (.int .i64 (-1)))
          have kk := (Kw.refl P wc).set ⟨x, 4, none⟩ hxP (.int .i64 (-1))
          go_wp2_with fail
          go_roundw
          case rel => exact ⟨1, .slice none 0 0, .slice none 0 0, by omega, rfl, by simpa [prV, hbl] using H6.out, fun _ => by simpa [prV, hbl, HN0.out, pf] using HQ.out _ 0 (by omega), fun h => by omega, K6.out, K26.out⟩
          case measure => simp [intOf]
    · -- channel 1
      have hX : XAt wr P x b l ⟨bl, false, u0, prV bl p⟩ ⟨bl, false, .slice none 0 0, 0⟩ := by simpa using hX
      have hR0 := hR0 (by omega)
      have HR0 : Hid (∀ W, Kw P wr W → Row W P u0 (hn (l.map Prod.snd) (prV bl p)) (hq (l.map Prod.snd) p) (fun _ => 0)) := Lib.hid fun W hW => hR0.kp hW
      clear hR0 hR1
      have HPs := fun W (hW : Below wr.heap.size wr W) => Lib.hid (pass_gp2 _ g s ff aa W ((hG.below hW hG.lt).two) sn ss sw sx swi)
      rw [hp] at HPs
      unfold bools8 ints8 at HPs
      have c0 := Z0.cell 0 (x := .bool (ff 0)) rfl
      have c1 := Z0.cell 1 (x := .bool (ff 1)) rfl
      have c2 := Z0.cell 2 (x := .bool (ff 2)) rfl
      have c3 := Z0.cell 3 (x := .bool (ff 3)) rfl
      have c4 := Z0.cell 4 (x := .bool (ff 4)) rfl
      have c5 := Z0.cell 5 (x := .bool (ff 5)) rfl
      have c6 := Z0.cell 6 (x := .bool (ff 6)) rfl
      have c7 := Z0.cell 7 (x := .bool (ff 7)) rfl
      have d0 := Z1.cell 0 (x := .int .i64 (aa 0)) rfl
      have d1 := Z1.cell 1 (x := .int .i64 (aa 1)) rfl
      have d2 := Z1.cell 2 (x := .int .i64 (aa 2)) rfl
      have d3 := Z1.cell 3 (x := .int .i64 (aa 3)) rfl
      have d4 := Z1.cell 4 (x := .int .i64 (aa 4)) rfl
      have d5 := Z1.cell 5 (x := .int .i64 (aa 5)) rfl
      have d6 := Z1.cell 6 (x := .int .i64 (aa 6)) rfl
      have d7 := Z1.cell 7 (x := .int .i64 (aa 7)) rfl
      have y4 := hX.blk.cell 8 (x := .int .i64 0) rfl
      have y1 := hX.blk.cell 5 (x := .bool bl) rfl
      have y2 := hX.blk.cell 6 (x := .bool false) rfl
      have ff4 := hX.blk.frozen 8
      have HXB : Hid (∀ W, Below wr.heap.size wr W → XAt W P x b l ⟨bl, false, u0, prV bl p⟩ ⟨bl, false, .slice none 0 0, 0⟩ ∧ Kw [x] w W ∧ Kw [x] w2 W ∧ W.cell? ⟨x, 8, none⟩ = some (.int .i64 0) ∧ W.frozen? ⟨x, 8, none⟩ = false) := Lib.hid fun W hW => ⟨hX.below hW, hK.below hW, hK2.below hW, (hX.below hW).blk.cell 8 rfl, (hX.below hW).blk.frozen 8⟩
      have hB0 := Below.refl wr.heap.size wr
      go_wp2_with fail
      go_cut [] from 21 to 79 (fun W => XAt W P x b l ⟨bl, false, u0, prV bl p⟩ ⟨bl, false, .slice none 0 0, p⟩ ∧ Kw [x] w W ∧ Kw [x] w2 W ∧ Row W P u0 (hn (l.map Prod.snd) (prV bl p)) (hq (l.map Prod.snd) p) (fun _ => 0))
      case first =>
        go_region_with (first
          | (go_at_call 177; refine (HPs wr.drew hB0.drew).out.mono ?_; rintro e w5 ⟨rfl, hb5⟩; obtain ⟨H5, K5, K25, y5, f5⟩ := HXB.out w5 (hB0.drew.trans hb5))
          | fail)
        all_goals
          have H6 := Lib.hid (H5.put 8 (.int .i64 p) (c' := ⟨bl, false, u0, prV bl p⟩) (d' := ⟨bl, false, .slice none 0 0, p⟩) rfl)
          have K6 := Lib.hid (K5.set ⟨x, 8, none⟩ (by simp) (.int .i64 p))
          have K26 := Lib.hid (K25.set ⟨x, 8, none⟩ (by simp) (.int .i64 p))
          have R06 := Lib.hid (HR0.out _ (((Kw.refl P wr).drew.below hb5).set ⟨x, 8, none⟩ hxP (.int .i64 p)))
          go_wp2_with fail
          go_meet
          exact ⟨H6.out, K6.out, K26.out, R06.out⟩
      case rest =>
        obtain ⟨H3, K3, K23, R03⟩ := hcut
        clear y4 y1 y2 ff4 HXB HPs hX hK hK2 Z0 Z1 hG hB0 HR0
        have HP2 := Lib.hid (show ∀ i ∈ P, i < wc.heap.size from fun i hi => Nat.lt_of_lt_of_le (hPz.out i hi) K23.size)
        have y1 := H3.blk.cell 5 (x := .bool bl) rfl
        have y2 := H3.blk.cell 6 (x := .bool false) rfl
        have y4 := H3.blk.cell 8 (x := .int .i64 p) rfl
        have f4 := H3.blk.frozen 8
        cases hbl : bl
        · rw [hbl] at y1
          rcases hpl with e | ⟨j, e, hj⟩
          · rw [e] at y4
            go_wp2_with fail
            go_roundw
            case rel => exact ⟨2, u0, .slice none 0 0, by omega, rfl, by simpa [prV, hbl] using H3, fun _ => R03, fun _ => by simpa [prV, hbl, e, HN0.out, pf] using HQ.out _ 1 (by omega), K3, K23⟩
            case measure => simp [intOf]
          · obtain ⟨v, sd, hk0, en, eq⟩ := HJ.out j e hj
            rw [e] at y4
            have q0 : ((j : Int) != -1) = true := by rw [bne_iff_ne]; omega
            have i1 : (j : Int) < (l.length : Nat) := by omega
            have y0 := H3.blk.cell 0 (x := .slice (some ⟨b, 0, none⟩) l.length l.length) rfl
            obtain ⟨e0, -, -⟩ := H3.sd.cells hk0
            have hrow : Row wc P v sd.n sd.q sd.q := H3.sd.row _ (List.mem_of_getElem? hk0)
            have HGt := fun W (hW : Below wc.heap.size wc W) => Lib.hid (gate_sr v sd.n sd.q 1 P W (hrow.kp (Kw.ofBelow P hW)) (fun i hi => by have := HP2.out i hi; have := hW.size; omega))
            obtain ⟨A1, a1, rfl, -⟩ := hrow.sees
            have HXB : Hid (∀ W, Below wc.heap.size wc W → XAt W P x b l ⟨bl, false, u0, prV bl p⟩ ⟨bl, false, .slice none 0 0, p⟩ ∧ Kw [x] w W ∧ Kw [x] w2 W ∧ W.cell? ⟨x, 7, none⟩ = some (.slice none 0 0) ∧ W.frozen? ⟨x, 7, none⟩ = false ∧ Row W P u0 (hn (l.map Prod.snd) (prV bl p)) (hq (l.map Prod.snd) p) (fun _ => 0)) := Lib.hid fun W hW => ⟨H3.below hW, K3.below hW, K23.below hW, (H3.below hW).blk.cell 7 rfl, (H3.below hW).blk.frozen 7, R03.kp (Kw.ofBelow P hW)⟩
            have hB0 := Below.refl wc.heap.size wc
            clear H3 K3 K23 hrow
            go_wp2_with fail
            go_region_with (first
              | (go_at_call 179; refine (HGt wc.drew hB0.drew).out.mono ?_; rintro e w5 ⟨u, rfl, hr5, hb5⟩; obtain ⟨H5, K5, K25, y5, f5, R05⟩ := HXB.out w5 (hB0.drew.trans hb5); obtain ⟨A2, a2, rfl, -⟩ := hr5.sees)
              | fail)
            all_goals
              have H6 := Lib.hid (H5.put 7 (.slice A2 sd.n a2) (c' := ⟨bl, false, u0, prV bl p⟩) (d' := ⟨bl, false, .slice A2 sd.n a2, p⟩) rfl)
              have kk := (Kw.refl P w5).set ⟨x, 7, none⟩ hxP (.slice A2 sd.n a2)
              have K6 := Lib.hid (K5.set ⟨x, 7, none⟩ (by simp) (.slice A2 sd.n a2))
              have K26 := Lib.hid (K25.set ⟨x, 7, none⟩ (by simp) (.slice A2 sd.n a2))
              have R6 := Lib.hid (hr5.kp kk)
              have R06 := Lib.hid (R05.kp kk)
              go_wp2_with fail
              go_roundw
              case rel => exact ⟨2, u0, .slice A2 sd.n a2, by omega, rfl, by simpa [prV, hbl] using H6.out, fun _ => R06.out, fun _ => by have e9 := R6.out; simp only [prV, hbl, Bool.false_eq_true, if_false]; rw [en, eq]; simpa [pf] using e9, K6.out, K26.out⟩
              case measure => simp [intOf]
        · rw [hbl] at y1
          have H6 := Lib.hid (H3.put 8 (.int .i64 (-1)) (c' := ⟨bl, false, u0, prV bl p⟩) (d' := ⟨bl, false, .slice none 0 0, -1⟩) (by rw [hbl]; rfl))
          have K6 := Lib.hid (K3.set ⟨x, 8, none⟩ (by simp) (.int .i64 (-1)))
          have K26 := Lib.hid (K23.set ⟨x, 8, none⟩ (by simp) (.int .i64 (-1)))
          have kk := (Kw.refl P wc).set ⟨x, 8, none⟩ hxP (.int .i64 (-1))
          have R06 := Lib.hid (R03.kp kk)
          go_wp2_with fail
          go_roundw
          case rel => exact ⟨2, u0, .slice none 0 0, by omega, rfl, by simpa [prV, hbl] using H6.out, fun _ => R06.out, fun _ => by simpa [prV, hbl, HN0.out, pf] using HQ.out _ 1 (by omega), K6.out, K26.out⟩
          case measure => simp [intOf]
    · have hX : XAt wr P x b l ⟨bl, false, u0, prV bl p⟩ ⟨bl, false, u1, prV bl p⟩ := by simpa using hX
      have HH := Lib.hid hX
      have h0 := Lib.hid (hR0 (by omega))
      have h1 := Lib.hid (hR1 (by omega))
      have hk := Lib.hid hK
      clear hX hR0 hR1 hK hK2 Z0 Z1 hG
      go_wp2_with fail
      exact bodyPost_end (results_none (by rfl) _ _ _) rfl ⟨rfl, u0, u1, HH.out, h0.out, h1.out, hk.out⟩
end Go.Proofs.YtpdenmcacaajkaaGreat

/-! ### SrH -/
namespace Go.Proofs.YtpdenmcacaajkaaGreat
open Go.RowKit

/-- What a channel tells. -/
def tk (n : Nat) (q : Nat → Int) : Int := if allZ q n = true then 0 else if n % 8 = 0 ∧ allU q n = true then 2 else 1
/-- The bytes that it tells. -/
def tl (n : Nat) (q : Nat → Int) : List Int := if allZ q n = false ∧ n % 8 = 0 ∧ allU q n = true then (List.range (n / 8)).map (packed q) else []
theorem tl_bytes (n : Nat) (q : Nat → Int) : bytesL (tl n q) := by
  intro x hx
  unfold tl at hx
  split at hx
  · obtain ⟨j, -, rfl⟩ := List.mem_map.1 hx
    have := packTo_lt q j 8
    unfold packed
    omega
  · cases hx
theorem Told.own {w : World} {B : Nat} {q : Nat → Int} {n : Nat} {K : Int} {v : Value} (h : Told w B q n K v) : K = tk n q ∧ OwnsL w B v (tl n q) := by
  rcases h with ⟨h1, h2, rfl⟩ | ⟨h1, h2, h3, h4, h5⟩ | ⟨h1, h2, h3, rfl⟩
  · refine ⟨by simp [tk, h1, h2], ?_⟩
    unfold tl
    rw [if_neg (by simp [h1])]
    exact OwnsL.nil
  · refine ⟨by simp [tk, h1, h2, h3, h4], ?_⟩
    unfold tl
    rw [if_pos ⟨h1, h2, h3⟩]
    unfold OwnsL
    rw [List.length_map, List.length_range]
    refine h5.alike fun k hk => ?_
    simp [bv, List.getD_eq_getElem?_getD, hk]
  · have h6 : ¬ (n % 8 = 0 ∧ allU q n = true) := by
      rintro ⟨e1, e2⟩
      rcases h2 with h | h
      · exact h e1
      · rw [e2] at h; cases h
    refine ⟨by simp [tk, h1, h6, h3], ?_⟩
    unfold tl
    rw [if_neg (fun e => h6 e.2)]
    exact OwnsL.nil
theorem read_sr (v : Value) (n : Nat) (a q : Nat → Int) (P : List Nat) (w : World) (h : Row w P v n a q) :
    Calls Tryz.prog 181 #[v] w fun e w' => ∃ X Y, e = .returned (.tuple #[.int .i64 (tk n a), X, .int .i64 (tk n q), Y]) ∧ OwnsL w' w.heap.size X (tl n a) ∧ OwnsL w' w.heap.size Y (tl n q) ∧ Below w.heap.size w w' := by
  obtain ⟨A, c, rfl, n1, n2, hs⟩ := h.sees
  have h4 := h.n4
  refine (lread_any A n c a q w hs (fun k _ => by have := (h.one k).1; omega) (fun k _ => by have := (h.one k).2; omega) n1 n2 (by omega)).mono ?_
  rintro e w1 ⟨K, X, L, Y, rfl, t1, t2, hb⟩
  obtain ⟨rfl, o1⟩ := t1.own
  obtain ⟨rfl, o2⟩ := t2.own
  exact ⟨X, Y, rfl, o1, o2, hb⟩
/-- When he sends whose time counts. -/
def whenV (m : List Sd) (p : Int) : Int := if p < 0 then 0 else sA m p.toNat
theorem when_sr (x b : Nat) (l : List (Value × Sd)) (c d : Ch) (P : List Nat) (p : Int) (w : World) (h : XAt w P x b l c d) (hpl : p = -1 ∨ ∃ j : Nat, p = j ∧ j < l.length) :
    Calls Tryz.prog 183 #[.pointer (some ⟨x, 0, none⟩), .int .i64 p] w fun e w' => e = .returned (.int .i64 (whenV (l.map Prod.snd) p)) ∧ w' = w := by
  rcases hpl with rfl | ⟨j, rfl, hj⟩
  · exact (when_no x w).mono fun e w' h => ⟨h.1, h.2.symm⟩
  · obtain ⟨⟨v, s⟩, hk⟩ : ∃ y, l[j]? = some y := ⟨_, List.getElem?_eq_getElem hj⟩
    have e : whenV (l.map Prod.snd) (j : Int) = s.at_ := by unfold whenV sA; rw [if_neg (by omega)]; simp [hk]
    rw [e]
    exact (when_yes x b j l v s c d P w h hk).mono fun e w' h => ⟨h.1, h.2.symm⟩
theorem OwnsL.only {w w' : World} {B g : Nat} {v : Value} {l : List Int} (h : OwnsL w B v l) (k : Only g w w') (hg : g < B) : OwnsL w' B v l :=
  World.ownsRow.kept (row := some g) h k (by
    rcases h.2 with ⟨rfl, _⟩ | ⟨g', cap, cur, rfl, hb, _⟩
    · exact .inl rfl
    · refine .inr ?_
      simp only [Value.ownBlock, ne_eq, Option.some.injEq]
      omega)
set_option maxRecDepth 100000 in
set_option maxHeartbeats 8000000 in
theorem end_sr (g N b : Nat) (s : G) (l : List (Value × Sd)) (c d : Ch) (p : Int) (P : List Nat) (v : Value) (n : Nat) (a q : Nat → Int) (w : World) (hg : GsAt w g N s s) (hs : SdAt w P b l) (hgP : g ∈ P) (hgb : g ≠ b) (hr : Row w P v n a q) (hc : c.fr = p) (hd : d.fr = p)
    (hpl : p = -1 ∨ ∃ j : Nat, p = j ∧ j < l.length) (ok : s.Ok (whenV (l.map Prod.snd) p)) :
    Calls Tryz.prog 160 #[.pointer (some ⟨g, 0, none⟩), .agg (xcs b l.length c d), v] w fun e w' => e = .returned (.tuple #[]) ∧ GsAt w' g N (s.ended (tl n a) (whenV (l.map Prod.snd) p)) (s.ended (tl n q) (whenV (l.map Prod.snd) p)) ∧ Only g w w' := by
  have hb0 := (Below.refl w.heap.size w).alloc (Nat.le_refl _) (.cells (xcs b l.length c d) 214)
  have hX : XAt (w.alloc (.cells (xcs b l.length c d) 214)) (w.heap.size :: P) w.heap.size b l c d := ⟨Blk.new w _ rfl _ _, (hs.sub (P' := w.heap.size :: P) (fun i hi => by
    rcases List.mem_cons.1 hi with rfl | h
    · exact .inr (Nat.le_refl _)
    · exact .inl h) (List.mem_cons_of_mem _ hs.mem)).below (((Below.refl w.heap.size w).alloc (Nat.le_refl _) _)), by simp, by have := hs.lt; omega⟩
  have hR := read_sr v n a q P _ (hr.kp (Kw.ofBelow P hb0))
  have hz : (w.alloc (.cells (xcs b l.length c d) 214)).heap.size = w.heap.size + 1 := by simp
  have hG0 := hg.below hb0 hg.lt
  have hgl := hg.lt
  obtain ⟨Av, cv, rfl, -⟩ := hr.sees
  obtain ⟨bc, kc, vc, pc⟩ := c
  obtain ⟨bd, kd, vd, pd⟩ := d
  simp only at hc hd
  subst hc hd
  have HR := Lib.hid hR
  clear hR hr hg hs
  have hW := fun W (h : XAt W (w.heap.size :: P) w.heap.size b l ⟨bc, kc, vc, pd⟩ ⟨bd, kd, vd, pd⟩) => Lib.hid (when_sr w.heap.size b l _ _ _ pd W h hpl)
  generalize whenV (l.map Prod.snd) pd = t at *
  unfold xcs at *
  simp only at *
  go_enter Tryz.func160, Tryz.ntmps160
  go_wp2_with fail
  generalize w.alloc (.cells #[.slice (some ⟨b, 0, none⟩) l.length l.length, .bool bc, .bool kc, vc, .int .i64 pd, .bool bd, .bool kd, vd, .int .i64 pd] 214) = w0 at *
  refine HR.out.mono ?_
  rintro e w1 ⟨X, Y, rfl, oX, oY, hb1⟩
  have hX1 := hX.below hb1
  have hG1 := hG0.below hb1 hG0.lt
  have hB1 := hb0.trans (hb1.mono (by omega))
  obtain ⟨AX, cX, rfl, -⟩ := oX.sees.at_
  obtain ⟨AY, cY, rfl, -⟩ := oY.sees.at_
  clear hX hG0 HR hb1 hb0
  have x4 := hX1.blk.cell 4 (x := .int .i64 pd) rfl
  have hE1 := Lib.hid (end_gp1 (cx1 N s) g s _ (tl n a) t w1.drew (hG1.below ((Below.refl _ _).drew) hG1.lt).one ok (oX.sees.drew) (tl_bytes n a))
  go_wp2_with fail
  go_region_with (first
    | (go_at_call 183; refine (hW w1.drew hX1.drew).out.mono ?_; rintro e w2 ⟨rfl, rfl⟩)
    | (go_at_call 182; refine hE1.out.mono ?_; rintro e w2 ⟨rfl, H2, O2⟩)
    | fail)
  all_goals
    have hX2 : XAt w2 (w.heap.size :: P) w.heap.size b l ⟨bc, kc, vc, pd⟩ ⟨bd, kd, vd, pd⟩ := ⟨(hX1.drew).blk.only O2 (by omega), (hX1.drew).sd.kp (Kw.only O2 (List.mem_cons_of_mem _ hgP)) (O2.block b hX1.sd.lt (by intro e; cases e; exact hgb rfl)), hX1.mem, hX1.ne⟩
    have oY2 := oY.drew.only O2 (by omega)
    have G2 := GsAt.of1 H2 hG1.2.1
    have O2' := Lib.hid ((only_of_below g ((hB1.drew))).trans O2)
    have x8 := hX2.blk.cell 8 (x := .int .i64 pd) rfl
    have hE2 := Lib.hid (end_gp2 (cx2 N (s.ended (tl n a) t)) g s _ (tl n q) t w2.drew (G2.below ((Below.refl _ _).drew) G2.lt).two ok (oY2.sees.drew) (tl_bytes n q))
    have L2 := G2.2.1
    clear hX1 hG1 hE1 x4 H2 O2 oX oY
    go_wp2_with fail
    go_region_with (first
      | (go_at_call 183; refine (hW w2.drew hX2.drew).out.mono ?_; rintro e w3 ⟨rfl, rfl⟩)
      | (go_at_call 182; refine hE2.out.mono ?_; rintro e w3 ⟨rfl, H3, O3⟩)
      | fail)
    all_goals
      have HH := Lib.hid (GsAt.of2 H3 L2)
      have OO := Lib.hid (O2'.out.drew.trans O3)
      clear H3 O3 hE2 G2 oY2 hX2
      go_wp2_with fail
      exact bodyPost_end (results_none (by rfl) _ _ _) rfl ⟨rfl, HH.out, OO.out⟩
end Go.Proofs.YtpdenmcacaajkaaGreat
