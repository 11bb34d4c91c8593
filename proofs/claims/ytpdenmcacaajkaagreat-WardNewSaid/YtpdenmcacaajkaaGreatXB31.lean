/- Texts FrP, GdC, SgA1 in one. For what each says in front of its theorems. -/
import Derived.BigRegion
import Derived.Test.YtpdenmcacaajkaaGreatXB9
import Derived.Test.YtpdenmcacaajkaaGreatXB29
import Derived.Test.YtpdenmcacaajkaaGreatXB30
/-! ### FrP -/
namespace Go.Proofs.YtpdenmcacaajkaaGreat
open Go.RowKit
open Fr (St F)

theorem OwnsL.block {w : World} {B : Nat} {v : Value} {l : List Int} (h : OwnsL w B v l) (h0 : 0 < l.length) : ∃ g c, v = .slice (some ⟨g, 0, none⟩) l.length c ∧ B ≤ g := by
  rcases h.2 with ⟨_, h2⟩ | ⟨g, cap, cur, h1, h2, _⟩
  · omega
  · exact ⟨g, cap, h1, h2⟩
theorem OwnsL.cell {w : World} {B g n c : Nat} {l : List Int} (h : OwnsL w B (.slice (some ⟨g, 0, none⟩) n c) l) (hn : n = l.length) {i : Nat} (hi : i < l.length) : w.cell? ⟨g, i, none⟩ = some (.int .u8 (l.getD i 0)) := by
  subst hn
  exact Owns.cell h hi
theorem OwnsL.frozen {w : World} {B g n c : Nat} {l : List Int} (h : OwnsL w B (.slice (some ⟨g, 0, none⟩) n c) l) (hn : n = l.length) (i : Nat) : w.frozen? ⟨g, i, none⟩ = false := by
  subst hn
  exact Owns.frozen h i
theorem OwnsL.set {w : World} {B g n c : Nat} {l : List Int} (h : OwnsL w B (.slice (some ⟨g, 0, none⟩) n c) l) (hn : n = l.length) (i : Nat) (x : Int) (hi : i < l.length) : OwnsL (w.setCell ⟨g, i, none⟩ (.int .u8 x)) B (.slice (some ⟨g, 0, none⟩) n c) (l.set i x) := by
  subst hn
  have := Owns.set_ h i (.int .u8 x) (V' := bv (l.set i x)) (by simp [bv, List.getD_eq_getElem?_getD, hi]) (fun j _ hj => by simp [bv, List.getD_eq_getElem?_getD, List.getElem?_set_ne (Ne.symm hj)])
  unfold OwnsL
  rw [List.length_set]
  exact this
theorem bytesL.set {l : List Int} (h : bytesL l) (i : Nat) {x : Int} (hx : 0 ≤ x ∧ x < 256) : bytesL (l.set i x) := fun y hy => by
  rcases List.mem_or_eq_of_mem_set hy with hy | rfl
  · exact h y hy
  · exact hx
/-- Two new blocks, of five cells and of three. -/
structure Box53 (w w0 : World) (x0 x1 x2 x3 x4 y0 y1 y2 : Value) : Prop where
  size : w0.heap.size = w.heap.size + 2
  below : Below w.heap.size w w0
  cell : ∀ W, Below w0.heap.size w0 W → w.heap.size + 1 < W.heap.size ∧ (W.cell? ⟨w.heap.size, 0, none⟩ = some x0 ∧ W.cell? ⟨w.heap.size, 1, none⟩ = some x1 ∧ W.cell? ⟨w.heap.size, 2, none⟩ = some x2 ∧ W.cell? ⟨w.heap.size, 3, none⟩ = some x3 ∧ W.cell? ⟨w.heap.size, 4, none⟩ = some x4) ∧
    W.cell? ⟨w.heap.size + 1, 0, none⟩ = some y0 ∧ W.cell? ⟨w.heap.size + 1, 1, none⟩ = some y1 ∧ W.cell? ⟨w.heap.size + 1, 2, none⟩ = some y2
structure Box55 (w w0 : World) (x0 x1 x2 x3 x4 y0 y1 y2 y3 y4 : Value) : Prop where
  size : w0.heap.size = w.heap.size + 2
  below : Below w.heap.size w w0
  cell : ∀ W, Below w0.heap.size w0 W → w.heap.size + 1 < W.heap.size ∧ (W.cell? ⟨w.heap.size, 0, none⟩ = some x0 ∧ W.cell? ⟨w.heap.size, 1, none⟩ = some x1 ∧ W.cell? ⟨w.heap.size, 2, none⟩ = some x2 ∧ W.cell? ⟨w.heap.size, 3, none⟩ = some x3 ∧ W.cell? ⟨w.heap.size, 4, none⟩ = some x4) ∧
    W.cell? ⟨w.heap.size + 1, 0, none⟩ = some y0 ∧ W.cell? ⟨w.heap.size + 1, 1, none⟩ = some y1 ∧ W.cell? ⟨w.heap.size + 1, 2, none⟩ = some y2 ∧ W.cell? ⟨w.heap.size + 1, 3, none⟩ = some y3 ∧ W.cell? ⟨w.heap.size + 1, 4, none⟩ = some y4
structure Box33 (w w0 : World) (x0 x1 x2 y0 y1 y2 : Value) : Prop where
  size : w0.heap.size = w.heap.size + 2
  below : Below w.heap.size w w0
  cell : ∀ W, Below w0.heap.size w0 W → w.heap.size + 1 < W.heap.size ∧ (W.cell? ⟨w.heap.size, 0, none⟩ = some x0 ∧ W.cell? ⟨w.heap.size, 1, none⟩ = some x1 ∧ W.cell? ⟨w.heap.size, 2, none⟩ = some x2) ∧
    W.cell? ⟨w.heap.size + 1, 0, none⟩ = some y0 ∧ W.cell? ⟨w.heap.size + 1, 1, none⟩ = some y1 ∧ W.cell? ⟨w.heap.size + 1, 2, none⟩ = some y2
end Go.Proofs.YtpdenmcacaajkaaGreat

/-! ### GdC -/
namespace Go.Proofs.YtpdenmcacaajkaaGreat
open Go.RowKit
open Clk (avg)
open Fr (St F)

def z0 : St := ⟨0, 0, 0⟩
/-- Does it tell a slot? -/
def tells (l : List Int) (n : Nat) : Bool := decide (Fr.err l z0 = 0) && (!decide ((Fr.res l z0).k = 1)) && decide ((Fr.res l z0).st.s < n)
/-- By bytes that it does not know the slot by, or does. -/
def G.learnt (s : G) (l : List Int) (at_ : Int) : G :=
  if tells l s.n then ({ s with kn := true, slot := (Fr.res l z0).st.s.toNat, now := at_, si := 0, l := [] } : G).on else s
theorem tells_slot {l : List Int} (hl : bytesL l) (h : Fr.err l z0 = 0) : 0 ≤ (Fr.res l z0).st.s ∧ (Fr.res l z0).st.s < 8 := by
  have hf : Fr.formB l z0 = true := by
    unfold Fr.err at h
    cases hf : Fr.formB l z0
    · rw [hf] at h; simp at h
    · rfl
  have hs : Fr.sumB l z0 = true := by
    unfold Fr.err at h
    cases hs : Fr.sumB l z0
    · rw [hf, hs] at h; simp at h
    · rfl
  have h1 := (Fr.once hl hf hs).1
  have hr : Fr.res l z0 = Fr.rd l z0 := by simp [Fr.res, hf, hs]
  rw [hr]
  exact ((Fr.St.may_iff _).1 ((Fr.F.is_iff _).1 h1).2.1).2.1
/-- A slot is over. -/
def G.ended (s : G) (l : List Int) (at_ : Int) : G := if s.kn then (if 0 < l.length then s.heard at_ else s.missed) else s.learnt l at_
/-- What it may hold. -/
structure G.Ok (s : G) (at_ : Int) : Prop where
  n : s.n ≤ 8
  slot : s.slot < s.n
  small : small s.l
  lm : 0 ≤ s.lm ∧ s.lm ≤ 1099511627776
  now : -1125899906842624 ≤ s.now ∧ s.now ≤ 1125899906842624
  near : -1099511627776 ≤ at_ - s.now ∧ at_ - s.now ≤ 1099511627776
  si : s.si ≤ 1000
theorem term_bd (m : Int) (l : List Int) (hm : 0 ≤ m) : -m ≤ termV m l ∧ termV m l ≤ m := by
  unfold termV
  split
  · rename_i h
    exact of_decide_eq_true h
  · omega
end Go.Proofs.YtpdenmcacaajkaaGreat

/-! ### SgA1 -/
namespace Go.Proofs.YtpdenmcacaajkaaGreat
open Go.RowKit
open Clk (avg)

/-- A guardian within a block. -/
def GPt1 (c : Cx 1) (W : World) (g : Nat) (s : G) : Prop := PB c W g (grd s) ∧ s.l.length ≤ 4
section
variable {c : Cx 1} {W W' : World} {g : Nat} {s : G}
theorem GPt1.below (h : GPt1 c W g s) {B : Nat} (hb : Below B W W') (hg : g < B) : GPt1 c W' g s := ⟨h.1.below hb hg, h.2⟩
theorem GPt1.lt (h : GPt1 c W g s) : g < W.heap.size := h.1.lt
theorem GPt1.clk (h : GPt1 c W g s) : W.cell? ⟨g, 11, none⟩ = some (.int .i64 s.lm) ∧ W.cell? ⟨g, 12, none⟩ = some (.int .i64 (s.l.getD 0 0)) ∧ W.cell? ⟨g, 13, none⟩ = some (.int .i64 (s.l.getD 1 0)) ∧ W.cell? ⟨g, 14, none⟩ = some (.int .i64 (s.l.getD 2 0)) ∧ W.cell? ⟨g, 15, none⟩ = some (.int .i64 (s.l.getD 3 0)) ∧ W.cell? ⟨g, 16, none⟩ = some (.int .i64 (s.l.length : Nat)) :=
  ⟨h.1.cell 10 rfl, h.1.cell 11 rfl, h.1.cell 12 rfl, h.1.cell 13 rfl, h.1.cell 14 rfl, h.1.cell 15 rfl⟩
theorem GPt1.frz (h : GPt1 c W g s) : W.frozen? ⟨g, 11, none⟩ = false ∧ W.frozen? ⟨g, 12, none⟩ = false ∧ W.frozen? ⟨g, 13, none⟩ = false ∧ W.frozen? ⟨g, 14, none⟩ = false ∧ W.frozen? ⟨g, 15, none⟩ = false ∧ W.frozen? ⟨g, 16, none⟩ = false :=
  ⟨h.1.frozen 11, h.1.frozen 12, h.1.frozen 13, h.1.frozen 14, h.1.frozen 15, h.1.frozen 16⟩
end

set_option maxRecDepth 100000 in
set_option maxHeartbeats 1000000 in
theorem clear_gp1 (c : Cx 1) (g : Nat) (s : G) (w : World) (h : GPt1 c w g s) :
    Calls Tryz.prog 58 #[.pointer (some ⟨g, 11, none⟩)] w fun e w' => e = .returned (.tuple #[]) ∧ GPt1 c w' g { s with l := [] } ∧ Only g w w' := by
  obtain ⟨c0, c1, c2, c3, c4, c5⟩ := h.clk
  obtain ⟨f0, f1, f2, f3, f4, f5⟩ := h.frz
  have hB : Hid (PB c ((((((w.setCell ⟨g, 11, none⟩ (.int .i64 s.lm)).setCell ⟨g, 12, none⟩ (.int .i64 0)).setCell ⟨g, 13, none⟩ (.int .i64 0)).setCell ⟨g, 14, none⟩ (.int .i64 0)).setCell ⟨g, 15, none⟩ (.int .i64 0)).setCell ⟨g, 16, none⟩ (.int .i64 0)) g (grd { s with l := [] })) := Lib.hid ((((((h.1.set 10 (by simp [grd]) _).set 11 (by simp [grd]) _).set 12 (by simp [grd]) _).set 13 (by simp [grd]) _).set 14 (by simp [grd]) _).set 15 (by simp [grd]) _)
  clear h
  go_enter Tryz.func58, Tryz.ntmps58
  go_wp2
  exact bodyPost_end (results_none (by rfl) _ _ _) rfl ⟨rfl, ⟨hB.out, by simp⟩, ((((((Only.refl g w).set 11 _).set 12 _).set 13 _).set 14 _).set 15 _).set 16 _⟩

set_option maxRecDepth 100000 in
set_option maxHeartbeats 1000000 in
theorem measure_full_gp1 (c : Cx 1) (g : Nat) (s : G) (n : Int) (w : World) (h : GPt1 c w g s) (h4 : s.l.length = 4) :
    Calls Tryz.prog 79 #[.pointer (some ⟨g, 11, none⟩), .int .i64 n] w fun e w' => e = .returned (.tuple #[]) ∧ GPt1 c w' g { s with l := s.l.drop 1 ++ [n] } ∧ Only g w w' := by
  obtain ⟨c0, c1, c2, c3, c4, c5⟩ := h.clk
  obtain ⟨f0, f1, f2, f3, f4, f5⟩ := h.frz
  have c5' : w.cell? ⟨g, 16, none⟩ = some (.int .i64 4) := by rw [c5, h4]; rfl
  clear c5
  have hB : Hid (PB c ((((((w.setCell ⟨g, 12, none⟩ (.int .i64 (s.l.getD 1 0))).setCell ⟨g, 13, none⟩ (.int .i64 (s.l.getD 2 0))).setCell ⟨g, 14, none⟩ (.int .i64 (s.l.getD 3 0))).setCell ⟨g, 16, none⟩ (.int .i64 3)).setCell ⟨g, 15, none⟩ (.int .i64 n)).setCell ⟨g, 16, none⟩ (.int .i64 4)).drew.drew g (grd { s with l := s.l.drop 1 ++ [n] })) := Lib.hid (((((((h.1.set 11 (by simp [grd]) (.int .i64 (s.l.getD 1 0))).set 12 (by simp [grd]) (.int .i64 (s.l.getD 2 0))).set 13 (by simp [grd]) (.int .i64 (s.l.getD 3 0))).set 15 (by simp [grd]) (.int .i64 3)).set 14 (by simp [grd]) (.int .i64 n)).set 15 (by simp [grd]) (.int .i64 4)).drew.drew.eq (grd_full s n h4))
  have H4 := Lib.hid h4
  clear h h4
  generalize s.l.getD 0 0 = a0 at *
  generalize s.l.getD 1 0 = a1 at *
  generalize s.l.getD 2 0 = a2 at *
  generalize s.l.getD 3 0 = a3 at *
  have hrun := run_copy_cells (P := Tryz.prog) w.drew 46 46 3 3 g 12 4 4 ⟨g, 13, none⟩ 3 3 [.int .i64 a1, .int .i64 a2, .int .i64 a3] Tryz.underlying46 (by kernel_rfl) (by simp) (fun j v hj => by
    match j, hj with
    | 0, hj => simp at hj; subst hj; exact c2
    | 1, hj => simp at hj; subst hj; exact c3
    | 2, hj => simp at hj; subst hj; exact c4
    | j + 3, hj => simp at hj) (fun j hj => by
    match j, hj with
    | 0, _ => show (w.cell? _).isSome = true; rw [c1]; rfl
    | 1, _ => show (w.cell? _).isSome = true; rw [c2]; rfl
    | 2, _ => show (w.cell? _).isSome = true; rw [c3]; rfl
    | j + 3, hj => simp at hj; omega) (fun j hj => by
    match j, hj with
    | 0, _ => exact f1
    | 1, _ => exact f2
    | 2, _ => exact f3
    | j + 3, hj => simp at hj; omega) (by simp [Value.oneCell'])
  simp [World.setCells] at hrun
  go_enter Tryz.func79, Tryz.ntmps79
  go_wp2
  go_region
  go_wp2
  go_region
  go_wp2
  exact bodyPost_end (results_none (by rfl) _ _ _) rfl ⟨rfl, ⟨hB.out, by have := H4.out; simp; omega⟩, (((((((Only.refl g w).set 12 _).set 13 _).set 14 _).set 16 _).set 15 _).set 16 _).drew.drew⟩

set_option maxRecDepth 100000 in
set_option maxHeartbeats 1000000 in
theorem measure_more_gp1 (c : Cx 1) (g : Nat) (s : G) (n : Int) (w : World) (h : GPt1 c w g s) (h4 : s.l.length < 4) :
    Calls Tryz.prog 79 #[.pointer (some ⟨g, 11, none⟩), .int .i64 n] w fun e w' => e = .returned (.tuple #[]) ∧ GPt1 c w' g { s with l := s.l ++ [n] } ∧ Only g w w' := by
  obtain ⟨c0, c1, c2, c3, c4, c5⟩ := h.clk
  obtain ⟨f0, f1, f2, f3, f4, f5⟩ := h.frz
  have q4 : ((s.l.length : Int) == 4) = false := by rw [beq_eq_false_iff_ne]; omega
  have hB : Hid (PB c ((w.setCell ⟨g, 12 + s.l.length, none⟩ (.int .i64 n)).setCell ⟨g, 16, none⟩ (.int .i64 ((s.l.length : Int) + 1))).drew g (grd { s with l := s.l ++ [n] })) := Lib.hid (((PBs (p' := 12 + s.l.length) (h.1.set (11 + s.l.length) (by have : (grd s).size = 20 := rfl; omega) (.int .i64 n)) (by omega) rfl).set 15 (by simp [grd]) (.int .i64 ((s.l.length : Int) + 1))).drew.eq (grd_more s n _ rfl h4))
  have ck : ∃ x, w.cell? ⟨g, 12 + s.l.length, none⟩ = some x := by
    rcases (by omega : s.l.length = 0 ∨ s.l.length = 1 ∨ s.l.length = 2 ∨ s.l.length = 3) with e | e | e | e <;> rw [e]
    · exact ⟨_, c1⟩
    · exact ⟨_, c2⟩
    · exact ⟨_, c3⟩
    · exact ⟨_, c4⟩
  have fk : w.frozen? ⟨g, 12 + s.l.length, none⟩ = false := h.1.frozen _
  obtain ⟨x, ck⟩ := ck
  clear h c0 c1 c2 c3 c4 f0 f1 f2 f3 f4
  go_enter Tryz.func79, Tryz.ntmps79
  go_wp2
  go_region
  go_wp2
  exact bodyPost_end (results_none (by rfl) _ _ _) rfl ⟨rfl, ⟨hB.out, by simp; omega⟩, (((Only.refl g w).set (12 + s.l.length) _).set 16 _).drew⟩
theorem measure_gp1 (c : Cx 1) (g : Nat) (s : G) (n : Int) (w : World) (h : GPt1 c w g s) :
    Calls Tryz.prog 79 #[.pointer (some ⟨g, 11, none⟩), .int .i64 n] w fun e w' => e = .returned (.tuple #[]) ∧ GPt1 c w' g { s with l := keep4 s.l n } ∧ Only g w w' := by
  unfold keep4
  by_cases h4 : s.l.length = 4
  · rw [if_pos h4]; exact measure_full_gp1 c g s n w h h4
  · rw [if_neg h4]; exact measure_more_gp1 c g s n w h (by have := h.2; omega)
theorem GPt1.sees {c : Cx 1} {W : World} {g : Nat} {s : G} (h : GPt1 c W g s) : SeesI W W.heap.size (.slice (some ⟨g, 12, none⟩) s.l.length 4) s.l := by
  refine ⟨some ⟨g, 12, none⟩, 4, rfl, h.2, by simp [maxLen], fun _ => ⟨g, 12, rfl, h.1.lt, fun k hk => ?_⟩, fun h => by cases h⟩
  obtain ⟨-, c1, c2, c3, c4, -⟩ := h.clk
  have := h.2
  rcases (by omega : k = 0 ∨ k = 1 ∨ k = 2 ∨ k = 3) with rfl | rfl | rfl | rfl
  · exact c1
  · exact c2
  · exact c3
  · exact c4
set_option maxRecDepth 100000 in
set_option maxHeartbeats 1000000 in
theorem term_gp1 (c : Cx 1) (g : Nat) (s : G) (w : World) (h : GPt1 c w g s) (hs : small s.l) (hm : 0 ≤ s.lm ∧ s.lm ≤ 9223372036854775807) :
    Calls Tryz.prog 149 #[.pointer (some ⟨g, 11, none⟩)] w fun e w' => e = .returned (.tuple #[.int .i64 (termV s.lm s.l), .bool (wiB s.lm (avg s.l))]) ∧ Below w.heap.size w w' := by
  have hT : Hid (∀ W, Below w.heap.size w W → GPt1 c W g s) := Lib.hid (fun W hW => h.below hW h.1.lt)
  have A1 := fun W (hW : Below w.heap.size w W) => Lib.hid (avg_cl s.l _ W W.heap.size (Nat.le_refl _) (hT.out W hW).sees hs h.2)
  have R := fun n W => Lib.hid (reaches_cl s.lm n W hm)
  have hl4 := h.2
  unfold termV
  generalize avg s.l = r at *
  have R := R r
  generalize hq : wiB s.lm r = q at *
  clear hq
  obtain ⟨c0, -, -, -, -, c5⟩ := h.clk
  have HC : Hid (∀ W, Below w.heap.size w W → W.cell? ⟨g, 11, none⟩ = some (.int .i64 s.lm) ∧ W.cell? ⟨g, 16, none⟩ = some (.int .i64 (s.l.length : Nat))) := Lib.hid (fun W hW => by
    obtain ⟨c0, -, -, -, -, c5⟩ := (hT.out W hW).clk
    exact ⟨c0, c5⟩)
  have hb0 := Below.refl w.heap.size w
  have n1 : (0 : Int) ≤ (s.l.length : Nat) := by omega
  have n2 : ((s.l.length : Nat) : Int) ≤ 4 := by omega
  clear h hs hm
  go_enter Tryz.func149, Tryz.ntmps149
  go_wp2
  go_region_held3 (fun W => W.cell? ⟨g, 11, none⟩ = some (.int .i64 s.lm) ∧ W.cell? ⟨g, 16, none⟩ = some (.int .i64 (s.l.length : Nat)))
    ((refine HC.out _ ?_; first | exact hb0 | exact hb0.drew | exact hb1))
    (first
      | ((go_at_call 168; with_reducible refine (A1 _ ?_).out.mono ?_); (first | exact hb0 | exact hb0.drew); rintro e w1 ⟨rfl, hb⟩; have hb1 := hb0.drew.trans (hb.mono hb0.size))
      | fail)
  clear c0 c5
  obtain ⟨c0, c5⟩ := HC.out w1 hb1
  cases q
  · go_wp2_with fail
    refine (R w1).out.mono ?_
    rintro e w2 ⟨rfl, rfl⟩
    go_wp2
    go_ret2
    exact ⟨rfl, hb1⟩
  · go_wp2_with fail
    refine (R w1).out.mono ?_
    rintro e w2 ⟨rfl, rfl⟩
    go_wp2
    go_ret2
    exact ⟨rfl, hb1⟩
set_option maxRecDepth 100000 in
set_option maxHeartbeats 1000000 in
theorem goOn_gp1 (c : Cx 1) (g : Nat) (s : G) (w : World) (h : GPt1 c w g s) (hs : s.slot < s.n) (hn : s.n ≤ 8) (hsm : small s.l) (hm : 0 ≤ s.lm ∧ s.lm ≤ 9223372036854775807) (hnow : s.slot + 1 = s.n → time (s.now + termV s.lm s.l)) :
    Calls Tryz.prog 201 #[.pointer (some ⟨g, 1, none⟩)] w fun e w' => e = .returned (.tuple #[]) ∧ GPt1 c w' g s.on ∧ Only g w w' := by
  have c8 := PBa (h.1.cell 8 (x := .int .i64 (s.n : Nat)) rfl) (show 1 + 8 = 9 from rfl)
  have c18 := PBa (h.1.cell 18 (x := .int .i64 (s.slot : Nat)) rfl) (show 1 + 18 = 19 from rfl)
  have f18 := h.1.frozen 19
  have z1 : IntKind.i64.wrap ((s.slot : Int) + 1) = (s.slot : Int) + 1 := IntWalk.i64_in _ (by omega)
  by_cases hc : s.slot + 1 = s.n
  · have z2 : Int.tmod ((s.slot : Int) + 1) (s.n : Int) = 0 := by rw [show ((s.slot : Int) + 1) = (s.n : Int) by omega]; simp
    have z3 : ¬ (s.n : Int) = 0 := by omega
    have H1 : Hid (GPt1 c (w.setCell ⟨g, 19, none⟩ (.int .i64 0)).drew g { s with slot := 0 }) := Lib.hid ⟨((h.1.set 18 (by simp [grd]) (.int .i64 (0 : Nat))).drew).eq (grd_slot s 0), h.2⟩
    go_enter Tryz.func201, Tryz.ntmps201
    go_wp2
    go_region
    have hO := Lib.hid (((Only.refl g w).set 19 (.int .i64 0)).drew)
    have c18' := H1.out.1.cell 18 (x := .int .i64 (0 : Nat)) rfl
    generalize hw1 : (w.setCell ⟨g, 19, none⟩ (.int .i64 0)).drew = w1 at *
    have hT := Lib.hid (term_gp1 c g { s with slot := 0 } w1 H1.out hsm hm)
    have T0 := Lib.hid (hnow hc)
    simp only at hT
    generalize hv : termV s.lm s.l = v at *
    generalize wiB s.lm (avg s.l) = q at *
    go_wp2_with fail
    refine hT.out.mono ?_
    rintro e w2 ⟨rfl, hb2⟩
    have H2 := Lib.hid (H1.out.below hb2 H1.out.lt)
    have hO2 := Lib.hid (hO.out.trans (only_of_below g hb2))
    have c16 := PBa (H2.out.1.cell 16 (x := .int .i64 s.now) rfl) (show 1 + 16 = 17 from rfl)
    have f16 := H2.out.1.frozen 17
    have z4 : IntKind.i64.wrap (s.now + v) = s.now + v := IntWalk.i64_in _ (by have := T0.out; unfold time at this; omega)
    have H3 := Lib.hid (show GPt1 c (w2.setCell ⟨g, 17, none⟩ (.int .i64 (s.now + v))) g { s with slot := 0, now := s.now + v } from ⟨(H2.out.1.set 16 (by simp [grd]) (.int .i64 (s.now + v))).eq (grd_now _ _), H2.out.2⟩)
    have hO3 := Lib.hid (hO2.out.set 17 (.int .i64 (s.now + v)))
    generalize hw3 : w2.setCell ⟨g, 17, none⟩ (.int .i64 (s.now + v)) = w3 at *
    go_wp2_with fail
    refine (clear_gp1 c g _ _ H3.out).mono ?_
    rintro e w4 ⟨rfl, H4, hO4⟩
    go_wp2
    refine bodyPost_end (results_none (by rfl) _ _ _) rfl ⟨rfl, ?_, hO3.out.trans hO4⟩
    unfold G.on
    rw [if_pos hc, hv]
    exact H4
  · have e1 : ((s.slot + 1 : Nat) : Int) = (s.slot : Int) + 1 := by omega
    have z2 : Int.tmod ((s.slot : Int) + 1) (s.n : Int) = (s.slot : Int) + 1 := Int.tmod_eq_of_lt (by omega) (by omega)
    have z3 : ¬ (s.n : Int) = 0 := by omega
    have H1 : Hid (GPt1 c (w.setCell ⟨g, 19, none⟩ (.int .i64 ((s.slot : Int) + 1))).drew g { s with slot := s.slot + 1 }) := Lib.hid ⟨((h.1.set 18 (by simp [grd]) (.int .i64 ((s.slot : Int) + 1))).drew).eq (by rw [← e1]; exact grd_slot s (s.slot + 1)), h.2⟩
    have hO := Lib.hid (((Only.refl g w).set 19 (.int .i64 ((s.slot : Int) + 1))).drew)
    have z4 : (((s.slot : Int) + 1) == 0) = false := by rw [beq_eq_false_iff_ne]; omega
    go_enter Tryz.func201, Tryz.ntmps201
    go_wp2
    go_region
    go_wp2
    refine bodyPost_ret (results_none (by rfl) _ _ _) rfl ⟨rfl, ?_, hO.out⟩
    unfold G.on
    rw [if_neg hc]
    exact H1.out




set_option maxRecDepth 100000 in
set_option maxHeartbeats 1000000 in
theorem hear_gp1 (c : Cx 1) (g : Nat) (s : G) (at_ : Int) (w : World) (h : GPt1 c w g s) (hs : s.slot < s.n) (hn : s.n ≤ 8) (hsm : small s.l) (hm : 0 ≤ s.lm ∧ s.lm ≤ 9223372036854775807)
    (hat : time at_) (hnw : time s.now) (hd : s.sy s.slot = true → -1099511627776 ≤ at_ - s.now ∧ at_ - s.now ≤ 1099511627776) (hnow : s.slot + 1 = s.n → time (s.now + termV s.lm (if s.sy s.slot then keep4 s.l (at_ - s.now) else s.l))) :
    Calls Tryz.prog 193 #[.pointer (some ⟨g, 1, none⟩), .int .i64 at_] w fun e w' => e = .returned (.tuple #[]) ∧ GPt1 c w' g (s.heard at_) ∧ Only g w w' := by
  have f19 := h.1.frozen 20
  have c19 := PBa (h.1.cell 19 (x := .int .i64 (s.si : Nat)) rfl) (show 1 + 19 = 20 from rfl)
  have H1 : Hid (GPt1 c (w.setCell ⟨g, 20, none⟩ (.int .i64 0)) g { s with si := 0 }) := Lib.hid ⟨(h.1.set 19 (by simp [grd]) (.int .i64 ((0 : Nat) : Int))).eq (grd_si s 0), h.2⟩
  have hO1 := Lib.hid ((Only.refl g w).set 20 (.int .i64 0))
  generalize hw1 : w.setCell ⟨g, 20, none⟩ (.int .i64 0) = w1 at *
  have c18 := PBa (H1.out.1.cell 18 (x := .int .i64 (s.slot : Nat)) rfl) (show 1 + 18 = 19 from rfl)
  have cs := H1.out.1.cell s.slot (grd_sy _ s.slot (by omega))
  simp only at cs
  have hN := Lib.hid hnow
  have i1 : (0 : Int) ≤ (s.slot : Int) := by omega
  have i2 : (s.slot : Int) < 8 := by omega
  clear h hnow
  unfold G.heard
  cases hq : s.sy s.slot
  · rw [hq] at hN cs
    go_enter Tryz.func193, Tryz.ntmps193
    go_wp2
    go_region
    have H2 : GPt1 c w1.drew g { s with si := 0 } := H1.out
    go_wp2_with fail
    refine (goOn_gp1 c g _ _ H2 hs hn hsm hm (fun h => by simpa using hN.out h)).mono ?_
    rintro e w4 ⟨rfl, H4, hO4⟩
    go_wp2
    exact bodyPost_end (results_none (by rfl) _ _ _) rfl ⟨rfl, H4, hO1.out.drew.trans hO4⟩
  · rw [hq] at hN cs
    have hLs := fun W => Lib.hid (less_gd at_ s.now W hat hnw)
    have hM := fun W (h : GPt1 c W g { s with si := 0 }) => Lib.hid (measure_gp1 c g _ (at_ - s.now) W h)
    have hK := Lib.hid (hsm.keep4 (hd hq))
    have c16 := PBa (H1.out.1.cell 16 (x := .int .i64 s.now) rfl) (show 1 + 16 = 17 from rfl)
    simp only at hM
    generalize hl2 : keep4 s.l (at_ - s.now) = l2 at *
    clear hd
    go_enter Tryz.func193, Tryz.ntmps193
    go_wp2
    go_region
    go_wp2
    go_region_with (first
      | (go_at_call 202; refine (hLs _).out.mono ?_; rintro e w2 ⟨rfl, rfl⟩)
      | (go_at_call 79; refine (hM w1.drew.drew H1.out).out.mono ?_; rintro e w2 ⟨rfl, H2, hO2⟩))
    go_wp2_with fail
    refine (goOn_gp1 c g _ _ H2 hs hn hK.out hm (fun h => by simpa using hN.out h)).mono ?_
    rintro e w4 ⟨rfl, H4, hO4⟩
    go_wp2
    exact bodyPost_end (results_none (by rfl) _ _ _) rfl ⟨rfl, H4, (hO1.out.drew.drew.trans hO2).trans hO4⟩
set_option maxRecDepth 100000 in
set_option maxHeartbeats 1000000 in
theorem miss_gp1 (c : Cx 1) (g : Nat) (s : G) (w : World) (h : GPt1 c w g s) (hs : s.slot < s.n) (hn : s.n ≤ 8) (hsm : small s.l) (hm : 0 ≤ s.lm ∧ s.lm ≤ 9223372036854775807) (hsi : s.si ≤ 1000)
    (hnow : s.slot + 1 = s.n → time (s.now + termV s.lm s.l)) :
    Calls Tryz.prog 194 #[.pointer (some ⟨g, 1, none⟩)] w fun e w' => e = .returned (.tuple #[]) ∧ GPt1 c w' g s.missed ∧ Only g w w' := by
  have f19 := h.1.frozen 20
  have c19 := PBa (h.1.cell 19 (x := .int .i64 (s.si : Nat)) rfl) (show 1 + 19 = 20 from rfl)
  have e1 : ((s.si + 1 : Nat) : Int) = (s.si : Int) + 1 := by omega
  have z1 : IntKind.i64.wrap ((s.si : Int) + 1) = (s.si : Int) + 1 := IntWalk.i64_in _ (by omega)
  have z2 : IntKind.i64.wrap (2 * (s.n : Int)) = 2 * (s.n : Int) := IntWalk.i64_in _ (by omega)
  have H1 : Hid (GPt1 c (w.setCell ⟨g, 20, none⟩ (.int .i64 ((s.si : Int) + 1))) g { s with si := s.si + 1 }) := Lib.hid ⟨(h.1.set 19 (by simp [grd]) (.int .i64 ((s.si : Int) + 1))).eq (by rw [← e1]; exact grd_si s (s.si + 1)), h.2⟩
  have hO1 := Lib.hid ((Only.refl g w).set 20 (.int .i64 ((s.si : Int) + 1)))
  generalize hw1 : w.setCell ⟨g, 20, none⟩ (.int .i64 ((s.si : Int) + 1)) = w1 at *
  have c8 := PBa (H1.out.1.cell 8 (x := .int .i64 (s.n : Nat)) rfl) (show 1 + 8 = 9 from rfl)
  have d19 : w1.cell? ⟨g, 20, none⟩ = some (.int .i64 ((s.si : Int) + 1)) := by rw [← e1]; exact H1.out.1.cell 19 rfl
  have hN := Lib.hid hnow
  clear h hnow
  unfold G.missed
  by_cases hq : s.si + 1 = 2 * s.n
  · rw [if_pos hq]
    have q1 : ((s.si : Int) + 1 == 2 * (s.n : Int)) = true := by rw [beq_iff_eq]; omega
    have f17 := H1.out.1.frozen 18
    have f18 := H1.out.1.frozen 19
    have c17 := PBa (H1.out.1.cell 17 (x := .bool s.kn) rfl) (show 1 + 17 = 18 from rfl)
    have c18 := PBa (H1.out.1.cell 18 (x := .int .i64 (s.slot : Nat)) rfl) (show 1 + 18 = 19 from rfl)
    have H2 : Hid (GPt1 c ((w1.drew.setCell ⟨g, 18, none⟩ (.bool false)).setCell ⟨g, 19, none⟩ (.int .i64 0)) g { s with si := s.si + 1, kn := false, slot := 0 }) := Lib.hid ⟨((H1.out.1.drew.set 17 (by simp [grd]) (.bool false)).set 18 (by simp [grd]) (.int .i64 ((0 : Nat) : Int))).eq (by rw [grd_kn, grd_slot]), H1.out.2⟩
    go_enter Tryz.func194, Tryz.ntmps194
    go_wp2
    go_region
    go_wp2
    exact bodyPost_ret (results_none (by rfl) _ _ _) rfl ⟨rfl, H2.out, (hO1.out.drew.set 18 _).set 19 _⟩
  · rw [if_neg hq]
    have q1 : ((s.si : Int) + 1 == 2 * (s.n : Int)) = false := by rw [beq_eq_false_iff_ne]; omega
    go_enter Tryz.func194, Tryz.ntmps194
    go_wp2
    go_region
    have H2 : GPt1 c w1.drew g { s with si := s.si + 1 } := H1.out
    go_wp2_with fail
    refine (goOn_gp1 c g _ _ H2 hs hn hsm hm hN.out).mono ?_
    rintro e w4 ⟨rfl, H4, hO4⟩
    go_wp2
    exact bodyPost_end (results_none (by rfl) _ _ _) rfl ⟨rfl, H4, hO1.out.drew.trans hO4⟩
end Go.Proofs.YtpdenmcacaajkaaGreat
