/- Texts ClE, GdA in one. For what each says in front of its theorems. -/
import Derived.Laws.IdiomCopy
import Derived.Test.YtmlnkkalajnjhaaSB10
/-! ### ClE -/
namespace Go.Proofs.Ytmlnkkalajnjhaa
open Go.RowKit
open Clk (avg)

/-- A clock's cells. -/
def clk (m : Int) (l : List Int) : Array Value := #[.int .i64 m, .int .i64 (l.getD 0 0), .int .i64 (l.getD 1 0), .int .i64 (l.getD 2 0), .int .i64 (l.getD 3 0), .int .i64 (l.length : Nat)]
/-- A clock in memory. -/
def ClkAt (W : World) (g : Nat) (m : Int) (l : List Int) : Prop := Blk W g (clk m l) 84 ∧ l.length ≤ 4
theorem ClkAt.cells {W : World} {g : Nat} {m : Int} {l : List Int} (h : ClkAt W g m l) : W.cell? ⟨g, 0, none⟩ = some (.int .i64 m) ∧ W.cell? ⟨g, 1, none⟩ = some (.int .i64 (l.getD 0 0)) ∧ W.cell? ⟨g, 2, none⟩ = some (.int .i64 (l.getD 1 0)) ∧ W.cell? ⟨g, 3, none⟩ = some (.int .i64 (l.getD 2 0)) ∧ W.cell? ⟨g, 4, none⟩ = some (.int .i64 (l.getD 3 0)) ∧ W.cell? ⟨g, 5, none⟩ = some (.int .i64 (l.length : Nat)) :=
  ⟨h.1.cell 0 rfl, h.1.cell 1 rfl, h.1.cell 2 rfl, h.1.cell 3 rfl, h.1.cell 4 rfl, h.1.cell 5 rfl⟩
theorem ClkAt.frz {W : World} {g : Nat} {m : Int} {l : List Int} (h : ClkAt W g m l) : W.frozen? ⟨g, 0, none⟩ = false ∧ W.frozen? ⟨g, 1, none⟩ = false ∧ W.frozen? ⟨g, 2, none⟩ = false ∧ W.frozen? ⟨g, 3, none⟩ = false ∧ W.frozen? ⟨g, 4, none⟩ = false ∧ W.frozen? ⟨g, 5, none⟩ = false :=
  ⟨h.1.frozen 0, h.1.frozen 1, h.1.frozen 2, h.1.frozen 3, h.1.frozen 4, h.1.frozen 5⟩
theorem ClkAt.below {W W' : World} {g : Nat} {m : Int} {l : List Int} (h : ClkAt W g m l) {B : Nat} (hb : Below B W W') (hg : g < B) : ClkAt W' g m l := ⟨h.1.below hb hg, h.2⟩
theorem blk6 {X : World} {g : Nat} {a b c d e f a' b' c' d' e' f' : Value} {t : TypeId} (h : Blk X g #[a, b, c, d, e, f] t) : Blk ((((((X.setCell ⟨g, 0, none⟩ a').setCell ⟨g, 1, none⟩ b').setCell ⟨g, 2, none⟩ c').setCell ⟨g, 3, none⟩ d').setCell ⟨g, 4, none⟩ e').setCell ⟨g, 5, none⟩ f') g #[a', b', c', d', e', f'] t := by
  have := (((((h.set 0 a').set 1 b').set 2 c').set 3 d').set 4 e').set 5 f'
  simpa using this
theorem clk_full (m n : Int) (l : List Int) (h4 : l.length = 4) : ((((((clk m l).setIfInBounds 1 (.int .i64 (l.getD 1 0))).setIfInBounds 2 (.int .i64 (l.getD 2 0))).setIfInBounds 3 (.int .i64 (l.getD 3 0))).setIfInBounds 5 (.int .i64 3)).setIfInBounds 4 (.int .i64 n)).setIfInBounds 5 (.int .i64 4) = clk m (l.drop 1 ++ [n]) := by
  match l, h4 with
  | [p, q, r, s], _ => simp [clk]
/-- What is kept of more than four. -/
def keep4 (l : List Int) (n : Int) : List Int := if l.length = 4 then l.drop 1 ++ [n] else l ++ [n]

set_option maxRecDepth 100000 in
set_option maxHeartbeats 1000000 in
theorem new_cl (m : Int) (w : World) :
    Calls Try.prog 52 #[.int .i64 m] w fun e w' => e = .returned (.pointer (some ⟨w.heap.size, 0, none⟩)) ∧ ClkAt w' w.heap.size m [] ∧ Below w.heap.size w w' ∧ w'.heap.size = w.heap.size + 1 := by
  go_enter Try.func52, Try.ntmps52
  go_wp2
  go_ret
  exact ⟨rfl, ⟨Blk.new _ _ rfl _ _, by simp⟩, (Below.refl _ _).alloc (Nat.le_refl _) _, by simp⟩

set_option maxRecDepth 100000 in
set_option maxHeartbeats 1000000 in
theorem clear_cl (g : Nat) (m : Int) (l : List Int) (w : World) (h : ClkAt w g m l) :
    Calls Try.prog 69 #[.pointer (some ⟨g, 0, none⟩)] w fun e w' => e = .returned (.tuple #[]) ∧ ClkAt w' g m [] ∧ Only g w w' := by
  obtain ⟨c0, c1, c2, c3, c4, c5⟩ := h.cells
  obtain ⟨f0, f1, f2, f3, f4, f5⟩ := h.frz
  have hB := Lib.hid h.1
  clear h
  go_enter Try.func69, Try.ntmps69
  go_wp2
  exact bodyPost_end (results_none (by rfl) _ _ _) rfl ⟨rfl, ⟨blk6 hB.out, by simp⟩, ((((((Only.refl g w).set 0 _).set 1 _).set 2 _).set 3 _).set 4 _).set 5 _⟩
set_option maxRecDepth 100000 in
set_option maxHeartbeats 1000000 in
theorem measure_full (g : Nat) (m : Int) (l : List Int) (n : Int) (w : World) (h : ClkAt w g m l) (h4 : l.length = 4) :
    Calls Try.prog 71 #[.pointer (some ⟨g, 0, none⟩), .int .i64 n] w fun e w' => e = .returned (.tuple #[]) ∧ ClkAt w' g m (l.drop 1 ++ [n]) ∧ Only g w w' := by
  obtain ⟨c0, c1, c2, c3, c4, c5⟩ := h.cells
  obtain ⟨f0, f1, f2, f3, f4, f5⟩ := h.frz
  have c5' : w.cell? ⟨g, 5, none⟩ = some (.int .i64 4) := by rw [c5, h4]; rfl
  clear c5
  have hB : Hid (Blk ((((((w.setCell ⟨g, 1, none⟩ (.int .i64 (l.getD 1 0))).setCell ⟨g, 2, none⟩ (.int .i64 (l.getD 2 0))).setCell ⟨g, 3, none⟩ (.int .i64 (l.getD 3 0))).setCell ⟨g, 5, none⟩ (.int .i64 3)).setCell ⟨g, 4, none⟩ (.int .i64 n)).setCell ⟨g, 5, none⟩ (.int .i64 4)).drew.drew g (clk m (l.drop 1 ++ [n])) 84) := Lib.hid (((((((h.1.set 1 (.int .i64 (l.getD 1 0))).set 2 (.int .i64 (l.getD 2 0))).set 3 (.int .i64 (l.getD 3 0))).set 5 (.int .i64 3)).set 4 (.int .i64 n)).set 5 (.int .i64 4)).drew.drew.eq (clk_full m n l h4))
  have H4 := Lib.hid h4
  clear h h4
  generalize l.getD 0 0 = a0 at *
  generalize l.getD 1 0 = a1 at *
  generalize l.getD 2 0 = a2 at *
  generalize l.getD 3 0 = a3 at *
  have hrun := run_copy_cells (P := Try.prog) w.drew 144 144 3 3 g 1 4 4 ⟨g, 2, none⟩ 3 3 [.int .i64 a1, .int .i64 a2, .int .i64 a3] Try.underlying144 (by kernel_rfl) (by simp) (fun j v hj => by
    match j, hj with
    | 0, hj => simp at hj; subst hj; exact c2
    | 1, hj => simp at hj; subst hj; exact c3
    | 2, hj => simp at hj; subst hj; exact c4
    | j + 3, hj => simp at hj) (fun j hj => by
    match j, hj with
    | 0, _ => show (w.cell? _).isSome = true; rw [c1]; rfl
    | 1, _ => show (w.cell? _).isSome = true; rw [c2]; rfl
    | 2, _ => show (w.cell? _).isSome = true; rw [c3]; rfl
    | j + 3, hj => simp at hj; omega) (fun j hj => by
    match j, hj with
    | 0, _ => exact f1
    | 1, _ => exact f2
    | 2, _ => exact f3
    | j + 3, hj => simp at hj; omega) (by simp [Value.oneCell'])
  simp [World.setCells] at hrun
  go_enter Try.func71, Try.ntmps71
  go_wp2
  go_region
  go_wp2
  go_region
  go_wp2
  exact bodyPost_end (results_none (by rfl) _ _ _) rfl ⟨rfl, ⟨hB.out, by have := H4.out; simp; omega⟩, (((((((Only.refl g w).set 1 _).set 2 _).set 3 _).set 5 _).set 4 _).set 5 _).drew.drew⟩
theorem clk_more (m n : Int) (l : List Int) (k : Nat) (hk : l.length = k) (h4 : k < 4) : ((clk m l).setIfInBounds (1 + k) (.int .i64 n)).setIfInBounds 5 (.int .i64 ((k : Int) + 1)) = clk m (l ++ [n]) := by
  match l, hk, h4 with
  | [], rfl, _ => simp [clk]
  | [p], rfl, _ => simp [clk]
  | [p, q], rfl, _ => simp [clk]
  | [p, q, r], rfl, _ => simp [clk]
set_option maxRecDepth 100000 in
set_option maxHeartbeats 1000000 in
theorem measure_more (g : Nat) (m : Int) (l : List Int) (n : Int) (w : World) (h : ClkAt w g m l) (h4 : l.length < 4) :
    Calls Try.prog 71 #[.pointer (some ⟨g, 0, none⟩), .int .i64 n] w fun e w' => e = .returned (.tuple #[]) ∧ ClkAt w' g m (l ++ [n]) ∧ Only g w w' := by
  obtain ⟨c0, c1, c2, c3, c4, c5⟩ := h.cells
  obtain ⟨f0, f1, f2, f3, f4, f5⟩ := h.frz
  have q4 : ((l.length : Int) == 4) = false := by rw [beq_eq_false_iff_ne]; omega
  have hB : Hid (Blk ((w.setCell ⟨g, 1 + l.length, none⟩ (.int .i64 n)).setCell ⟨g, 5, none⟩ (.int .i64 ((l.length : Int) + 1))).drew g (clk m (l ++ [n])) 84) := Lib.hid (((h.1.set (1 + l.length) (.int .i64 n)).set 5 (.int .i64 ((l.length : Int) + 1))).drew.eq (clk_more m n l _ rfl h4))
  have ck : ∃ x, w.cell? ⟨g, 1 + l.length, none⟩ = some x := by
    rcases (by omega : l.length = 0 ∨ l.length = 1 ∨ l.length = 2 ∨ l.length = 3) with e | e | e | e <;> rw [e]
    · exact ⟨_, c1⟩
    · exact ⟨_, c2⟩
    · exact ⟨_, c3⟩
    · exact ⟨_, c4⟩
  have fk : w.frozen? ⟨g, 1 + l.length, none⟩ = false := h.1.frozen _
  obtain ⟨x, ck⟩ := ck
  clear h c0 c1 c2 c3 c4 f0 f1 f2 f3 f4
  go_enter Try.func71, Try.ntmps71
  go_wp2
  go_region
  go_wp2
  exact bodyPost_end (results_none (by rfl) _ _ _) rfl ⟨rfl, ⟨hB.out, by simp; omega⟩, (((Only.refl g w).set (1 + l.length) _).set 5 _).drew⟩
theorem measure_cl (g : Nat) (m : Int) (l : List Int) (n : Int) (w : World) (h : ClkAt w g m l) :
    Calls Try.prog 71 #[.pointer (some ⟨g, 0, none⟩), .int .i64 n] w fun e w' => e = .returned (.tuple #[]) ∧ ClkAt w' g m (keep4 l n) ∧ Only g w w' := by
  unfold keep4
  by_cases h4 : l.length = 4
  · rw [if_pos h4]; exact measure_full g m l n w h h4
  · rw [if_neg h4]; exact measure_more g m l n w h (by have := h.2; omega)
theorem ClkAt.sees {W : World} {g : Nat} {m : Int} {l : List Int} (h : ClkAt W g m l) : SeesI W W.heap.size (.slice (some ⟨g, 1, none⟩) l.length 4) l := by
  refine ⟨some ⟨g, 1, none⟩, 4, rfl, h.2, by simp [maxLen], fun _ => ⟨g, 1, rfl, h.1.lt, fun k hk => ?_⟩, fun h => by cases h⟩
  obtain ⟨-, c1, c2, c3, c4, -⟩ := h.cells
  have := h.2
  rcases (by omega : k = 0 ∨ k = 1 ∨ k = 2 ∨ k = 3) with rfl | rfl | rfl | rfl
  · exact c1
  · exact c2
  · exact c3
  · exact c4
/-- By how much it is turned. -/
def termV (m : Int) (l : List Int) : Int := if wiB m (avg l) then avg l else 0
set_option maxRecDepth 100000 in
set_option maxHeartbeats 1000000 in
theorem term_cl (g : Nat) (m : Int) (l : List Int) (w : World) (h : ClkAt w g m l) (hs : small l) (hm : 0 ≤ m ∧ m ≤ 9223372036854775807) :
    Calls Try.prog 82 #[.pointer (some ⟨g, 0, none⟩)] w fun e w' => e = .returned (.tuple #[.int .i64 (termV m l), .bool (wiB m (avg l))]) ∧ Below w.heap.size w w' := by
  have hT : Hid (∀ W, Below w.heap.size w W → ClkAt W g m l) := Lib.hid (fun W hW => h.below hW h.1.lt)
  have A1 := fun W (hW : Below w.heap.size w W) => Lib.hid (avg_cl l _ W W.heap.size (Nat.le_refl _) (hT.out W hW).sees hs h.2)
  have R := fun n W => Lib.hid (reaches_cl m n W hm)
  have hl4 := h.2
  unfold termV
  generalize avg l = r at *
  have R := R r
  generalize hq : wiB m r = q at *
  clear hq
  obtain ⟨c0, -, -, -, -, c5⟩ := h.cells
  have HC : Hid (∀ W, Below w.heap.size w W → W.cell? ⟨g, 0, none⟩ = some (.int .i64 m) ∧ W.cell? ⟨g, 5, none⟩ = some (.int .i64 (l.length : Nat))) := Lib.hid (fun W hW => by
    obtain ⟨c0, -, -, -, -, c5⟩ := (hT.out W hW).cells
    exact ⟨c0, c5⟩)
  have hb0 := Below.refl w.heap.size w
  have n1 : (0 : Int) ≤ (l.length : Nat) := by omega
  have n2 : ((l.length : Nat) : Int) ≤ 4 := by omega
  clear h hs hm
  go_enter Try.func82, Try.ntmps82
  go_wp2
  go_region_held3 (fun W => W.cell? ⟨g, 0, none⟩ = some (.int .i64 m) ∧ W.cell? ⟨g, 5, none⟩ = some (.int .i64 (l.length : Nat)))
    ((refine HC.out _ ?_; first | exact hb0 | exact hb0.drew | exact hb1))
    (first
      | ((go_at_call 87; with_reducible refine (A1 _ ?_).out.mono ?_); (first | exact hb0 | exact hb0.drew); rintro e w1 ⟨rfl, hb⟩; have hb1 := hb0.drew.trans (hb.mono hb0.size))
      | fail)
  clear c0 c5
  obtain ⟨c0, c5⟩ := HC.out w1 hb1
  cases q
  · go_wp2_with fail
    refine (R w1).out.mono ?_
    rintro e w2 ⟨rfl, rfl⟩
    go_wp2
    go_ret2
    exact ⟨rfl, hb1⟩
  · go_wp2_with fail
    refine (R w1).out.mono ?_
    rintro e w2 ⟨rfl, rfl⟩
    go_wp2
    go_ret2
    exact ⟨rfl, hb1⟩
end Go.Proofs.Ytmlnkkalajnjhaa

/-! ### GdA -/
namespace Go.Proofs.Ytmlnkkalajnjhaa
open Go.RowKit
open Clk (avg)

/-- What a guardian holds. -/
structure G where
  sy : Nat → Bool
  n : Nat
  wi : Int
  lm : Int
  l : List Int
  now : Int
  kn : Bool
  slot : Nat
  si : Nat
/-- Its cells. -/
def grd (s : G) : Array Value := #[.bool (s.sy 0), .bool (s.sy 1), .bool (s.sy 2), .bool (s.sy 3), .bool (s.sy 4), .bool (s.sy 5), .bool (s.sy 6), .bool (s.sy 7), .int .i64 (s.n : Nat), .int .i64 s.wi,
  .int .i64 s.lm, .int .i64 (s.l.getD 0 0), .int .i64 (s.l.getD 1 0), .int .i64 (s.l.getD 2 0), .int .i64 (s.l.getD 3 0), .int .i64 (s.l.length : Nat), .int .i64 s.now, .bool s.kn, .int .i64 (s.slot : Nat), .int .i64 (s.si : Nat)]
def GAt (W : World) (g : Nat) (s : G) : Prop := Blk W g (grd s) 86 ∧ s.l.length ≤ 4
theorem GAt.below {W W' : World} {g : Nat} {s : G} (h : GAt W g s) {B : Nat} (hb : Below B W W') (hg : g < B) : GAt W' g s := ⟨h.1.below hb hg, h.2⟩
theorem GAt.only {W W' : World} {g g' : Nat} {s : G} (h : GAt W g s) (hb : Only g' W W') (hg : g ≠ g') : GAt W' g s := ⟨h.1.only hb hg, h.2⟩
theorem GAt.lt {W : World} {g : Nat} {s : G} (h : GAt W g s) : g < W.heap.size := h.1.lt
/-- The clock's cells. -/
theorem GAt.clk {W : World} {g : Nat} {s : G} (h : GAt W g s) : W.cell? ⟨g, 10, none⟩ = some (.int .i64 s.lm) ∧ W.cell? ⟨g, 11, none⟩ = some (.int .i64 (s.l.getD 0 0)) ∧ W.cell? ⟨g, 12, none⟩ = some (.int .i64 (s.l.getD 1 0)) ∧ W.cell? ⟨g, 13, none⟩ = some (.int .i64 (s.l.getD 2 0)) ∧ W.cell? ⟨g, 14, none⟩ = some (.int .i64 (s.l.getD 3 0)) ∧ W.cell? ⟨g, 15, none⟩ = some (.int .i64 (s.l.length : Nat)) :=
  ⟨h.1.cell 10 rfl, h.1.cell 11 rfl, h.1.cell 12 rfl, h.1.cell 13 rfl, h.1.cell 14 rfl, h.1.cell 15 rfl⟩
theorem GAt.frz {W : World} {g : Nat} {s : G} (h : GAt W g s) : W.frozen? ⟨g, 10, none⟩ = false ∧ W.frozen? ⟨g, 11, none⟩ = false ∧ W.frozen? ⟨g, 12, none⟩ = false ∧ W.frozen? ⟨g, 13, none⟩ = false ∧ W.frozen? ⟨g, 14, none⟩ = false ∧ W.frozen? ⟨g, 15, none⟩ = false :=
  ⟨h.1.frozen 10, h.1.frozen 11, h.1.frozen 12, h.1.frozen 13, h.1.frozen 14, h.1.frozen 15⟩

set_option maxRecDepth 100000 in
set_option maxHeartbeats 1000000 in
theorem clear_gd (g : Nat) (s : G) (w : World) (h : GAt w g s) :
    Calls Try.prog 69 #[.pointer (some ⟨g, 10, none⟩)] w fun e w' => e = .returned (.tuple #[]) ∧ GAt w' g { s with l := [] } ∧ Only g w w' := by
  obtain ⟨c0, c1, c2, c3, c4, c5⟩ := h.clk
  obtain ⟨f0, f1, f2, f3, f4, f5⟩ := h.frz
  have hB : Hid (Blk ((((((w.setCell ⟨g, 10, none⟩ (.int .i64 s.lm)).setCell ⟨g, 11, none⟩ (.int .i64 0)).setCell ⟨g, 12, none⟩ (.int .i64 0)).setCell ⟨g, 13, none⟩ (.int .i64 0)).setCell ⟨g, 14, none⟩ (.int .i64 0)).setCell ⟨g, 15, none⟩ (.int .i64 0)) g (grd { s with l := [] }) 86) := Lib.hid ((((((h.1.set 10 _).set 11 _).set 12 _).set 13 _).set 14 _).set 15 _)
  clear h
  go_enter Try.func69, Try.ntmps69
  go_wp2
  exact bodyPost_end (results_none (by rfl) _ _ _) rfl ⟨rfl, ⟨hB.out, by simp⟩, ((((((Only.refl g w).set 10 _).set 11 _).set 12 _).set 13 _).set 14 _).set 15 _⟩
theorem grd_full (s : G) (n : Int) (h4 : s.l.length = 4) : ((((((grd s).setIfInBounds 11 (.int .i64 (s.l.getD 1 0))).setIfInBounds 12 (.int .i64 (s.l.getD 2 0))).setIfInBounds 13 (.int .i64 (s.l.getD 3 0))).setIfInBounds 15 (.int .i64 3)).setIfInBounds 14 (.int .i64 n)).setIfInBounds 15 (.int .i64 4) = grd { s with l := s.l.drop 1 ++ [n] } := by
  obtain ⟨sy, nn, wi, lm, l, now, kn, slot, si⟩ := s
  simp only at h4 ⊢
  match l, h4 with
  | [p, q, r, s], _ => simp [grd]
set_option maxRecDepth 100000 in
set_option maxHeartbeats 1000000 in
theorem measure_full_gd (g : Nat) (s : G) (n : Int) (w : World) (h : GAt w g s) (h4 : s.l.length = 4) :
    Calls Try.prog 71 #[.pointer (some ⟨g, 10, none⟩), .int .i64 n] w fun e w' => e = .returned (.tuple #[]) ∧ GAt w' g { s with l := s.l.drop 1 ++ [n] } ∧ Only g w w' := by
  obtain ⟨c0, c1, c2, c3, c4, c5⟩ := h.clk
  obtain ⟨f0, f1, f2, f3, f4, f5⟩ := h.frz
  have c5' : w.cell? ⟨g, 15, none⟩ = some (.int .i64 4) := by rw [c5, h4]; rfl
  clear c5
  have hB : Hid (Blk ((((((w.setCell ⟨g, 11, none⟩ (.int .i64 (s.l.getD 1 0))).setCell ⟨g, 12, none⟩ (.int .i64 (s.l.getD 2 0))).setCell ⟨g, 13, none⟩ (.int .i64 (s.l.getD 3 0))).setCell ⟨g, 15, none⟩ (.int .i64 3)).setCell ⟨g, 14, none⟩ (.int .i64 n)).setCell ⟨g, 15, none⟩ (.int .i64 4)).drew.drew g (grd { s with l := s.l.drop 1 ++ [n] }) 86) := Lib.hid (((((((h.1.set 11 (.int .i64 (s.l.getD 1 0))).set 12 (.int .i64 (s.l.getD 2 0))).set 13 (.int .i64 (s.l.getD 3 0))).set 15 (.int .i64 3)).set 14 (.int .i64 n)).set 15 (.int .i64 4)).drew.drew.eq (grd_full s n h4))
  have H4 := Lib.hid h4
  clear h h4
  generalize s.l.getD 0 0 = a0 at *
  generalize s.l.getD 1 0 = a1 at *
  generalize s.l.getD 2 0 = a2 at *
  generalize s.l.getD 3 0 = a3 at *
  have hrun := run_copy_cells (P := Try.prog) w.drew 144 144 3 3 g 11 4 4 ⟨g, 12, none⟩ 3 3 [.int .i64 a1, .int .i64 a2, .int .i64 a3] Try.underlying144 (by kernel_rfl) (by simp) (fun j v hj => by
    match j, hj with
    | 0, hj => simp at hj; subst hj; exact c2
    | 1, hj => simp at hj; subst hj; exact c3
    | 2, hj => simp at hj; subst hj; exact c4
    | j + 3, hj => simp at hj) (fun j hj => by
    match j, hj with
    | 0, _ => show (w.cell? _).isSome = true; rw [c1]; rfl
    | 1, _ => show (w.cell? _).isSome = true; rw [c2]; rfl
    | 2, _ => show (w.cell? _).isSome = true; rw [c3]; rfl
    | j + 3, hj => simp at hj; omega) (fun j hj => by
    match j, hj with
    | 0, _ => exact f1
    | 1, _ => exact f2
    | 2, _ => exact f3
    | j + 3, hj => simp at hj; omega) (by simp [Value.oneCell'])
  simp [World.setCells] at hrun
  go_enter Try.func71, Try.ntmps71
  go_wp2
  go_region
  go_wp2
  go_region
  go_wp2
  exact bodyPost_end (results_none (by rfl) _ _ _) rfl ⟨rfl, ⟨hB.out, by have := H4.out; simp; omega⟩, (((((((Only.refl g w).set 11 _).set 12 _).set 13 _).set 15 _).set 14 _).set 15 _).drew.drew⟩
theorem grd_more (s : G) (n : Int) (k : Nat) (hk : s.l.length = k) (h4 : k < 4) : ((grd s).setIfInBounds (11 + k) (.int .i64 n)).setIfInBounds 15 (.int .i64 ((k : Int) + 1)) = grd { s with l := s.l ++ [n] } := by
  obtain ⟨sy, nn, wi, lm, l, now, kn, slot, si⟩ := s
  simp only at hk ⊢
  match l, hk, h4 with
  | [], rfl, _ => simp [grd]
  | [p], rfl, _ => simp [grd]
  | [p, q], rfl, _ => simp [grd]
  | [p, q, r], rfl, _ => simp [grd]
set_option maxRecDepth 100000 in
set_option maxHeartbeats 1000000 in
theorem measure_more_gd (g : Nat) (s : G) (n : Int) (w : World) (h : GAt w g s) (h4 : s.l.length < 4) :
    Calls Try.prog 71 #[.pointer (some ⟨g, 10, none⟩), .int .i64 n] w fun e w' => e = .returned (.tuple #[]) ∧ GAt w' g { s with l := s.l ++ [n] } ∧ Only g w w' := by
  obtain ⟨c0, c1, c2, c3, c4, c5⟩ := h.clk
  obtain ⟨f0, f1, f2, f3, f4, f5⟩ := h.frz
  have q4 : ((s.l.length : Int) == 4) = false := by rw [beq_eq_false_iff_ne]; omega
  have hB : Hid (Blk ((w.setCell ⟨g, 11 + s.l.length, none⟩ (.int .i64 n)).setCell ⟨g, 15, none⟩ (.int .i64 ((s.l.length : Int) + 1))).drew g (grd { s with l := s.l ++ [n] }) 86) := Lib.hid (((h.1.set (11 + s.l.length) (.int .i64 n)).set 15 (.int .i64 ((s.l.length : Int) + 1))).drew.eq (grd_more s n _ rfl h4))
  have ck : ∃ x, w.cell? ⟨g, 11 + s.l.length, none⟩ = some x := by
    rcases (by omega : s.l.length = 0 ∨ s.l.length = 1 ∨ s.l.length = 2 ∨ s.l.length = 3) with e | e | e | e <;> rw [e]
    · exact ⟨_, c1⟩
    · exact ⟨_, c2⟩
    · exact ⟨_, c3⟩
    · exact ⟨_, c4⟩
  have fk : w.frozen? ⟨g, 11 + s.l.length, none⟩ = false := h.1.frozen _
  obtain ⟨x, ck⟩ := ck
  clear h c0 c1 c2 c3 c4 f0 f1 f2 f3 f4
  go_enter Try.func71, Try.ntmps71
  go_wp2
  go_region
  go_wp2
  exact bodyPost_end (results_none (by rfl) _ _ _) rfl ⟨rfl, ⟨hB.out, by simp; omega⟩, (((Only.refl g w).set (11 + s.l.length) _).set 15 _).drew⟩
theorem measure_gd (g : Nat) (s : G) (n : Int) (w : World) (h : GAt w g s) :
    Calls Try.prog 71 #[.pointer (some ⟨g, 10, none⟩), .int .i64 n] w fun e w' => e = .returned (.tuple #[]) ∧ GAt w' g { s with l := keep4 s.l n } ∧ Only g w w' := by
  unfold keep4
  by_cases h4 : s.l.length = 4
  · rw [if_pos h4]; exact measure_full_gd g s n w h h4
  · rw [if_neg h4]; exact measure_more_gd g s n w h (by have := h.2; omega)
theorem GAt.sees {W : World} {g : Nat} {s : G} (h : GAt W g s) : SeesI W W.heap.size (.slice (some ⟨g, 11, none⟩) s.l.length 4) s.l := by
  refine ⟨some ⟨g, 11, none⟩, 4, rfl, h.2, by simp [maxLen], fun _ => ⟨g, 11, rfl, h.1.lt, fun k hk => ?_⟩, fun h => by cases h⟩
  obtain ⟨-, c1, c2, c3, c4, -⟩ := h.clk
  have := h.2
  rcases (by omega : k = 0 ∨ k = 1 ∨ k = 2 ∨ k = 3) with rfl | rfl | rfl | rfl
  · exact c1
  · exact c2
  · exact c3
  · exact c4
set_option maxRecDepth 100000 in
set_option maxHeartbeats 1000000 in
theorem term_gd (g : Nat) (s : G) (w : World) (h : GAt w g s) (hs : small s.l) (hm : 0 ≤ s.lm ∧ s.lm ≤ 9223372036854775807) :
    Calls Try.prog 82 #[.pointer (some ⟨g, 10, none⟩)] w fun e w' => e = .returned (.tuple #[.int .i64 (termV s.lm s.l), .bool (wiB s.lm (avg s.l))]) ∧ Below w.heap.size w w' := by
  have hT : Hid (∀ W, Below w.heap.size w W → GAt W g s) := Lib.hid (fun W hW => h.below hW h.1.lt)
  have A1 := fun W (hW : Below w.heap.size w W) => Lib.hid (avg_cl s.l _ W W.heap.size (Nat.le_refl _) (hT.out W hW).sees hs h.2)
  have R := fun n W => Lib.hid (reaches_cl s.lm n W hm)
  have hl4 := h.2
  unfold termV
  generalize avg s.l = r at *
  have R := R r
  generalize hq : wiB s.lm r = q at *
  clear hq
  obtain ⟨c0, -, -, -, -, c5⟩ := h.clk
  have HC : Hid (∀ W, Below w.heap.size w W → W.cell? ⟨g, 10, none⟩ = some (.int .i64 s.lm) ∧ W.cell? ⟨g, 15, none⟩ = some (.int .i64 (s.l.length : Nat))) := Lib.hid (fun W hW => by
    obtain ⟨c0, -, -, -, -, c5⟩ := (hT.out W hW).clk
    exact ⟨c0, c5⟩)
  have hb0 := Below.refl w.heap.size w
  have n1 : (0 : Int) ≤ (s.l.length : Nat) := by omega
  have n2 : ((s.l.length : Nat) : Int) ≤ 4 := by omega
  clear h hs hm
  go_enter Try.func82, Try.ntmps82
  go_wp2
  go_region_held3 (fun W => W.cell? ⟨g, 10, none⟩ = some (.int .i64 s.lm) ∧ W.cell? ⟨g, 15, none⟩ = some (.int .i64 (s.l.length : Nat)))
    ((refine HC.out _ ?_; first | exact hb0 | exact hb0.drew | exact hb1))
    (first
      | ((go_at_call 87; with_reducible refine (A1 _ ?_).out.mono ?_); (first | exact hb0 | exact hb0.drew); rintro e w1 ⟨rfl, hb⟩; have hb1 := hb0.drew.trans (hb.mono hb0.size))
      | fail)
  clear c0 c5
  obtain ⟨c0, c5⟩ := HC.out w1 hb1
  cases q
  · go_wp2_with fail
    refine (R w1).out.mono ?_
    rintro e w2 ⟨rfl, rfl⟩
    go_wp2
    go_ret2
    exact ⟨rfl, hb1⟩
  · go_wp2_with fail
    refine (R w1).out.mono ?_
    rintro e w2 ⟨rfl, rfl⟩
    go_wp2
    go_ret2
    exact ⟨rfl, hb1⟩
end Go.Proofs.Ytmlnkkalajnjhaa
