/- Texts GdA, GdB in one. For what each says in front of its theorems. -/
import Derived.Test.YtjoioojckekfhaaGreatVB9
/-! ### GdA -/
namespace Go.Proofs.YtjoioojckekfhaaGreat
open Go.RowKit
open Clk (avg)

/-- What a guardian holds. -/
structure G where
  sy : Nat → Bool
  n : Nat
  wi : Int
  lm : Int
  l : List Int
  now : Int
  kn : Bool
  slot : Nat
  si : Nat
/-- Its cells. -/
def grd (s : G) : Array Value := #[.bool (s.sy 0), .bool (s.sy 1), .bool (s.sy 2), .bool (s.sy 3), .bool (s.sy 4), .bool (s.sy 5), .bool (s.sy 6), .bool (s.sy 7), .int .i64 (s.n : Nat), .int .i64 s.wi,
  .int .i64 s.lm, .int .i64 (s.l.getD 0 0), .int .i64 (s.l.getD 1 0), .int .i64 (s.l.getD 2 0), .int .i64 (s.l.getD 3 0), .int .i64 (s.l.length : Nat), .int .i64 s.now, .bool s.kn, .int .i64 (s.slot : Nat), .int .i64 (s.si : Nat)]
def GAt (W : World) (g : Nat) (s : G) : Prop := Blk W g (grd s) 93 ∧ s.l.length ≤ 4
theorem GAt.below {W W' : World} {g : Nat} {s : G} (h : GAt W g s) {B : Nat} (hb : Below B W W') (hg : g < B) : GAt W' g s := ⟨h.1.below hb hg, h.2⟩
theorem GAt.only {W W' : World} {g g' : Nat} {s : G} (h : GAt W g s) (hb : Only g' W W') (hg : g ≠ g') : GAt W' g s := ⟨h.1.only hb hg, h.2⟩
theorem GAt.lt {W : World} {g : Nat} {s : G} (h : GAt W g s) : g < W.heap.size := h.1.lt
/-- The clock's cells. -/
theorem GAt.clk {W : World} {g : Nat} {s : G} (h : GAt W g s) : W.cell? ⟨g, 10, none⟩ = some (.int .i64 s.lm) ∧ W.cell? ⟨g, 11, none⟩ = some (.int .i64 (s.l.getD 0 0)) ∧ W.cell? ⟨g, 12, none⟩ = some (.int .i64 (s.l.getD 1 0)) ∧ W.cell? ⟨g, 13, none⟩ = some (.int .i64 (s.l.getD 2 0)) ∧ W.cell? ⟨g, 14, none⟩ = some (.int .i64 (s.l.getD 3 0)) ∧ W.cell? ⟨g, 15, none⟩ = some (.int .i64 (s.l.length : Nat)) :=
  ⟨h.1.cell 10 rfl, h.1.cell 11 rfl, h.1.cell 12 rfl, h.1.cell 13 rfl, h.1.cell 14 rfl, h.1.cell 15 rfl⟩
theorem GAt.frz {W : World} {g : Nat} {s : G} (h : GAt W g s) : W.frozen? ⟨g, 10, none⟩ = false ∧ W.frozen? ⟨g, 11, none⟩ = false ∧ W.frozen? ⟨g, 12, none⟩ = false ∧ W.frozen? ⟨g, 13, none⟩ = false ∧ W.frozen? ⟨g, 14, none⟩ = false ∧ W.frozen? ⟨g, 15, none⟩ = false :=
  ⟨h.1.frozen 10, h.1.frozen 11, h.1.frozen 12, h.1.frozen 13, h.1.frozen 14, h.1.frozen 15⟩

set_option maxRecDepth 100000 in
set_option maxHeartbeats 1000000 in
theorem clear_gd (g : Nat) (s : G) (w : World) (h : GAt w g s) :
    Calls Tryz.prog 72 #[.pointer (some ⟨g, 10, none⟩)] w fun e w' => e = .returned (.tuple #[]) ∧ GAt w' g { s with l := [] } ∧ Only g w w' := by
  obtain ⟨c0, c1, c2, c3, c4, c5⟩ := h.clk
  obtain ⟨f0, f1, f2, f3, f4, f5⟩ := h.frz
  have hB : Hid (Blk ((((((w.setCell ⟨g, 10, none⟩ (.int .i64 s.lm)).setCell ⟨g, 11, none⟩ (.int .i64 0)).setCell ⟨g, 12, none⟩ (.int .i64 0)).setCell ⟨g, 13, none⟩ (.int .i64 0)).setCell ⟨g, 14, none⟩ (.int .i64 0)).setCell ⟨g, 15, none⟩ (.int .i64 0)) g (grd { s with l := [] }) 93) := Lib.hid ((((((h.1.set 10 _).set 11 _).set 12 _).set 13 _).set 14 _).set 15 _)
  clear h
  go_enter Tryz.func72, Tryz.ntmps72
  go_wp2
  exact bodyPost_end (results_none (by rfl) _ _ _) rfl ⟨rfl, ⟨hB.out, by simp⟩, ((((((Only.refl g w).set 10 _).set 11 _).set 12 _).set 13 _).set 14 _).set 15 _⟩
theorem grd_full (s : G) (n : Int) (h4 : s.l.length = 4) : ((((((grd s).setIfInBounds 11 (.int .i64 (s.l.getD 1 0))).setIfInBounds 12 (.int .i64 (s.l.getD 2 0))).setIfInBounds 13 (.int .i64 (s.l.getD 3 0))).setIfInBounds 15 (.int .i64 3)).setIfInBounds 14 (.int .i64 n)).setIfInBounds 15 (.int .i64 4) = grd { s with l := s.l.drop 1 ++ [n] } := by
  obtain ⟨sy, nn, wi, lm, l, now, kn, slot, si⟩ := s
  simp only at h4 ⊢
  match l, h4 with
  | [p, q, r, s], _ => simp [grd]
set_option maxRecDepth 100000 in
set_option maxHeartbeats 1000000 in
theorem measure_full_gd (g : Nat) (s : G) (n : Int) (w : World) (h : GAt w g s) (h4 : s.l.length = 4) :
    Calls Tryz.prog 89 #[.pointer (some ⟨g, 10, none⟩), .int .i64 n] w fun e w' => e = .returned (.tuple #[]) ∧ GAt w' g { s with l := s.l.drop 1 ++ [n] } ∧ Only g w w' := by
  obtain ⟨c0, c1, c2, c3, c4, c5⟩ := h.clk
  obtain ⟨f0, f1, f2, f3, f4, f5⟩ := h.frz
  have c5' : w.cell? ⟨g, 15, none⟩ = some (.int .i64 4) := by rw [c5, h4]; rfl
  clear c5
  have hB : Hid (Blk ((((((w.setCell ⟨g, 11, none⟩ (.int .i64 (s.l.getD 1 0))).setCell ⟨g, 12, none⟩ (.int .i64 (s.l.getD 2 0))).setCell ⟨g, 13, none⟩ (.int .i64 (s.l.getD 3 0))).setCell ⟨g, 15, none⟩ (.int .i64 3)).setCell ⟨g, 14, none⟩ (.int .i64 n)).setCell ⟨g, 15, none⟩ (.int .i64 4)).drew.drew g (grd { s with l := s.l.drop 1 ++ [n] }) 93) := Lib.hid (((((((h.1.set 11 (.int .i64 (s.l.getD 1 0))).set 12 (.int .i64 (s.l.getD 2 0))).set 13 (.int .i64 (s.l.getD 3 0))).set 15 (.int .i64 3)).set 14 (.int .i64 n)).set 15 (.int .i64 4)).drew.drew.eq (grd_full s n h4))
  have H4 := Lib.hid h4
  clear h h4
  generalize s.l.getD 0 0 = a0 at *
  generalize s.l.getD 1 0 = a1 at *
  generalize s.l.getD 2 0 = a2 at *
  generalize s.l.getD 3 0 = a3 at *
  have hrun := run_copy_cells (P := Tryz.prog) w.drew 31 31 3 3 g 11 4 4 ⟨g, 12, none⟩ 3 3 [.int .i64 a1, .int .i64 a2, .int .i64 a3] Tryz.underlying31 (by kernel_rfl) (by simp) (fun j v hj => by
    match j, hj with
    | 0, hj => simp at hj; subst hj; exact c2
    | 1, hj => simp at hj; subst hj; exact c3
    | 2, hj => simp at hj; subst hj; exact c4
    | j + 3, hj => simp at hj) (fun j hj => by
    match j, hj with
    | 0, _ => show (w.cell? _).isSome = true; rw [c1]; rfl
    | 1, _ => show (w.cell? _).isSome = true; rw [c2]; rfl
    | 2, _ => show (w.cell? _).isSome = true; rw [c3]; rfl
    | j + 3, hj => simp at hj; omega) (fun j hj => by
    match j, hj with
    | 0, _ => exact f1
    | 1, _ => exact f2
    | 2, _ => exact f3
    | j + 3, hj => simp at hj; omega) (by simp [Value.oneCell'])
  simp [World.setCells] at hrun
  go_enter Tryz.func89, Tryz.ntmps89
  go_wp2
  go_region
  go_wp2
  go_region
  go_wp2
  exact bodyPost_end (results_none (by rfl) _ _ _) rfl ⟨rfl, ⟨hB.out, by have := H4.out; simp; omega⟩, (((((((Only.refl g w).set 11 _).set 12 _).set 13 _).set 15 _).set 14 _).set 15 _).drew.drew⟩
theorem grd_more (s : G) (n : Int) (k : Nat) (hk : s.l.length = k) (h4 : k < 4) : ((grd s).setIfInBounds (11 + k) (.int .i64 n)).setIfInBounds 15 (.int .i64 ((k : Int) + 1)) = grd { s with l := s.l ++ [n] } := by
  obtain ⟨sy, nn, wi, lm, l, now, kn, slot, si⟩ := s
  simp only at hk ⊢
  match l, hk, h4 with
  | [], rfl, _ => simp [grd]
  | [p], rfl, _ => simp [grd]
  | [p, q], rfl, _ => simp [grd]
  | [p, q, r], rfl, _ => simp [grd]
set_option maxRecDepth 100000 in
set_option maxHeartbeats 1000000 in
theorem measure_more_gd (g : Nat) (s : G) (n : Int) (w : World) (h : GAt w g s) (h4 : s.l.length < 4) :
    Calls Tryz.prog 89 #[.pointer (some ⟨g, 10, none⟩), .int .i64 n] w fun e w' => e = .returned (.tuple #[]) ∧ GAt w' g { s with l := s.l ++ [n] } ∧ Only g w w' := by
  obtain ⟨c0, c1, c2, c3, c4, c5⟩ := h.clk
  obtain ⟨f0, f1, f2, f3, f4, f5⟩ := h.frz
  have q4 : ((s.l.length : Int) == 4) = false := by rw [beq_eq_false_iff_ne]; omega
  have hB : Hid (Blk ((w.setCell ⟨g, 11 + s.l.length, none⟩ (.int .i64 n)).setCell ⟨g, 15, none⟩ (.int .i64 ((s.l.length : Int) + 1))).drew g (grd { s with l := s.l ++ [n] }) 93) := Lib.hid (((h.1.set (11 + s.l.length) (.int .i64 n)).set 15 (.int .i64 ((s.l.length : Int) + 1))).drew.eq (grd_more s n _ rfl h4))
  have ck : ∃ x, w.cell? ⟨g, 11 + s.l.length, none⟩ = some x := by
    rcases (by omega : s.l.length = 0 ∨ s.l.length = 1 ∨ s.l.length = 2 ∨ s.l.length = 3) with e | e | e | e <;> rw [e]
    · exact ⟨_, c1⟩
    · exact ⟨_, c2⟩
    · exact ⟨_, c3⟩
    · exact ⟨_, c4⟩
  have fk : w.frozen? ⟨g, 11 + s.l.length, none⟩ = false := h.1.frozen _
  obtain ⟨x, ck⟩ := ck
  clear h c0 c1 c2 c3 c4 f0 f1 f2 f3 f4
  go_enter Tryz.func89, Tryz.ntmps89
  go_wp2
  go_region
  go_wp2
  exact bodyPost_end (results_none (by rfl) _ _ _) rfl ⟨rfl, ⟨hB.out, by simp; omega⟩, (((Only.refl g w).set (11 + s.l.length) _).set 15 _).drew⟩
theorem measure_gd (g : Nat) (s : G) (n : Int) (w : World) (h : GAt w g s) :
    Calls Tryz.prog 89 #[.pointer (some ⟨g, 10, none⟩), .int .i64 n] w fun e w' => e = .returned (.tuple #[]) ∧ GAt w' g { s with l := keep4 s.l n } ∧ Only g w w' := by
  unfold keep4
  by_cases h4 : s.l.length = 4
  · rw [if_pos h4]; exact measure_full_gd g s n w h h4
  · rw [if_neg h4]; exact measure_more_gd g s n w h (by have := h.2; omega)
theorem GAt.sees {W : World} {g : Nat} {s : G} (h : GAt W g s) : SeesI W W.heap.size (.slice (some ⟨g, 11, none⟩) s.l.length 4) s.l := by
  refine ⟨some ⟨g, 11, none⟩, 4, rfl, h.2, by simp [maxLen], fun _ => ⟨g, 11, rfl, h.1.lt, fun k hk => ?_⟩, fun h => by cases h⟩
  obtain ⟨-, c1, c2, c3, c4, -⟩ := h.clk
  have := h.2
  rcases (by omega : k = 0 ∨ k = 1 ∨ k = 2 ∨ k = 3) with rfl | rfl | rfl | rfl
  · exact c1
  · exact c2
  · exact c3
  · exact c4
set_option maxRecDepth 100000 in
set_option maxHeartbeats 1000000 in
theorem term_gd (g : Nat) (s : G) (w : World) (h : GAt w g s) (hs : small s.l) (hm : 0 ≤ s.lm ∧ s.lm ≤ 9223372036854775807) :
    Calls Tryz.prog 141 #[.pointer (some ⟨g, 10, none⟩)] w fun e w' => e = .returned (.tuple #[.int .i64 (termV s.lm s.l), .bool (wiB s.lm (avg s.l))]) ∧ Below w.heap.size w w' := by
  have hT : Hid (∀ W, Below w.heap.size w W → GAt W g s) := Lib.hid (fun W hW => h.below hW h.1.lt)
  have A1 := fun W (hW : Below w.heap.size w W) => Lib.hid (avg_cl s.l _ W W.heap.size (Nat.le_refl _) (hT.out W hW).sees hs h.2)
  have R := fun n W => Lib.hid (reaches_cl s.lm n W hm)
  have hl4 := h.2
  unfold termV
  generalize avg s.l = r at *
  have R := R r
  generalize hq : wiB s.lm r = q at *
  clear hq
  obtain ⟨c0, -, -, -, -, c5⟩ := h.clk
  have HC : Hid (∀ W, Below w.heap.size w W → W.cell? ⟨g, 10, none⟩ = some (.int .i64 s.lm) ∧ W.cell? ⟨g, 15, none⟩ = some (.int .i64 (s.l.length : Nat))) := Lib.hid (fun W hW => by
    obtain ⟨c0, -, -, -, -, c5⟩ := (hT.out W hW).clk
    exact ⟨c0, c5⟩)
  have hb0 := Below.refl w.heap.size w
  have n1 : (0 : Int) ≤ (s.l.length : Nat) := by omega
  have n2 : ((s.l.length : Nat) : Int) ≤ 4 := by omega
  clear h hs hm
  go_enter Tryz.func141, Tryz.ntmps141
  go_wp2
  go_region_held3 (fun W => W.cell? ⟨g, 10, none⟩ = some (.int .i64 s.lm) ∧ W.cell? ⟨g, 15, none⟩ = some (.int .i64 (s.l.length : Nat)))
    ((refine HC.out _ ?_; first | exact hb0 | exact hb0.drew | exact hb1))
    (first
      | ((go_at_call 156; with_reducible refine (A1 _ ?_).out.mono ?_); (first | exact hb0 | exact hb0.drew); rintro e w1 ⟨rfl, hb⟩; have hb1 := hb0.drew.trans (hb.mono hb0.size))
      | fail)
  clear c0 c5
  obtain ⟨c0, c5⟩ := HC.out w1 hb1
  cases q
  · go_wp2_with fail
    refine (R w1).out.mono ?_
    rintro e w2 ⟨rfl, rfl⟩
    go_wp2
    go_ret2
    exact ⟨rfl, hb1⟩
  · go_wp2_with fail
    refine (R w1).out.mono ?_
    rintro e w2 ⟨rfl, rfl⟩
    go_wp2
    go_ret2
    exact ⟨rfl, hb1⟩
end Go.Proofs.YtjoioojckekfhaaGreat

/-! ### GdB -/
namespace Go.Proofs.YtjoioojckekfhaaGreat
open Go.RowKit
open Clk (avg)

def time (x : Int) : Prop := -2305843009213693952 ≤ x ∧ x ≤ 2305843009213693952
set_option maxRecDepth 100000 in
set_option maxHeartbeats 1000000 in
theorem less_gd (a b : Int) (w : World) (ha : time a) (hb : time b) :
    Calls Tryz.prog 152 #[.int .i64 a, .int .i64 b] w fun e w' => e = .returned (.int .i64 (a - b)) ∧ w = w' := by
  unfold time at ha hb
  have z1 : IntKind.i64.wrap (a - b) = a - b := IntWalk.i64_in _ (by omega)
  by_cases h : a < b
  · have q1 : decide (b ≤ a) = false := decide_eq_false (by omega)
    have q2 : decide (a < b) = true := decide_eq_true (by omega)
    have q3 : decide (0 ≤ a - b) = false := decide_eq_false (by omega)
    go_enter Tryz.func152, Tryz.ntmps152
    go_wp2
    go_ret
    exact ⟨rfl, rfl⟩
  · have q1 : decide (b ≤ a) = true := decide_eq_true (by omega)
    have q2 : decide (a < b) = false := decide_eq_false (by omega)
    have q3 : decide (a - b < 0) = false := decide_eq_false (by omega)
    go_enter Tryz.func152, Tryz.ntmps152
    go_wp2
    go_ret
    exact ⟨rfl, rfl⟩
def nearB (a b m : Int) : Bool := decide (-m ≤ a - b ∧ a - b ≤ m)
theorem u64_sub (a b : Int) (ha : time a) (hb : time b) (h : a ≤ b) : IntKind.u64.wrap (IntKind.u64.wrap b - IntKind.u64.wrap a) = b - a := by
  unfold time at ha hb
  have e : ∀ x, IntKind.u64.wrap x = x % 18446744073709551616 := fun x => rfl
  rw [e, e, e]
  omega
set_option maxRecDepth 100000 in
set_option maxHeartbeats 1000000 in
theorem near_gd (a b m : Int) (w : World) (ha : time a) (hb : time b) (hm : 0 ≤ m ∧ m ≤ 2305843009213693952) :
    Calls Tryz.prog 134 #[.int .i64 a, .int .i64 b, .int .i64 m] w fun e w' => e = .returned (.bool (nearB a b m)) ∧ w = w' := by
  have h1 := Lib.hid (u64_sub a b ha hb)
  have h2 := Lib.hid (u64_sub b a hb ha)
  unfold time at ha hb
  go_enter Tryz.func134, Tryz.ntmps134
  go_wp2
  all_goals
    go_ret
    refine ⟨?_, rfl⟩
    refine ret_bool ?_
    first
      | (rw [h1.out (by omega)]; unfold nearB; congr 1; apply propext; omega)
      | (rw [h2.out (by omega)]; unfold nearB; congr 1; apply propext; omega)
      | (rw [show IntKind.u64.wrap 0 = 0 from rfl]; unfold nearB; congr 1; apply propext; omega)
/-- The slot goes on. -/
def G.on (s : G) : G := if s.slot + 1 = s.n then { s with slot := 0, now := s.now + termV s.lm s.l, l := [] } else { s with slot := s.slot + 1 }
theorem grd_slot (s : G) (k : Nat) : (grd s).setIfInBounds 18 (.int .i64 (k : Nat)) = grd { s with slot := k } := by simp [grd]
theorem grd_now (s : G) (k : Int) : (grd s).setIfInBounds 16 (.int .i64 k) = grd { s with now := k } := by simp [grd]
theorem grd_si (s : G) (k : Nat) : (grd s).setIfInBounds 19 (.int .i64 (k : Nat)) = grd { s with si := k } := by simp [grd]
theorem grd_kn (s : G) (k : Bool) : (grd s).setIfInBounds 17 (.bool k) = grd { s with kn := k } := by simp [grd]
set_option maxRecDepth 100000 in
set_option maxHeartbeats 1000000 in
theorem goOn_gd (g : Nat) (s : G) (w : World) (h : GAt w g s) (hs : s.slot < s.n) (hn : s.n ≤ 8) (hsm : small s.l) (hm : 0 ≤ s.lm ∧ s.lm ≤ 9223372036854775807) (hnow : s.slot + 1 = s.n → time (s.now + termV s.lm s.l)) :
    Calls Tryz.prog 151 #[.pointer (some ⟨g, 0, none⟩)] w fun e w' => e = .returned (.tuple #[]) ∧ GAt w' g s.on ∧ Only g w w' := by
  have c8 := h.1.cell 8 (x := .int .i64 (s.n : Nat)) rfl
  have c18 := h.1.cell 18 (x := .int .i64 (s.slot : Nat)) rfl
  have f18 := h.1.frozen 18
  have z1 : IntKind.i64.wrap ((s.slot : Int) + 1) = (s.slot : Int) + 1 := IntWalk.i64_in _ (by omega)
  by_cases hc : s.slot + 1 = s.n
  · have z2 : Int.tmod ((s.slot : Int) + 1) (s.n : Int) = 0 := by rw [show ((s.slot : Int) + 1) = (s.n : Int) by omega]; simp
    have z3 : ¬ (s.n : Int) = 0 := by omega
    have H1 : Hid (GAt (w.setCell ⟨g, 18, none⟩ (.int .i64 0)).drew g { s with slot := 0 }) := Lib.hid ⟨((h.1.set 18 (.int .i64 (0 : Nat))).drew).eq (grd_slot s 0), h.2⟩
    go_enter Tryz.func151, Tryz.ntmps151
    go_wp2
    go_region
    have hO := Lib.hid (((Only.refl g w).set 18 (.int .i64 0)).drew)
    have c18' := H1.out.1.cell 18 (x := .int .i64 (0 : Nat)) rfl
    generalize hw1 : (w.setCell ⟨g, 18, none⟩ (.int .i64 0)).drew = w1 at *
    have hT := Lib.hid (term_gd g { s with slot := 0 } w1 H1.out hsm hm)
    have T0 := Lib.hid (hnow hc)
    simp only at hT
    generalize hv : termV s.lm s.l = v at *
    generalize wiB s.lm (avg s.l) = q at *
    go_wp2_with fail
    refine hT.out.mono ?_
    rintro e w2 ⟨rfl, hb2⟩
    have H2 := Lib.hid (H1.out.below hb2 H1.out.lt)
    have hO2 := Lib.hid (hO.out.trans (only_of_below g hb2))
    have c16 := H2.out.1.cell 16 (x := .int .i64 s.now) rfl
    have f16 := H2.out.1.frozen 16
    have z4 : IntKind.i64.wrap (s.now + v) = s.now + v := IntWalk.i64_in _ (by have := T0.out; unfold time at this; omega)
    have H3 := Lib.hid (show GAt (w2.setCell ⟨g, 16, none⟩ (.int .i64 (s.now + v))) g { s with slot := 0, now := s.now + v } from ⟨(H2.out.1.set 16 (.int .i64 (s.now + v))).eq (grd_now _ _), H2.out.2⟩)
    have hO3 := Lib.hid (hO2.out.set 16 (.int .i64 (s.now + v)))
    generalize hw3 : w2.setCell ⟨g, 16, none⟩ (.int .i64 (s.now + v)) = w3 at *
    go_wp2_with fail
    refine (clear_gd g _ _ H3.out).mono ?_
    rintro e w4 ⟨rfl, H4, hO4⟩
    go_wp2
    refine bodyPost_end (results_none (by rfl) _ _ _) rfl ⟨rfl, ?_, hO3.out.trans hO4⟩
    unfold G.on
    rw [if_pos hc, hv]
    exact H4
  · have e1 : ((s.slot + 1 : Nat) : Int) = (s.slot : Int) + 1 := by omega
    have z2 : Int.tmod ((s.slot : Int) + 1) (s.n : Int) = (s.slot : Int) + 1 := Int.tmod_eq_of_lt (by omega) (by omega)
    have z3 : ¬ (s.n : Int) = 0 := by omega
    have H1 : Hid (GAt (w.setCell ⟨g, 18, none⟩ (.int .i64 ((s.slot : Int) + 1))).drew g { s with slot := s.slot + 1 }) := Lib.hid ⟨((h.1.set 18 (.int .i64 ((s.slot : Int) + 1))).drew).eq (by rw [← e1]; exact grd_slot s (s.slot + 1)), h.2⟩
    have hO := Lib.hid (((Only.refl g w).set 18 (.int .i64 ((s.slot : Int) + 1))).drew)
    have z4 : (((s.slot : Int) + 1) == 0) = false := by rw [beq_eq_false_iff_ne]; omega
    go_enter Tryz.func151, Tryz.ntmps151
    go_wp2
    go_region
    go_wp2
    refine bodyPost_ret (results_none (by rfl) _ _ _) rfl ⟨rfl, ?_, hO.out⟩
    unfold G.on
    rw [if_neg hc]
    exact H1.out
theorem small.keep4 {l : List Int} (h : small l) {n : Int} (hn : -1099511627776 ≤ n ∧ n ≤ 1099511627776) : small (keep4 l n) := by
  unfold Go.Proofs.YtjoioojckekfhaaGreat.keep4
  split
  · intro x hx
    rcases List.mem_append.1 hx with h1 | h1
    · exact h x (List.mem_of_mem_drop h1)
    · simp at h1; subst h1; exact hn
  · intro x hx
    rcases List.mem_append.1 hx with h1 | h1
    · exact h x h1
    · simp at h1; subst h1; exact hn
/-- A slot with bytes. -/
def G.heard (s : G) (at_ : Int) : G := (if s.sy s.slot then { s with si := 0, l := keep4 s.l (at_ - s.now) } else { s with si := 0 }).on
/-- A slot without. -/
def G.missed (s : G) : G := if s.si + 1 = 2 * s.n then { s with si := s.si + 1, kn := false, slot := 0 } else ({ s with si := s.si + 1 } : G).on
theorem grd_sy (s : G) (k : Nat) (hk : k < 8) : (grd s)[k]? = some (.bool (s.sy k)) := by
  rcases (by omega : k = 0 ∨ k = 1 ∨ k = 2 ∨ k = 3 ∨ k = 4 ∨ k = 5 ∨ k = 6 ∨ k = 7) with rfl | rfl | rfl | rfl | rfl | rfl | rfl | rfl <;> rfl
set_option maxRecDepth 100000 in
set_option maxHeartbeats 1000000 in
theorem hear_gd (g : Nat) (s : G) (at_ : Int) (w : World) (h : GAt w g s) (hs : s.slot < s.n) (hn : s.n ≤ 8) (hsm : small s.l) (hm : 0 ≤ s.lm ∧ s.lm ≤ 9223372036854775807)
    (hat : time at_) (hnw : time s.now) (hd : s.sy s.slot = true → -1099511627776 ≤ at_ - s.now ∧ at_ - s.now ≤ 1099511627776) (hnow : s.slot + 1 = s.n → time (s.now + termV s.lm (if s.sy s.slot then keep4 s.l (at_ - s.now) else s.l))) :
    Calls Tryz.prog 138 #[.pointer (some ⟨g, 0, none⟩), .int .i64 at_] w fun e w' => e = .returned (.tuple #[]) ∧ GAt w' g (s.heard at_) ∧ Only g w w' := by
  have f19 := h.1.frozen 19
  have c19 := h.1.cell 19 (x := .int .i64 (s.si : Nat)) rfl
  have H1 : Hid (GAt (w.setCell ⟨g, 19, none⟩ (.int .i64 0)) g { s with si := 0 }) := Lib.hid ⟨(h.1.set 19 (.int .i64 ((0 : Nat) : Int))).eq (grd_si s 0), h.2⟩
  have hO1 := Lib.hid ((Only.refl g w).set 19 (.int .i64 0))
  generalize hw1 : w.setCell ⟨g, 19, none⟩ (.int .i64 0) = w1 at *
  have c18 := H1.out.1.cell 18 (x := .int .i64 (s.slot : Nat)) rfl
  have cs := H1.out.1.cell s.slot (grd_sy _ s.slot (by omega))
  simp only at cs
  have hN := Lib.hid hnow
  have i1 : (0 : Int) ≤ (s.slot : Int) := by omega
  have i2 : (s.slot : Int) < 8 := by omega
  clear h hnow
  unfold G.heard
  cases hq : s.sy s.slot
  · rw [hq] at hN cs
    go_enter Tryz.func138, Tryz.ntmps138
    go_wp2
    go_region
    have H2 : GAt w1.drew g { s with si := 0 } := H1.out
    go_wp2_with fail
    refine (goOn_gd g _ _ H2 hs hn hsm hm (fun h => by simpa using hN.out h)).mono ?_
    rintro e w4 ⟨rfl, H4, hO4⟩
    go_wp2
    exact bodyPost_end (results_none (by rfl) _ _ _) rfl ⟨rfl, H4, hO1.out.drew.trans hO4⟩
  · rw [hq] at hN cs
    have hLs := fun W => Lib.hid (less_gd at_ s.now W hat hnw)
    have hM := fun W (h : GAt W g { s with si := 0 }) => Lib.hid (measure_gd g _ (at_ - s.now) W h)
    have hK := Lib.hid (hsm.keep4 (hd hq))
    have c16 := H1.out.1.cell 16 (x := .int .i64 s.now) rfl
    simp only at hM
    generalize hl2 : keep4 s.l (at_ - s.now) = l2 at *
    clear hd
    go_enter Tryz.func138, Tryz.ntmps138
    go_wp2
    go_region
    go_wp2
    go_region_with (first
      | (go_at_call 152; refine (hLs _).out.mono ?_; rintro e w2 ⟨rfl, rfl⟩)
      | (go_at_call 89; refine (hM w1.drew.drew H1.out).out.mono ?_; rintro e w2 ⟨rfl, H2, hO2⟩))
    go_wp2_with fail
    refine (goOn_gd g _ _ H2 hs hn hK.out hm (fun h => by simpa using hN.out h)).mono ?_
    rintro e w4 ⟨rfl, H4, hO4⟩
    go_wp2
    exact bodyPost_end (results_none (by rfl) _ _ _) rfl ⟨rfl, H4, (hO1.out.drew.drew.trans hO2).trans hO4⟩
set_option maxRecDepth 100000 in
set_option maxHeartbeats 1000000 in
theorem miss_gd (g : Nat) (s : G) (w : World) (h : GAt w g s) (hs : s.slot < s.n) (hn : s.n ≤ 8) (hsm : small s.l) (hm : 0 ≤ s.lm ∧ s.lm ≤ 9223372036854775807) (hsi : s.si ≤ 1000)
    (hnow : s.slot + 1 = s.n → time (s.now + termV s.lm s.l)) :
    Calls Tryz.prog 139 #[.pointer (some ⟨g, 0, none⟩)] w fun e w' => e = .returned (.tuple #[]) ∧ GAt w' g s.missed ∧ Only g w w' := by
  have f19 := h.1.frozen 19
  have c19 := h.1.cell 19 (x := .int .i64 (s.si : Nat)) rfl
  have e1 : ((s.si + 1 : Nat) : Int) = (s.si : Int) + 1 := by omega
  have z1 : IntKind.i64.wrap ((s.si : Int) + 1) = (s.si : Int) + 1 := IntWalk.i64_in _ (by omega)
  have z2 : IntKind.i64.wrap (2 * (s.n : Int)) = 2 * (s.n : Int) := IntWalk.i64_in _ (by omega)
  have H1 : Hid (GAt (w.setCell ⟨g, 19, none⟩ (.int .i64 ((s.si : Int) + 1))) g { s with si := s.si + 1 }) := Lib.hid ⟨(h.1.set 19 (.int .i64 ((s.si : Int) + 1))).eq (by rw [← e1]; exact grd_si s (s.si + 1)), h.2⟩
  have hO1 := Lib.hid ((Only.refl g w).set 19 (.int .i64 ((s.si : Int) + 1)))
  generalize hw1 : w.setCell ⟨g, 19, none⟩ (.int .i64 ((s.si : Int) + 1)) = w1 at *
  have c8 := H1.out.1.cell 8 (x := .int .i64 (s.n : Nat)) rfl
  have d19 : w1.cell? ⟨g, 19, none⟩ = some (.int .i64 ((s.si : Int) + 1)) := by rw [← e1]; exact H1.out.1.cell 19 rfl
  have hN := Lib.hid hnow
  clear h hnow
  unfold G.missed
  by_cases hq : s.si + 1 = 2 * s.n
  · rw [if_pos hq]
    have q1 : ((s.si : Int) + 1 == 2 * (s.n : Int)) = true := by rw [beq_iff_eq]; omega
    have f17 := H1.out.1.frozen 17
    have f18 := H1.out.1.frozen 18
    have c17 := H1.out.1.cell 17 (x := .bool s.kn) rfl
    have c18 := H1.out.1.cell 18 (x := .int .i64 (s.slot : Nat)) rfl
    have H2 : Hid (GAt ((w1.drew.setCell ⟨g, 17, none⟩ (.bool false)).setCell ⟨g, 18, none⟩ (.int .i64 0)) g { s with si := s.si + 1, kn := false, slot := 0 }) := Lib.hid ⟨((H1.out.1.drew.set 17 (.bool false)).set 18 (.int .i64 ((0 : Nat) : Int))).eq (by rw [grd_kn, grd_slot]), H1.out.2⟩
    go_enter Tryz.func139, Tryz.ntmps139
    go_wp2
    go_region
    go_wp2
    exact bodyPost_ret (results_none (by rfl) _ _ _) rfl ⟨rfl, H2.out, (hO1.out.drew.set 17 _).set 18 _⟩
  · rw [if_neg hq]
    have q1 : ((s.si : Int) + 1 == 2 * (s.n : Int)) = false := by rw [beq_eq_false_iff_ne]; omega
    go_enter Tryz.func139, Tryz.ntmps139
    go_wp2
    go_region
    have H2 : GAt w1.drew g { s with si := s.si + 1 } := H1.out
    go_wp2_with fail
    refine (goOn_gd g _ _ H2 hs hn hsm hm hN.out).mono ?_
    rintro e w4 ⟨rfl, H4, hO4⟩
    go_wp2
    exact bodyPost_end (results_none (by rfl) _ _ _) rfl ⟨rfl, H4, hO1.out.drew.trans hO4⟩
set_option maxRecDepth 100000 in
set_option maxHeartbeats 1000000 in
theorem end_nil (v : Value) (x : Int) (w : World) :
    Calls Tryz.prog 111 #[.pointer none, v, .int .i64 x] w fun e w' => e = .returned (.tuple #[]) ∧ w = w' := by
  go_enter Tryz.func111, Tryz.ntmps111
  go_wp2
  first | exact bodyPost_ret (results_none (by rfl) _ _ _) rfl ⟨rfl, rfl⟩ | exact bodyPost_end (results_none (by rfl) _ _ _) rfl ⟨rfl, rfl⟩ | fail
end Go.Proofs.YtjoioojckekfhaaGreat
