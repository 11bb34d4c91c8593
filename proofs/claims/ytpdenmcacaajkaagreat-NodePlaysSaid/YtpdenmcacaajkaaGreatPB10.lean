/- Texts ClE, TlMath in one. For what each says in front of its theorems. -/
import Derived.Laws.IdiomCopy
import Derived.Test.YtpdenmcacaajkaaGreatPB1
import Derived.Test.YtpdenmcacaajkaaGreatPB9
/-! ### ClE -/
namespace Go.Proofs.YtpdenmcacaajkaaGreat
open Go.RowKit
open Clk (avg)

/-- A clock's cells. -/
def clk (m : Int) (l : List Int) : Array Value := #[.int .i64 m, .int .i64 (l.getD 0 0), .int .i64 (l.getD 1 0), .int .i64 (l.getD 2 0), .int .i64 (l.getD 3 0), .int .i64 (l.length : Nat)]
/-- A clock in memory. -/
def ClkAt (W : World) (g : Nat) (m : Int) (l : List Int) : Prop := Blk W g (clk m l) 63 ∧ l.length ≤ 4
theorem ClkAt.cells {W : World} {g : Nat} {m : Int} {l : List Int} (h : ClkAt W g m l) : W.cell? ⟨g, 0, none⟩ = some (.int .i64 m) ∧ W.cell? ⟨g, 1, none⟩ = some (.int .i64 (l.getD 0 0)) ∧ W.cell? ⟨g, 2, none⟩ = some (.int .i64 (l.getD 1 0)) ∧ W.cell? ⟨g, 3, none⟩ = some (.int .i64 (l.getD 2 0)) ∧ W.cell? ⟨g, 4, none⟩ = some (.int .i64 (l.getD 3 0)) ∧ W.cell? ⟨g, 5, none⟩ = some (.int .i64 (l.length : Nat)) :=
  ⟨h.1.cell 0 rfl, h.1.cell 1 rfl, h.1.cell 2 rfl, h.1.cell 3 rfl, h.1.cell 4 rfl, h.1.cell 5 rfl⟩
theorem ClkAt.frz {W : World} {g : Nat} {m : Int} {l : List Int} (h : ClkAt W g m l) : W.frozen? ⟨g, 0, none⟩ = false ∧ W.frozen? ⟨g, 1, none⟩ = false ∧ W.frozen? ⟨g, 2, none⟩ = false ∧ W.frozen? ⟨g, 3, none⟩ = false ∧ W.frozen? ⟨g, 4, none⟩ = false ∧ W.frozen? ⟨g, 5, none⟩ = false :=
  ⟨h.1.frozen 0, h.1.frozen 1, h.1.frozen 2, h.1.frozen 3, h.1.frozen 4, h.1.frozen 5⟩
theorem ClkAt.below {W W' : World} {g : Nat} {m : Int} {l : List Int} (h : ClkAt W g m l) {B : Nat} (hb : Below B W W') (hg : g < B) : ClkAt W' g m l := ⟨h.1.below hb hg, h.2⟩
theorem blk6 {X : World} {g : Nat} {a b c d e f a' b' c' d' e' f' : Value} {t : TypeId} (h : Blk X g #[a, b, c, d, e, f] t) : Blk ((((((X.setCell ⟨g, 0, none⟩ a').setCell ⟨g, 1, none⟩ b').setCell ⟨g, 2, none⟩ c').setCell ⟨g, 3, none⟩ d').setCell ⟨g, 4, none⟩ e').setCell ⟨g, 5, none⟩ f') g #[a', b', c', d', e', f'] t := by
  have := (((((h.set 0 a').set 1 b').set 2 c').set 3 d').set 4 e').set 5 f'
  simpa using this
theorem clk_full (m n : Int) (l : List Int) (h4 : l.length = 4) : ((((((clk m l).setIfInBounds 1 (.int .i64 (l.getD 1 0))).setIfInBounds 2 (.int .i64 (l.getD 2 0))).setIfInBounds 3 (.int .i64 (l.getD 3 0))).setIfInBounds 5 (.int .i64 3)).setIfInBounds 4 (.int .i64 n)).setIfInBounds 5 (.int .i64 4) = clk m (l.drop 1 ++ [n]) := by
  match l, h4 with
  | [p, q, r, s], _ => simp [clk]
/-- What is kept of more than four. -/
def keep4 (l : List Int) (n : Int) : List Int := if l.length = 4 then l.drop 1 ++ [n] else l ++ [n]

set_option maxRecDepth 100000 in
set_option maxHeartbeats 1000000 in
theorem new_cl (m : Int) (w : World) :
    Calls Tryz.prog 19 #[.int .i64 m] w fun e w' => e = .returned (.pointer (some ⟨w.heap.size, 0, none⟩)) ∧ ClkAt w' w.heap.size m [] ∧ Below w.heap.size w w' ∧ w'.heap.size = w.heap.size + 1 := by
  go_enter Tryz.func19, Tryz.ntmps19
  go_wp2
  go_ret
  exact ⟨rfl, ⟨Blk.new _ _ rfl _ _, by simp⟩, (Below.refl _ _).alloc (Nat.le_refl _) _, by simp⟩

set_option maxRecDepth 100000 in
set_option maxHeartbeats 1000000 in
theorem clear_cl (g : Nat) (m : Int) (l : List Int) (w : World) (h : ClkAt w g m l) :
    Calls Tryz.prog 58 #[.pointer (some ⟨g, 0, none⟩)] w fun e w' => e = .returned (.tuple #[]) ∧ ClkAt w' g m [] ∧ Only g w w' := by
  obtain ⟨c0, c1, c2, c3, c4, c5⟩ := h.cells
  obtain ⟨f0, f1, f2, f3, f4, f5⟩ := h.frz
  have hB := Lib.hid h.1
  clear h
  go_enter Tryz.func58, Tryz.ntmps58
  go_wp2
  exact bodyPost_end (results_none (by rfl) _ _ _) rfl ⟨rfl, ⟨blk6 hB.out, by simp⟩, ((((((Only.refl g w).set 0 _).set 1 _).set 2 _).set 3 _).set 4 _).set 5 _⟩
set_option maxRecDepth 100000 in
set_option maxHeartbeats 1000000 in
theorem measure_full (g : Nat) (m : Int) (l : List Int) (n : Int) (w : World) (h : ClkAt w g m l) (h4 : l.length = 4) :
    Calls Tryz.prog 79 #[.pointer (some ⟨g, 0, none⟩), .int .i64 n] w fun e w' => e = .returned (.tuple #[]) ∧ ClkAt w' g m (l.drop 1 ++ [n]) ∧ Only g w w' := by
  obtain ⟨c0, c1, c2, c3, c4, c5⟩ := h.cells
  obtain ⟨f0, f1, f2, f3, f4, f5⟩ := h.frz
  have c5' : w.cell? ⟨g, 5, none⟩ = some (.int .i64 4) := by rw [c5, h4]; rfl
  clear c5
  have hB : Hid (Blk ((((((w.setCell ⟨g, 1, none⟩ (.int .i64 (l.getD 1 0))).setCell ⟨g, 2, none⟩ (.int .i64 (l.getD 2 0))).setCell ⟨g, 3, none⟩ (.int .i64 (l.getD 3 0))).setCell ⟨g, 5, none⟩ (.int .i64 3)).setCell ⟨g, 4, none⟩ (.int .i64 n)).setCell ⟨g, 5, none⟩ (.int .i64 4)).drew.drew g (clk m (l.drop 1 ++ [n])) 63) := Lib.hid (((((((h.1.set 1 (.int .i64 (l.getD 1 0))).set 2 (.int .i64 (l.getD 2 0))).set 3 (.int .i64 (l.getD 3 0))).set 5 (.int .i64 3)).set 4 (.int .i64 n)).set 5 (.int .i64 4)).drew.drew.eq (clk_full m n l h4))
  have H4 := Lib.hid h4
  clear h h4
  generalize l.getD 0 0 = a0 at *
  generalize l.getD 1 0 = a1 at *
  generalize l.getD 2 0 = a2 at *
  generalize l.getD 3 0 = a3 at *
  have hrun := run_copy_cells (P := Tryz.prog) w.drew 46 46 3 3 g 1 4 4 ⟨g, 2, none⟩ 3 3 [.int .i64 a1, .int .i64 a2, .int .i64 a3] Tryz.underlying46 (by kernel_rfl) (by simp) (fun j v hj => by
    match j, hj with
    | 0, hj => simp at hj; subst hj; exact c2
    | 1, hj => simp at hj; subst hj; exact c3
    | 2, hj => simp at hj; subst hj; exact c4
    | j + 3, hj => simp at hj) (fun j hj => by
    match j, hj with
    | 0, _ => show (w.cell? _).isSome = true; rw [c1]; rfl
    | 1, _ => show (w.cell? _).isSome = true; rw [c2]; rfl
    | 2, _ => show (w.cell? _).isSome = true; rw [c3]; rfl
    | j + 3, hj => simp at hj; omega) (fun j hj => by
    match j, hj with
    | 0, _ => exact f1
    | 1, _ => exact f2
    | 2, _ => exact f3
    | j + 3, hj => simp at hj; omega) (by simp [Value.oneCell'])
  simp [World.setCells] at hrun
  go_enter Tryz.func79, Tryz.ntmps79
  go_wp2
  go_region
  go_wp2
  go_region
  go_wp2
  exact bodyPost_end (results_none (by rfl) _ _ _) rfl ⟨rfl, ⟨hB.out, by have := H4.out; simp; omega⟩, (((((((Only.refl g w).set 1 _).set 2 _).set 3 _).set 5 _).set 4 _).set 5 _).drew.drew⟩
theorem clk_more (m n : Int) (l : List Int) (k : Nat) (hk : l.length = k) (h4 : k < 4) : ((clk m l).setIfInBounds (1 + k) (.int .i64 n)).setIfInBounds 5 (.int .i64 ((k : Int) + 1)) = clk m (l ++ [n]) := by
  match l, hk, h4 with
  | [], rfl, _ => simp [clk]
  | [p], rfl, _ => simp [clk]
  | [p, q], rfl, _ => simp [clk]
  | [p, q, r], rfl, _ => simp [clk]
set_option maxRecDepth 100000 in
set_option maxHeartbeats 1000000 in
theorem measure_more (g : Nat) (m : Int) (l : List Int) (n : Int) (w : World) (h : ClkAt w g m l) (h4 : l.length < 4) :
    Calls Tryz.prog 79 #[.pointer (some ⟨g, 0, none⟩), .int .i64 n] w fun e w' => e = .returned (.tuple #[]) ∧ ClkAt w' g m (l ++ [n]) ∧ Only g w w' := by
  obtain ⟨c0, c1, c2, c3, c4, c5⟩ := h.cells
  obtain ⟨f0, f1, f2, f3, f4, f5⟩ := h.frz
  have q4 : ((l.length : Int) == 4) = false := by rw [beq_eq_false_iff_ne]; omega
  have hB : Hid (Blk ((w.setCell ⟨g, 1 + l.length, none⟩ (.int .i64 n)).setCell ⟨g, 5, none⟩ (.int .i64 ((l.length : Int) + 1))).drew g (clk m (l ++ [n])) 63) := Lib.hid (((h.1.set (1 + l.length) (.int .i64 n)).set 5 (.int .i64 ((l.length : Int) + 1))).drew.eq (clk_more m n l _ rfl h4))
  have ck : ∃ x, w.cell? ⟨g, 1 + l.length, none⟩ = some x := by
    rcases (by omega : l.length = 0 ∨ l.length = 1 ∨ l.length = 2 ∨ l.length = 3) with e | e | e | e <;> rw [e]
    · exact ⟨_, c1⟩
    · exact ⟨_, c2⟩
    · exact ⟨_, c3⟩
    · exact ⟨_, c4⟩
  have fk : w.frozen? ⟨g, 1 + l.length, none⟩ = false := h.1.frozen _
  obtain ⟨x, ck⟩ := ck
  clear h c0 c1 c2 c3 c4 f0 f1 f2 f3 f4
  go_enter Tryz.func79, Tryz.ntmps79
  go_wp2
  go_region
  go_wp2
  exact bodyPost_end (results_none (by rfl) _ _ _) rfl ⟨rfl, ⟨hB.out, by simp; omega⟩, (((Only.refl g w).set (1 + l.length) _).set 5 _).drew⟩
theorem measure_cl (g : Nat) (m : Int) (l : List Int) (n : Int) (w : World) (h : ClkAt w g m l) :
    Calls Tryz.prog 79 #[.pointer (some ⟨g, 0, none⟩), .int .i64 n] w fun e w' => e = .returned (.tuple #[]) ∧ ClkAt w' g m (keep4 l n) ∧ Only g w w' := by
  unfold keep4
  by_cases h4 : l.length = 4
  · rw [if_pos h4]; exact measure_full g m l n w h h4
  · rw [if_neg h4]; exact measure_more g m l n w h (by have := h.2; omega)
theorem ClkAt.sees {W : World} {g : Nat} {m : Int} {l : List Int} (h : ClkAt W g m l) : SeesI W W.heap.size (.slice (some ⟨g, 1, none⟩) l.length 4) l := by
  refine ⟨some ⟨g, 1, none⟩, 4, rfl, h.2, by simp [maxLen], fun _ => ⟨g, 1, rfl, h.1.lt, fun k hk => ?_⟩, fun h => by cases h⟩
  obtain ⟨-, c1, c2, c3, c4, -⟩ := h.cells
  have := h.2
  rcases (by omega : k = 0 ∨ k = 1 ∨ k = 2 ∨ k = 3) with rfl | rfl | rfl | rfl
  · exact c1
  · exact c2
  · exact c3
  · exact c4
/-- By how much it is turned. -/
def termV (m : Int) (l : List Int) : Int := if wiB m (avg l) then avg l else 0
set_option maxRecDepth 100000 in
set_option maxHeartbeats 1000000 in
theorem term_cl (g : Nat) (m : Int) (l : List Int) (w : World) (h : ClkAt w g m l) (hs : small l) (hm : 0 ≤ m ∧ m ≤ 9223372036854775807) :
    Calls Tryz.prog 149 #[.pointer (some ⟨g, 0, none⟩)] w fun e w' => e = .returned (.tuple #[.int .i64 (termV m l), .bool (wiB m (avg l))]) ∧ Below w.heap.size w w' := by
  have hT : Hid (∀ W, Below w.heap.size w W → ClkAt W g m l) := Lib.hid (fun W hW => h.below hW h.1.lt)
  have A1 := fun W (hW : Below w.heap.size w W) => Lib.hid (avg_cl l _ W W.heap.size (Nat.le_refl _) (hT.out W hW).sees hs h.2)
  have R := fun n W => Lib.hid (reaches_cl m n W hm)
  have hl4 := h.2
  unfold termV
  generalize avg l = r at *
  have R := R r
  generalize hq : wiB m r = q at *
  clear hq
  obtain ⟨c0, -, -, -, -, c5⟩ := h.cells
  have HC : Hid (∀ W, Below w.heap.size w W → W.cell? ⟨g, 0, none⟩ = some (.int .i64 m) ∧ W.cell? ⟨g, 5, none⟩ = some (.int .i64 (l.length : Nat))) := Lib.hid (fun W hW => by
    obtain ⟨c0, -, -, -, -, c5⟩ := (hT.out W hW).cells
    exact ⟨c0, c5⟩)
  have hb0 := Below.refl w.heap.size w
  have n1 : (0 : Int) ≤ (l.length : Nat) := by omega
  have n2 : ((l.length : Nat) : Int) ≤ 4 := by omega
  clear h hs hm
  go_enter Tryz.func149, Tryz.ntmps149
  go_wp2
  go_region_held3 (fun W => W.cell? ⟨g, 0, none⟩ = some (.int .i64 m) ∧ W.cell? ⟨g, 5, none⟩ = some (.int .i64 (l.length : Nat)))
    ((refine HC.out _ ?_; first | exact hb0 | exact hb0.drew | exact hb1))
    (first
      | ((go_at_call 168; with_reducible refine (A1 _ ?_).out.mono ?_); (first | exact hb0 | exact hb0.drew); rintro e w1 ⟨rfl, hb⟩; have hb1 := hb0.drew.trans (hb.mono hb0.size))
      | fail)
  clear c0 c5
  obtain ⟨c0, c5⟩ := HC.out w1 hb1
  cases q
  · go_wp2_with fail
    refine (R w1).out.mono ?_
    rintro e w2 ⟨rfl, rfl⟩
    go_wp2
    go_ret2
    exact ⟨rfl, hb1⟩
  · go_wp2_with fail
    refine (R w1).out.mono ?_
    rintro e w2 ⟨rfl, rfl⟩
    go_wp2
    go_ret2
    exact ⟨rfl, hb1⟩
end Go.Proofs.YtpdenmcacaajkaaGreat

/-! ### TlMath -/
namespace Go.Proofs.YtpdenmcacaajkaaGreat
open Go.RowKit

/-- A bit more. -/
def ins (m k : Nat) : Nat := m ||| 2 ^ k
/-- A bit less. -/
def del (m k : Nat) : Nat := if m.testBit k then m - 2 ^ k else m
theorem ins_lt {m k : Nat} (hm : m < 256) (hk : k < 8) : ins m k < 256 := by
  have : ∀ (a : Fin 256) (b : Fin 8), ins a.val b.val < 256 := by decide +kernel
  exact this ⟨m, hm⟩ ⟨k, hk⟩
theorem del_lt {m k : Nat} (hm : m < 256) : del m k < 256 := by
  unfold del; split
  · exact Nat.lt_of_le_of_lt (Nat.sub_le _ _) hm
  · exact hm
theorem ins_has {m k : Nat} (hm : m < 256) (hk : k < 8) : (ins m k).testBit k = true := by
  have : ∀ (a : Fin 256) (b : Fin 8), (ins a.val b.val).testBit b.val = true := by decide +kernel
  exact this ⟨m, hm⟩ ⟨k, hk⟩
theorem del_has {m k : Nat} (hm : m < 256) (hk : k < 8) : (del m k).testBit k = false := by
  have : ∀ (a : Fin 256) (b : Fin 8), (del a.val b.val).testBit b.val = false := by decide +kernel
  exact this ⟨m, hm⟩ ⟨k, hk⟩
theorem ins_del {m k : Nat} (hm : m < 256) (hk : k < 8) : ins (del m k) k = ins m k := by
  have : ∀ (a : Fin 256) (b : Fin 8), ins (del a.val b.val) b.val = ins a.val b.val := by decide +kernel
  exact this ⟨m, hm⟩ ⟨k, hk⟩
theorem or_ins {m k : Nat} (hm : m < 256) (hk : k < 8) : bits BinOp.or IntKind.i64 (m : Nat) ((2 ^ k : Nat) : Int) = (ins m k : Nat) := by
  have : ∀ (a : Fin 256) (b : Fin 8), bits BinOp.or IntKind.i64 (a.val : Nat) ((2 ^ b.val : Nat) : Int) = (ins a.val b.val : Nat) := by decide +kernel
  exact this ⟨m, hm⟩ ⟨k, hk⟩
theorem andNot_del {m k : Nat} (hm : m < 256) (hk : k < 8) : bits BinOp.andNot IntKind.i64 (m : Nat) ((2 ^ k : Nat) : Int) = (del m k : Nat) := by
  have : ∀ (a : Fin 256) (b : Fin 8), bits BinOp.andNot IntKind.i64 (a.val : Nat) ((2 ^ b.val : Nat) : Int) = (del a.val b.val : Nat) := by decide +kernel
  exact this ⟨m, hm⟩ ⟨k, hk⟩
theorem or_nought {m : Nat} (hm : m < 256) : bits BinOp.or IntKind.i64 (m : Nat) 0 = (m : Nat) := by
  have : ∀ (a : Fin 256), bits BinOp.or IntKind.i64 (a.val : Nat) 0 = (a.val : Nat) := by decide +kernel
  exact this ⟨m, hm⟩
theorem andNot_nought {m : Nat} (hm : m < 256) : bits BinOp.andNot IntKind.i64 (m : Nat) 0 = (m : Nat) := by
  have : ∀ (a : Fin 256), bits BinOp.andNot IntKind.i64 (a.val : Nat) 0 = (a.val : Nat) := by decide +kernel
  exact this ⟨m, hm⟩
theorem and_nought {m : Nat} (hm : m < 256) : bits BinOp.and IntKind.i64 (m : Nat) 0 = 0 := by
  have : ∀ (a : Fin 256), bits BinOp.and IntKind.i64 (a.val : Nat) 0 = 0 := by decide +kernel
  exact this ⟨m, hm⟩
/-- One bit: is it there? -/
theorem and_bit {m k : Nat} (hm : m < 256) (hk : k < 8) : bits BinOp.and IntKind.i64 (m : Nat) ((2 ^ k : Nat) : Int) = if m.testBit k then ((2 ^ k : Nat) : Int) else 0 := by
  have : ∀ (a : Fin 256) (b : Fin 8), bits BinOp.and IntKind.i64 (a.val : Nat) ((2 ^ b.val : Nat) : Int) = if a.val.testBit b.val then ((2 ^ b.val : Nat) : Int) else 0 := by decide +kernel
  exact this ⟨m, hm⟩ ⟨k, hk⟩
theorem and_low (a : Int) : bits BinOp.and IntKind.i64 a 255 = ((a % 256).toNat : Nat) := by
  have h8 : (BitVec.ofInt 64 255).toNat = 2 ^ 8 - 1 := by decide
  show IntKind.i64.wrap (((BitVec.ofInt 64 a) &&& (BitVec.ofInt 64 255)).toNat : Int) = _
  rw [BitVec.toNat_and, h8, Nat.and_two_pow_sub_one_eq_mod, BitVec.toNat_ofInt, IntKind.wrap_i64]
  omega
theorem and_one64 (a : Int) : bits BinOp.and IntKind.i64 a 1 = a % 2 := by
  have h8 : (BitVec.ofInt 64 1).toNat = 2 ^ 1 - 1 := by decide
  show IntKind.i64.wrap (((BitVec.ofInt 64 a) &&& (BitVec.ofInt 64 1)).toNat : Int) = _
  rw [BitVec.toNat_and, h8, Nat.and_two_pow_sub_one_eq_mod, BitVec.toNat_ofInt, IntKind.wrap_i64]
  omega
theorem cast_pow (k : Nat) : ((2 ^ k : Nat) : Int) = (2 : Int) ^ k := by simp
theorem wrap_pow {k : Nat} (hk : k < 8) : wrap64 ((2 : Int) ^ k) = (2 : Int) ^ k := by
  have : ∀ (b : Fin 8), wrap64 ((2 : Int) ^ b.val) = (2 : Int) ^ b.val := by decide +kernel
  exact this ⟨k, hk⟩
/-- As a walk spells them. -/
theorem or_w {m k : Nat} (hm : m < 256) (hk : k < 8) : bits BinOp.or IntKind.i64 (m : Nat) (wrap64 ((2 : Int) ^ k)) = (ins m k : Nat) := by
  rw [wrap_pow hk, ← cast_pow]; exact or_ins hm hk
theorem andNot_w {m k : Nat} (hm : m < 256) (hk : k < 8) : bits BinOp.andNot IntKind.i64 (m : Nat) (wrap64 ((2 : Int) ^ k)) = (del m k : Nat) := by
  rw [wrap_pow hk, ← cast_pow]; exact andNot_del hm hk
theorem is_w (m k : Nat) : (bits BinOp.and IntKind.i64 ((m : Int) / (2 : Int) ^ k) 1 == 1) = m.testBit k := by
  rw [and_one64, ← cast_pow, ← Int.natCast_ediv, Nat.testBit_eq_decide_div_mod_eq]
  by_cases h : m / 2 ^ k % 2 = 1
  · rw [decide_eq_true h, beq_iff_eq]; omega
  · rw [decide_eq_false h, beq_eq_false_iff_ne]; omega
theorem low_lt (a : Int) : (a % 256).toNat < 256 := by omega

/-- Members, and both counts. -/
structure TS where
  m : Nat
  a : Nat
  f : Nat
deriving DecidableEq
def TS.join (s : TS) (n : Int) : TS := if 0 ≤ n ∧ n < 8 then { s with m := ins s.m n.toNat } else s
def TS.miss (s : TS) (n : Int) : TS := if 0 ≤ n ∧ n < 8 then { s with m := del s.m n.toNat } else s
def TS.right (s : TS) (n : Int) : TS := if 0 ≤ n ∧ n < 8 then ⟨ins s.m n.toNat, s.a + 1, s.f⟩ else s
def TS.wrong (s : TS) (n : Int) : TS := if 0 ≤ n ∧ n < 8 then ⟨del s.m n.toNat, s.a, s.f + 1⟩ else s
def TS.clear (s : TS) : TS := { s with a := 0, f := 0 }
def isB (m : Nat) (n : Int) : Bool := decide (0 ≤ n ∧ n < 8) && m.testBit n.toNat
end Go.Proofs.YtpdenmcacaajkaaGreat
