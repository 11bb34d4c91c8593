/- What the laws of frames have in common: a frame that may be is written, and a byte of it is turned. -/
import Derived.Test.YthigojakapgllaaFrK
import Derived.Test.YthigojakapgllaaFrO
namespace Go.Proofs.Ythigojakapgllaa
open Go.RowKit
open Fr (St F)

theorem OwnsL.block {w : World} {B : Nat} {v : Value} {l : List Int} (h : OwnsL w B v l) (h0 : 0 < l.length) : ∃ g c, v = .slice (some ⟨g, 0, none⟩) l.length c ∧ B ≤ g := by
  rcases h.2 with ⟨_, h2⟩ | ⟨g, cap, cur, h1, h2, _⟩
  · omega
  · exact ⟨g, cap, h1, h2⟩
theorem OwnsL.cell {w : World} {B g n c : Nat} {l : List Int} (h : OwnsL w B (.slice (some ⟨g, 0, none⟩) n c) l) (hn : n = l.length) {i : Nat} (hi : i < l.length) : w.cell? ⟨g, i, none⟩ = some (.int .u8 (l.getD i 0)) := by
  subst hn
  exact Owns.cell h hi
theorem OwnsL.frozen {w : World} {B g n c : Nat} {l : List Int} (h : OwnsL w B (.slice (some ⟨g, 0, none⟩) n c) l) (hn : n = l.length) (i : Nat) : w.frozen? ⟨g, i, none⟩ = false := by
  subst hn
  exact Owns.frozen h i
theorem OwnsL.set {w : World} {B g n c : Nat} {l : List Int} (h : OwnsL w B (.slice (some ⟨g, 0, none⟩) n c) l) (hn : n = l.length) (i : Nat) (x : Int) (hi : i < l.length) : OwnsL (w.setCell ⟨g, i, none⟩ (.int .u8 x)) B (.slice (some ⟨g, 0, none⟩) n c) (l.set i x) := by
  subst hn
  have := Owns.set_ h i (.int .u8 x) (V' := bv (l.set i x)) (by simp [bv, List.getD_eq_getElem?_getD, hi]) (fun j _ hj => by simp [bv, List.getD_eq_getElem?_getD, List.getElem?_set_ne (Ne.symm hj)])
  unfold OwnsL
  rw [List.length_set]
  exact this
theorem bytesL.set {l : List Int} (h : bytesL l) (i : Nat) {x : Int} (hx : 0 ≤ x ∧ x < 256) : bytesL (l.set i x) := fun y hy => by
  rcases List.mem_or_eq_of_mem_set hy with hy | rfl
  · exact h y hy
  · exact hx
/-- Two new blocks, of five cells and of three. -/
structure Box53 (w w0 : World) (x0 x1 x2 x3 x4 y0 y1 y2 : Value) : Prop where
  size : w0.heap.size = w.heap.size + 2
  below : Below w.heap.size w w0
  cell : ∀ W, Below w0.heap.size w0 W → w.heap.size + 1 < W.heap.size ∧ (W.cell? ⟨w.heap.size, 0, none⟩ = some x0 ∧ W.cell? ⟨w.heap.size, 1, none⟩ = some x1 ∧ W.cell? ⟨w.heap.size, 2, none⟩ = some x2 ∧ W.cell? ⟨w.heap.size, 3, none⟩ = some x3 ∧ W.cell? ⟨w.heap.size, 4, none⟩ = some x4) ∧
    W.cell? ⟨w.heap.size + 1, 0, none⟩ = some y0 ∧ W.cell? ⟨w.heap.size + 1, 1, none⟩ = some y1 ∧ W.cell? ⟨w.heap.size + 1, 2, none⟩ = some y2
theorem box53 (w : World) (x0 x1 x2 x3 x4 y0 y1 y2 : Value) (t t' : TypeId) : Box53 w ((w.alloc (.cells #[x0, x1, x2, x3, x4] t)).alloc (.cells #[y0, y1, y2] t')) x0 x1 x2 x3 x4 y0 y1 y2 := by
  refine ⟨by simp, ((Below.refl _ _).alloc (Nat.le_refl _) _).alloc (by simp) _, fun W hb => ?_⟩
  have hz := hb.size
  have hc := bcell hb
  simp only [World.size_alloc] at hz
  refine ⟨by omega, ⟨?_, ?_, ?_, ?_, ?_⟩, ?_, ?_, ?_⟩
  iterate 5 (rw [hc _ _ (by simp; omega), World.cell?_alloc_past _ _ _ (by simp), World.cell?_alloc_at _ _ _ _ rfl]; rfl)
  iterate 3 (rw [hc _ _ (by simp), World.cell?_alloc_at _ _ _ _ (by simp)]; rfl)
structure Box55 (w w0 : World) (x0 x1 x2 x3 x4 y0 y1 y2 y3 y4 : Value) : Prop where
  size : w0.heap.size = w.heap.size + 2
  below : Below w.heap.size w w0
  cell : ∀ W, Below w0.heap.size w0 W → w.heap.size + 1 < W.heap.size ∧ (W.cell? ⟨w.heap.size, 0, none⟩ = some x0 ∧ W.cell? ⟨w.heap.size, 1, none⟩ = some x1 ∧ W.cell? ⟨w.heap.size, 2, none⟩ = some x2 ∧ W.cell? ⟨w.heap.size, 3, none⟩ = some x3 ∧ W.cell? ⟨w.heap.size, 4, none⟩ = some x4) ∧
    W.cell? ⟨w.heap.size + 1, 0, none⟩ = some y0 ∧ W.cell? ⟨w.heap.size + 1, 1, none⟩ = some y1 ∧ W.cell? ⟨w.heap.size + 1, 2, none⟩ = some y2 ∧ W.cell? ⟨w.heap.size + 1, 3, none⟩ = some y3 ∧ W.cell? ⟨w.heap.size + 1, 4, none⟩ = some y4
theorem box55 (w : World) (x0 x1 x2 x3 x4 y0 y1 y2 y3 y4 : Value) (t t' : TypeId) : Box55 w ((w.alloc (.cells #[x0, x1, x2, x3, x4] t)).alloc (.cells #[y0, y1, y2, y3, y4] t')) x0 x1 x2 x3 x4 y0 y1 y2 y3 y4 := by
  refine ⟨by simp, ((Below.refl _ _).alloc (Nat.le_refl _) _).alloc (by simp) _, fun W hb => ?_⟩
  have hz := hb.size
  have hc := bcell hb
  simp only [World.size_alloc] at hz
  refine ⟨by omega, ⟨?_, ?_, ?_, ?_, ?_⟩, ?_, ?_, ?_, ?_, ?_⟩
  iterate 5 (rw [hc _ _ (by simp; omega), World.cell?_alloc_past _ _ _ (by simp), World.cell?_alloc_at _ _ _ _ rfl]; rfl)
  iterate 5 (rw [hc _ _ (by simp), World.cell?_alloc_at _ _ _ _ (by simp)]; rfl)
structure Box33 (w w0 : World) (x0 x1 x2 y0 y1 y2 : Value) : Prop where
  size : w0.heap.size = w.heap.size + 2
  below : Below w.heap.size w w0
  cell : ∀ W, Below w0.heap.size w0 W → w.heap.size + 1 < W.heap.size ∧ (W.cell? ⟨w.heap.size, 0, none⟩ = some x0 ∧ W.cell? ⟨w.heap.size, 1, none⟩ = some x1 ∧ W.cell? ⟨w.heap.size, 2, none⟩ = some x2) ∧
    W.cell? ⟨w.heap.size + 1, 0, none⟩ = some y0 ∧ W.cell? ⟨w.heap.size + 1, 1, none⟩ = some y1 ∧ W.cell? ⟨w.heap.size + 1, 2, none⟩ = some y2
theorem box33 (w : World) (x0 x1 x2 y0 y1 y2 : Value) (t t' : TypeId) : Box33 w ((w.alloc (.cells #[x0, x1, x2] t)).alloc (.cells #[y0, y1, y2] t')) x0 x1 x2 y0 y1 y2 := by
  refine ⟨by simp, ((Below.refl _ _).alloc (Nat.le_refl _) _).alloc (by simp) _, fun W hb => ?_⟩
  have hz := hb.size
  have hc := bcell hb
  simp only [World.size_alloc] at hz
  refine ⟨by omega, ⟨?_, ?_, ?_⟩, ?_, ?_, ?_⟩
  iterate 3 (rw [hc _ _ (by simp; omega), World.cell?_alloc_past _ _ _ (by simp), World.cell?_alloc_at _ _ _ _ rfl]; rfl)
  iterate 3 (rw [hc _ _ (by simp), World.cell?_alloc_at _ _ _ _ (by simp)]; rfl)
theorem encR_is {f : F} (h : f.is = true) : encR f = f.bytes ∧ encE f = 0 := by simp [encR, encE, h]
theorem mask16 (a : Int) : bits BinOp.and IntKind.i64 a 65535 = (((a % 65536).toNat : Nat) : Int) := by
  show IntKind.i64.wrap ((BitVec.ofInt 64 a &&& BitVec.ofInt 64 65535).toNat : Int) = _
  rw [BitVec.toNat_and, show (BitVec.ofInt 64 65535).toNat = 2 ^ 16 - 1 by decide, Nat.and_two_pow_sub_one_eq_mod, BitVec.toNat_ofInt, IntKind.wrap_i64]
  omega
theorem xor_byte (x y : Int) (hx : 0 ≤ x ∧ x < 256) (hy : 0 ≤ y ∧ y < 256) (h : y ≠ 0) : (0 ≤ bits BinOp.xor IntKind.u8 x y ∧ bits BinOp.xor IntKind.u8 x y < 256) ∧ bits BinOp.xor IntKind.u8 x y ≠ x := by
  obtain ⟨X, rfl⟩ := Int.eq_ofNat_of_zero_le hx.1
  obtain ⟨Y, rfl⟩ := Int.eq_ofNat_of_zero_le hy.1
  have hl : X ^^^ Y < 256 := Nat.xor_lt_two_pow (n := 8) (by omega) (by omega)
  rw [u8_xor_nat X Y (by omega) (by omega)]
  refine ⟨⟨by omega, by omega⟩, fun e => h ?_⟩
  have e2 : X = X ^^^ Y := by omega
  have := congrArg (X ^^^ ·) e2
  simp only [Nat.xor_self, ← Nat.xor_assoc, Nat.zero_xor] at this
  omega
end Go.Proofs.Ythigojakapgllaa
