/- Whole blocks in memory, and all but one block kept. No condition. -/
import Derived.Test.YtklphfpgphddpaaKit
import Derived.Lib.SmallJoins
namespace Go.Proofs.Ytklphfpgphddpaa
open Go.RowKit

/-- A block that is known whole. -/
def Blk (W : World) (g : Nat) (cs : Array Value) (t : TypeId) : Prop := W.heap[g]? = some (.cells cs t (0, 0))
section
variable {W W' : World} {g : Nat} {cs : Array Value} {t : TypeId}
theorem Blk.lt (h : Blk W g cs t) : g < W.heap.size := (Array.getElem?_eq_some_iff.1 h).1
theorem Blk.cell (h : Blk W g cs t) (i : Nat) {x : Value} (hx : cs[i]? = some x) : W.cell? ⟨g, i, none⟩ = some x := by
  rw [← hx]; simp [World.cell?, show W.heap[g]? = _ from h]
theorem Blk.frozen (h : Blk W g cs t) (i : Nat) : W.frozen? ⟨g, i, none⟩ = false := by simp [World.frozen?, show W.heap[g]? = _ from h]
theorem Blk.new (W : World) (g : Nat) (hg : g = W.heap.size) (cs : Array Value) (t : TypeId) : Blk (W.alloc (.cells cs t)) g cs t := by
  subst hg; exact heap_alloc_new W _
theorem Blk.below (h : Blk W g cs t) {B : Nat} (hb : Below B W W') (hB : g < B) : Blk W' g cs t := (hb.block g hB).trans h
theorem Blk.alloc (h : Blk W g cs t) (o : Obj) : Blk (W.alloc o) g cs t := (Below.heap_alloc W o g h.lt).trans h
theorem Blk.drew (h : Blk W g cs t) : Blk W.drew g cs t := h
theorem Blk.drewN (h : Blk W g cs t) (n : Nat) : Blk (W.drewN n) g cs t := h.below (below_drewN (Below.refl (g + 1) W) n) (Nat.lt_succ_self _)
theorem Blk.set (h : Blk W g cs t) (i : Nat) (x : Value) : Blk (W.setCell ⟨g, i, none⟩ x) g (cs.setIfInBounds i x) t := Joins.block_setCell h x
theorem Blk.eq {cs' : Array Value} (h : Blk W g cs t) (e : cs = cs') : Blk W g cs' t := e ▸ h
theorem Blk.other (h : Blk W g cs t) (p : Addr) (hp : g ≠ p.block) (x : Value) : Blk (W.setCell p x) g cs t := (Below.heap_setCell W p x g hp).trans h
end
/-- But for block g, all that there was is as it was. -/
def Only (g : Nat) (w w' : World) : Prop := w.grownBy w' (some g)
section
variable {g : Nat} {w w1 w2 : World}
theorem Only.refl (g : Nat) (w : World) : Only g w w := World.grownBy.refl _ _
theorem Only.set (h : Only g w w1) (i : Nat) (x : Value) : Only g w (w1.setCell ⟨g, i, none⟩ x) := ⟨h.os, h.tape, h.output, by simpa [World.setCell] using h.size, fun k hk hne => (Below.heap_setCell w1 ⟨g, i, none⟩ x k (fun e => hne (by rw [e]))).trans (h.block k hk hne)⟩
theorem Only.drew (h : Only g w w1) : Only g w w1.drew := ⟨h.os, h.tape, h.output, h.size, h.block⟩
theorem Only.trans (h : Only g w w1) (k : Only g w1 w2) : Only g w w2 := ⟨k.os.trans h.os, k.tape.trans h.tape, k.output.trans h.output, Nat.le_trans h.size k.size, fun i hi hne => (k.block i (Nat.lt_of_lt_of_le hi h.size) hne).trans (h.block i hi hne)⟩
theorem Only.below {B : Nat} (h : Only g w w1) (hB : B ≤ g) (hg : g < w.heap.size) : Below B w w1 := ⟨h.os, h.tape, h.output, h.size, fun i hi => h.block i (by omega) (by intro e; cases e; omega)⟩
theorem only_of_below (g : Nat) (h : Below w.heap.size w w1) : Only g w w1 := ⟨h.os, h.tape, h.output, h.size, fun i hi _ => h.block i hi⟩
theorem Blk.only {g' : Nat} {cs : Array Value} {t : TypeId} (h : Blk w g' cs t) (k : Only g w w1) (hne : g' ≠ g) : Blk w1 g' cs t := (k.block g' h.lt (by intro e; cases e; exact hne rfl)).trans h
end
end Go.Proofs.Ytklphfpgphddpaa
