/- Whole blocks in memory. No condition. -/
import Derived.Test.YthigojakapgllaaExt
import Derived.Test.YthigojakapgllaaTbA
import Derived.Deep.CutBlock
import Derived.BigRegion
namespace Go.Proofs.Ythigojakapgllaa
open Go.RowKit
open Tb (D T)

/-- A block that is known whole. -/
def Blk (W : World) (g : Nat) (cs : Array Value) (t : TypeId) : Prop := W.heap[g]? = some (.cells cs t (0, 0))
section
variable {W W' : World} {g : Nat} {cs : Array Value} {t : TypeId}
theorem Blk.lt (h : Blk W g cs t) : g < W.heap.size := (Array.getElem?_eq_some_iff.1 h).1
theorem Blk.cell (h : Blk W g cs t) (i : Nat) {x : Value} (hx : cs[i]? = some x) : W.cell? ⟨g, i, none⟩ = some x := by
  rw [← hx]; simp [World.cell?, show W.heap[g]? = _ from h]
theorem Blk.frozen (h : Blk W g cs t) (i : Nat) : W.frozen? ⟨g, i, none⟩ = false := by simp [World.frozen?, show W.heap[g]? = _ from h]
theorem Blk.new (W : World) (g : Nat) (hg : g = W.heap.size) (cs : Array Value) (t : TypeId) : Blk (W.alloc (.cells cs t)) g cs t := by
  subst hg; exact heap_alloc_new W _
theorem Blk.below (h : Blk W g cs t) {B : Nat} (hb : Below B W W') (hB : g < B) : Blk W' g cs t := (hb.block g hB).trans h
theorem Blk.alloc (h : Blk W g cs t) (o : Obj) : Blk (W.alloc o) g cs t := (Below.heap_alloc W o g h.lt).trans h
theorem Blk.drew (h : Blk W g cs t) : Blk W.drew g cs t := h
theorem Blk.drewN (h : Blk W g cs t) (n : Nat) : Blk (W.drewN n) g cs t := h.below (below_drewN (Below.refl (g + 1) W) n) (Nat.lt_succ_self _)
theorem Blk.ext (h : Blk W g cs t) {v v' : Value} (hx : Ext W W' v v') (hne : v.ownBlock ≠ some g) : Blk W' g cs t := (hx.grown.block g h.lt (fun e => hne e.symm)).trans h
theorem Blk.set (h : Blk W g cs t) (i : Nat) (x : Value) : Blk (W.setCell ⟨g, i, none⟩ x) g (cs.setIfInBounds i x) t := Joins.block_setCell h x
theorem Blk.eq {cs' : Array Value} (h : Blk W g cs t) (e : cs = cs') : Blk W g cs' t := e ▸ h
theorem Blk.other (h : Blk W g cs t) (p : Addr) (hp : g ≠ p.block) (x : Value) : Blk (W.setCell p x) g cs t := (Below.heap_setCell W p x g hp).trans h
end
theorem blk4 (X : World) (g : Nat) (a b c d a' b' c' d' : Value) (t : TypeId) (h : Blk X g #[a, b, c, d] t) : Blk ((((X.setCell ⟨g, 0, none⟩ a').setCell ⟨g, 1, none⟩ b').setCell ⟨g, 2, none⟩ c').setCell ⟨g, 3, none⟩ d') g #[a', b', c', d'] t := by
  have := (((h.set 0 a').set 1 b').set 2 c').set 3 d'
  simpa using this
theorem OwnsD.setOther {W : World} {B : Nat} {v : Value} {l : List D} (h : OwnsD W B v l) (p : Addr) (x : Value) (hp : v.ownBlock ≠ some p.block) : OwnsD (W.setCell p x) B v l :=
  World.ownsRow.kept (row := some p.block) h ⟨rfl, rfl, rfl, by simp [World.setCell], fun k _ hk => Below.heap_setCell W p x k (fun e => hk (by rw [e]))⟩ (.inr hp)
theorem OwnsD.lt {w : World} {B : Nat} {v : Value} {l : List D} (h : OwnsD w B v l) : ∀ j, v.ownBlock = some j → B ≤ j ∧ j < w.heap.size := World.ownsRow.lt h

def sliceLen : Value → Nat
  | .slice _ n _ => n
  | _ => 0
theorem and_one (a : Int) (h : 0 ≤ a ∧ a < 256) : bits BinOp.and IntKind.u8 a 1 = a % 2 := by
  have : ∀ x : Fin 256, bits BinOp.and IntKind.u8 (x.val : Int) 1 = (x.val : Int) % 2 := by decide +kernel
  have := this ⟨a.toNat, by omega⟩
  simp only [Int.toNat_of_nonneg h.1] at this
  exact this
theorem and_two (a : Int) (h : 0 ≤ a ∧ a < 256) : bits BinOp.and IntKind.u8 a 2 = a / 2 % 2 * 2 := by
  have : ∀ x : Fin 256, bits BinOp.and IntKind.u8 (x.val : Int) 2 = (x.val : Int) / 2 % 2 * 2 := by decide +kernel
  have := this ⟨a.toNat, by omega⟩
  simp only [Int.toNat_of_nonneg h.1] at this
  exact this

theorem results_cell {fn : Func} {p : Tmp} {ty : TypeId} (h : fn.results = #[.cell p ty]) (tmps : Array Value) (P : Program) (w : World) :
    (results fn tmps).run P w = ((asAddr (tmps.getD p undef)).run P w).andThen fun a w₁ => (loadVar ty a).run P w₁ := by
  simp only [results, h]
  simp [Sem.run_bind, Result.andThen]
end Go.Proofs.Ythigojakapgllaa
