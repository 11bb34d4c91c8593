/- Sums of two rows, of none. No condition but sizes. -/
import Derived.Test.YthigojakapgllaaCrcB
import Derived.Test.YthigojakapgllaaBytes
namespace Go.Proofs.Ythigojakapgllaa
open Go.ChangeShapes Go.WideShapes Go.ChangeAt Go.RowKit

def twoOf {α : Type} (x y : α) (i : Nat) : α := if i = 0 then x else y
theorem sees_pair (w : World) (B : Nat) (e : TypeId) (A0 A1 : Option Addr) (n0 n1 c0 c1 : Nat) (hB : w.heap.size < B) :
    Sees (w.alloc (.cells #[.slice A0 n0 c0, .slice A1 n1 c1] e)) B (some ⟨w.heap.size, 0, none⟩) 2 fun i => .slice (twoOf A0 A1 i) (twoOf n0 n1 i) (twoOf c0 c1 i) := fun _ =>
  ⟨_, _, rfl, hB, fun k hk => by
    rw [World.cell?_alloc_at _ _ _ _ rfl]
    have : k = 0 ∨ k = 1 := by omega
    rcases this with rfl | rfl <;> rfl⟩
theorem sum_pair (A0 A1 : Option Addr) (n0 n1 c0 c1 : Nat) (z0 z1 : Nat → Int) (a : Int) (w : World) (e : TypeId) (g : Nat) (hg : g = w.heap.size) (h0 : Sees w w.heap.size A0 n0 fun k => .int .u8 (z0 k)) (h1 : Sees w w.heap.size A1 n1 fun k => .int .u8 (z1 k))
    (hz0 : ∀ k, k < n0 → 0 ≤ z0 k ∧ z0 k < 256) (hz1 : ∀ k, k < n1 → 0 ≤ z1 k ∧ z1 k < 256) (hn0 : n0 ≤ maxLen) (hn1 : n1 ≤ maxLen) :
    Calls Try.prog 51 #[.int .i64 a, .slice (some ⟨g, 0, none⟩) 2 2] (w.alloc (.cells #[.slice A0 n0 c0, .slice A1 n1 c1] e)) fun e' w' => e' = .returned (.int .i64 (Cr.sumTo (Cr.sumTo (Cr.sd a) z0 n0) z1 n1 : Nat)) ∧ w.alloc (.cells #[.slice A0 n0 c0, .slice A1 n1 c1] e) = w' := by
  subst hg
  have hb : Below w.heap.size w (w.alloc (.cells #[.slice A0 n0 c0, .slice A1 n1 c1] e)) := (Below.refl _ _).alloc (Nat.le_refl _) _
  refine sum_any _ 2 2 (w.heap.size + 1) (twoOf A0 A1) (twoOf n0 n1) (twoOf c0 c1) (twoOf z0 z1) a _ (sees_pair w _ e A0 A1 n0 n1 c0 c1 (by omega)) ?_ ?_ (by unfold maxLen; omega) ?_
  · intro i hi
    have : i = 0 ∨ i = 1 := by omega
    rcases this with rfl | rfl
    · exact (h0.below hb).more (by omega)
    · exact (h1.below hb).more (by omega)
  · intro i k hi hk
    have : i = 0 ∨ i = 1 := by omega
    rcases this with rfl | rfl
    · exact hz0 k hk
    · exact hz1 k hk
  · intro i hi
    have : i = 0 ∨ i = 1 := by omega
    rcases this with rfl | rfl
    · exact hn0
    · exact hn1
theorem sum_none (a : Int) (w : World) : Calls Try.prog 51 #[.int .i64 a, .slice none 0 0] w fun e' w' => e' = .returned (.int .i64 (Cr.sd a : Nat)) ∧ w = w' :=
  sum_any none 0 0 0 (fun _ => none) (fun _ => 0) (fun _ => 0) (fun _ _ => 0) a w Sees.none_ (fun i hi => absurd hi (by omega)) (fun i k hi => absurd hi (by omega)) (by unfold maxLen; omega) (fun i hi => absurd hi (by omega))
end Go.Proofs.Ythigojakapgllaa
