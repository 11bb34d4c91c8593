/- line.Mix of two rows of whole numbers. -/
import Derived.Test.YtbjojpcgigoenaaLineI
namespace Go.Proofs.Ytbjojpcgigoenaa
open Go.RowKit

def two {α : Type} (x y : α) (i : Nat) : α := if i = 0 then x else y
theorem sees_two (w : World) (B : Nat) (e : TypeId) (A0 A1 : Option Addr) (n0 n1 c0 c1 : Nat) (hB : w.heap.size < B) :
    Sees (w.alloc (.cells #[.slice A0 n0 c0, .slice A1 n1 c1] e)) B (some ⟨w.heap.size, 0, none⟩) 2 fun i => .slice (two A0 A1 i) (two n0 n1 i) (two c0 c1 i) := fun _ =>
  ⟨_, _, rfl, hB, fun k hk => by
    rw [World.cell?_alloc_at _ _ _ _ rfl]
    have : k = 0 ∨ k = 1 := by omega
    rcases this with rfl | rfl <;> rfl⟩

theorem owns_down {w : World} {B B' n : Nat} {e : TypeId} {v : Value} {V : Nat → Value} (h : Owns w B e v n V) (hB : B' ≤ B) : Owns w B' e v n V := by
  refine ⟨h.1, ?_⟩
  rcases h.2 with h | ⟨g, cap, cur, h1, h2, h3⟩
  · exact .inl h
  · exact .inr ⟨g, cap, cur, h1, by omega, h3⟩

theorem mix_two (A0 A1 : Option Addr) (n0 n1 c0 c1 : Nat) (a0 b0 a1 b1 : Nat → Int) (w : World) (e : TypeId)
    (h0 : Sees w w.heap.size A0 n0 fun k => cx (a0 k) (b0 k)) (h1 : Sees w w.heap.size A1 n1 fun k => cx (a1 k) (b1 k)) (hn0 : n0 ≤ 100000) (hn1 : n1 ≤ 100000)
    (s0 : ∀ k, (a0 k).natAbs < 2 ^ 50 ∧ (b0 k).natAbs < 2 ^ 50) (s1 : ∀ k, (a1 k).natAbs < 2 ^ 50 ∧ (b1 k).natAbs < 2 ^ 50) :
    Calls Try.prog 17 #[.slice (some ⟨w.heap.size, 0, none⟩) 2 2] (w.alloc (.cells #[.slice A0 n0 c0, .slice A1 n1 c1] e)) fun e w' =>
      ∃ v, e = .returned v ∧ Owns w' w.heap.size 60 v (max n0 n1) (fun k => cx ((if k < n0 then a0 k else 0) + (if k < n1 then a1 k else 0)) ((if k < n0 then b0 k else 0) + (if k < n1 then b1 k else 0))) ∧ Below w.heap.size w w' := by
  have hb : Below w.heap.size w (w.alloc (.cells #[.slice A0 n0 c0, .slice A1 n1 c1] e)) := (Below.refl _ _).alloc (Nat.le_refl _) _
  have hsm : ∀ (n : Nat → Nat) (x y : Nat → Int) (i k : Nat), i < 2 → (∀ k, (x k).natAbs < 2 ^ 50) → (sm n (two x y) i k).natAbs < 2 ^ 52 := by
    intro n x y i k hi hx
    have : i = 0 ∨ i = 1 := by omega
    rcases this with rfl | rfl
    · simp [sm]
    · have := hx k
      simp only [sm, two, if_true]
      split <;> omega
  refine (mix_any (some ⟨w.heap.size, 0, none⟩) 2 2 (two A0 A1) (two n0 n1) (two c0 c1) (two a0 a1) (two b0 b1) _ (sees_two w _ e A0 A1 n0 n1 c0 c1 (by simp)) ?_ (by omega) ?_ ?_ ?_ (fun i k hi => hsm _ _ _ i k hi fun k => (s0 k).1) (fun i k hi => hsm _ _ _ i k hi fun k => (s0 k).2)).mono ?_
  · intro i hi
    have : i = 0 ∨ i = 1 := by omega
    rcases this with rfl | rfl
    · exact (h0.below hb).more (by simp)
    · exact (h1.below hb).more (by simp)
  · intro i hi
    have : i = 0 ∨ i = 1 := by omega
    rcases this with rfl | rfl
    · exact hn0
    · exact hn1
  · intro i k hi _
    have : i = 0 ∨ i = 1 := by omega
    rcases this with rfl | rfl
    · exact Nat.lt_trans (s0 k).1 (by decide)
    · exact Nat.lt_trans (s1 k).1 (by decide)
  · intro i k hi _
    have : i = 0 ∨ i = 1 := by omega
    rcases this with rfl | rfl
    · exact Nat.lt_trans (s0 k).2 (by decide)
    · exact Nat.lt_trans (s1 k).2 (by decide)
  · rintro e w' ⟨v, rfl, ho, hb'⟩
    refine ⟨v, rfl, ?_, hb.trans (hb'.mono (by simp))⟩
    have hmx : mx (two n0 n1) 2 = max n0 n1 := by simp [mx, two]
    rw [hmx] at ho
    exact owns_down (ho.alike fun k _ => by simp [sm, two]) (by simp)

end Go.Proofs.Ytbjojpcgigoenaa
