/- What a law's walk is told of a slice of pairs of ints that came in. -/
import Derived.Test.YtbjojpcgigoenaaLineK
import Derived.Test.YtbjojpcgigoenaaOpen
import Derived.Deep.SlicePairs
namespace Go.Proofs.Ytbjojpcgigoenaa
open Go.ChangeShapes Go.WideShapes Go.ChangeAt Go.RowKit

structure InPairs (w : World) (A : Option Addr) (n c : Nat) (a b : Nat → Int) : Prop where
  sees : Sees w w.heap.size A (2 * n) (prs a b)
  le : n ≤ c
  max : c ≤ maxLen

section
variable {H : Type} {enc : TypeId × Value → H} {P : Program} {w : World} {base : Nat} {spare : Nat → Bool} {held : Bool}
theorem sees_pairs {t e : TypeId} {f0 f1 : Field} (ht : P.underlying t = some (.slice e)) (he : P.underlying e = some (.struct #[f0, f1])) (ce : P.cellsOf e = 2) (o0 : f0.offset = 0) (o1 : f1.offset = 1) (c0 : P.cellsOf f0.type = 1) (c1 : P.cellsOf f1.type = 1)
    (i0 : P.underlying f0.type = some (.int .i64)) (i1 : P.underlying f1.type = some (.int .i64)) {A : Option Addr} {n c : Nat} {d : DataW H} {ps : List MemPlace}
    (h : DataW.Trod enc P w base spare held t (.slice A n c) d ps) : ∃ a b, InPairs w A n c a b := by
  obtain ⟨fuel, hf⟩ := h
  rcases Go.Deep.open_slice_pairs ht he ce o0 o1 c0 c1 hf with ⟨hcs, _⟩ | ⟨x, l, cp, m, _, V0, V1, D0, D1, P0, P1, hcs, _, hl, hm, hmm, _, hx⟩
  · simp [Value.cells] at hcs
    obtain ⟨rfl, rfl, rfl⟩ := hcs
    exact ⟨fun _ => 0, fun _ => 0, Sees.none_, Nat.le_refl _, Nat.zero_le _⟩
  · simp [Value.cells] at hcs
    obtain ⟨rfl, rfl, rfl⟩ := hcs
    have hnm : n ≤ m := by rw [hmm]; split <;> omega
    have h0 : ∀ i, i < n → ∃ z, V0 i = .int .i64 z := fun i hi => by
      obtain ⟨_, _, t0, _⟩ := hx i (by omega)
      obtain ⟨z, hz, _⟩ := DataW.trod_int i0 t0
      exact ⟨z, by simpa using hz⟩
    have h1 : ∀ i, i < n → ∃ z, V1 i = .int .i64 z := fun i hi => by
      obtain ⟨_, _, _, t1⟩ := hx i (by omega)
      obtain ⟨z, hz, _⟩ := DataW.trod_int i1 t1
      exact ⟨z, by simpa using hz⟩
    refine ⟨fun i => intOf (V0 i), fun i => intOf (V1 i), fun hn => ?_, hl, hm⟩
    obtain ⟨b, off, rfl, hb⟩ := addr_at (hx 0 (by omega)).1
    refine ⟨b, off, rfl, hb, fun k hk => ?_⟩
    have hat : ∀ j : Nat, (⟨b, off, none⟩ : Addr).add j = ⟨b, off + j, none⟩ := fun j => by
      by_cases hj : j = 0
      · subst hj; simp [Addr.add]
      · simp [Addr.add, hj]
    obtain ⟨e0, e1, _⟩ := hx (k / 2) (by omega)
    rw [hat] at e0 e1
    unfold prs
    by_cases hk2 : k % 2 = 0
    · obtain ⟨z, hz⟩ := h0 (k / 2) (by omega)
      simp only [if_pos hk2, hz, intOf]
      rw [show k / 2 * 2 = k by omega, hz] at e0
      exact e0
    · obtain ⟨z, hz⟩ := h1 (k / 2) (by omega)
      simp only [if_neg hk2, hz, intOf]
      rw [show off + (k / 2 * 2 + 1) = off + k by omega, hz] at e1
      exact e1
end
end Go.Proofs.Ytbjojpcgigoenaa
