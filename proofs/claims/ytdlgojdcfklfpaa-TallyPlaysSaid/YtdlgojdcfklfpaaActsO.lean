/- What a law's walk is told of a slice of pairs of ints that came in: each cell by itself. -/
import Derived.Test.YtdlgojdcfklfpaaKit
import Derived.Test.YtdlgojdcfklfpaaOpen
import Derived.Deep.SlicePairs
namespace Go.Proofs.Ytdlgojdcfklfpaa
open Go.ChangeShapes Go.WideShapes Go.ChangeAt Go.RowKit

structure InActs (w : World) (v : Value) (n : Nat) (a b : Nat → Int) : Prop where
  at_ : ∃ A c, v = .slice A n c ∧ n ≤ c ∧ c ≤ maxLen ∧ (0 < n → ∃ g off, A = some ⟨g, off, none⟩ ∧ g < w.heap.size ∧ ∀ k, k < n → w.cell? ⟨g, off + k * 2, none⟩ = some (.int .i64 (a k)) ∧ w.cell? ⟨g, off + k * 2 + 1, none⟩ = some (.int .i64 (b k)))

section
variable {H : Type} {enc : TypeId × Value → H} {P : Program} {w : World} {base : Nat} {spare : Nat → Bool} {held : Bool}
theorem sees_acts {t e : TypeId} {f0 f1 : Field} (ht : P.underlying t = some (.slice e)) (he : P.underlying e = some (.struct #[f0, f1])) (ce : P.cellsOf e = 2) (o0 : f0.offset = 0) (o1 : f1.offset = 1) (c0 : P.cellsOf f0.type = 1) (c1 : P.cellsOf f1.type = 1)
    (i0 : P.underlying f0.type = some (.int .i64)) (i1 : P.underlying f1.type = some (.int .i64)) {A : Option Addr} {n c : Nat} {d : DataW H} {ps : List MemPlace}
    (h : DataW.Trod enc P w base spare held t (.slice A n c) d ps) : ∃ a b, InActs w (.slice A n c) n a b := by
  obtain ⟨fuel, hf⟩ := h
  rcases Go.Deep.open_slice_pairs ht he ce o0 o1 c0 c1 hf with ⟨hcs, _⟩ | ⟨x, l, cp, m, _, V0, V1, D0, D1, P0, P1, hcs, _, hl, hm, hmm, _, hx⟩
  · simp [Value.cells] at hcs
    obtain ⟨rfl, rfl, rfl⟩ := hcs
    exact ⟨fun _ => 0, fun _ => 0, ⟨none, 0, rfl, Nat.le_refl _, Nat.zero_le _, fun h => absurd h (Nat.lt_irrefl _)⟩⟩
  · simp [Value.cells] at hcs
    obtain ⟨rfl, rfl, rfl⟩ := hcs
    have hnm : n ≤ m := by rw [hmm]; split <;> omega
    have h0 : ∀ i, i < n → ∃ z, V0 i = .int .i64 z := fun i hi => by
      obtain ⟨_, _, t0, _⟩ := hx i (by omega)
      obtain ⟨z, hz, _⟩ := DataW.trod_int i0 t0
      exact ⟨z, by simpa using hz⟩
    have h1 : ∀ i, i < n → ∃ z, V1 i = .int .i64 z := fun i hi => by
      obtain ⟨_, _, _, t1⟩ := hx i (by omega)
      obtain ⟨z, hz, _⟩ := DataW.trod_int i1 t1
      exact ⟨z, by simpa using hz⟩
    refine ⟨fun i => intOf (V0 i), fun i => intOf (V1 i), ⟨_, _, rfl, hl, hm, fun hn => ?_⟩⟩
    obtain ⟨b, off, rfl, hb⟩ := addr_at (hx 0 (by omega)).1
    refine ⟨b, off, rfl, hb, fun k hk => ?_⟩
    have hat : ∀ j : Nat, (⟨b, off, none⟩ : Addr).add j = ⟨b, off + j, none⟩ := fun j => by
      by_cases hj : j = 0
      · subst hj; simp [Addr.add]
      · simp [Addr.add, hj]
    obtain ⟨e0, e1, _⟩ := hx k (by omega)
    rw [hat] at e0 e1
    obtain ⟨z, hz⟩ := h0 k (by omega)
    obtain ⟨y, hy⟩ := h1 k (by omega)
    rw [hz] at e0 ⊢
    rw [hy] at e1 ⊢
    exact ⟨e0, e1⟩
end
end Go.Proofs.Ytdlgojdcfklfpaa
