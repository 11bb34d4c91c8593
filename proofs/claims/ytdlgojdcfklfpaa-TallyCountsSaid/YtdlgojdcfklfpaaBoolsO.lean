/- What a law's walk is told of lists of bools that came in. -/
import Derived.Test.YtdlgojdcfklfpaaKit
import Derived.Test.YtdlgojdcfklfpaaOpen
import Derived.Lib.SmallJoins
namespace Go.Proofs.Ytdlgojdcfklfpaa
open Go.ChangeShapes Go.WideShapes Go.ChangeAt Go.RowKit Go.Joins Go.Deep

/-- Bools that came in. -/
structure InBools (w : World) (v : Value) (n : Nat) (f : Nat → Bool) : Prop where
  at_ : ∃ A c, v = .slice A n c ∧ n ≤ c ∧ c ≤ maxLen ∧ (0 < n → ∃ b off, A = some ⟨b, off, none⟩ ∧ b < w.heap.size ∧ ∀ k, k < n → w.cell? ⟨b, off + k, none⟩ = some (.bool (f k)))
section
variable {H : Type} {enc : TypeId × Value → H} {P : Program} {w : World} {base : Nat} {spare : Nat → Bool} {held : Bool}
theorem bool_cellg {t : TypeId} {n : Nat} {v : Value} {y : DataW H × List MemPlace} (hi : P.underlying t = some .bool) (h : DataW.trod enc P w base spare held n t [v] = some y) : ∃ z, v = .bool z := by
  obtain ⟨z, hz, -⟩ := DataW.trod_bool hi h
  exact ⟨z, by simpa using hz⟩
theorem sees_bools {t e : TypeId} (ht : P.underlying t = some (.slice e)) (he : P.underlying e = some .bool) (hc : P.cellsOf e = 1) {A : Option Addr} {n c : Nat} {d : DataW H} {ps : List MemPlace}
    (h : DataW.Trod enc P w base spare held t (.slice A n c) d ps) : ∃ f, InBools w (.slice A n c) n f := by
  obtain ⟨fuel, h⟩ := h
  rcases open_slice ht h with ⟨hcs, -⟩ | ⟨a, len, cap, m, k, Dt, Pl, hcs, -, hl, hm, hmm, -, hx⟩
  · simp [Value.cells] at hcs
    obtain ⟨rfl, rfl, rfl⟩ := hcs
    exact ⟨fun _ => false, ⟨none, 0, rfl, Nat.le_refl _, Nat.zero_le _, fun h => absurd h (Nat.lt_irrefl _)⟩⟩
  · simp [Value.cells] at hcs
    obtain ⟨rfl, rfl, rfl⟩ := hcs
    have hlm : n ≤ m := by rw [hmm]; split <;> omega
    have each : ∀ i, i < n → ∃ b : Bool, w.cell? (a.add i) = some (.bool b) := by
      intro i hi'
      obtain ⟨cs', h1, h2⟩ := hx i (by omega)
      rw [hc] at h1
      obtain ⟨_, hlen, hcell⟩ := World.cells?_some h1
      match cs', hlen with
      | [v0], _ =>
        obtain ⟨b, rfl⟩ := bool_cellg he h2
        have e0 := hcell 0 (by omega)
        rw [add_add] at e0
        exact ⟨b, by simpa using e0⟩
    obtain ⟨f, hf⟩ := choose_lt each
    refine ⟨f, ⟨some a, c, rfl, hl, hm, fun h0 => ?_⟩⟩
    have h00 := hf 0 h0
    obtain ⟨b, off, spot⟩ := a
    have hsp : spot = none := World.cell?_spot (v := .bool (f 0)) (by simpa [Addr.add] using h00)
    subst hsp
    have hadd : ∀ j, (⟨b, off, none⟩ : Addr).add j = ⟨b, off + j, none⟩ := fun j => by unfold Addr.add; split <;> simp_all
    simp only [hadd] at hf
    exact ⟨b, off, rfl, World.block_lt_of_cell? w _ (hf 0 h0), fun k hk => hf k hk⟩
end
end Go.Proofs.Ytdlgojdcfklfpaa
