/- What a law's walk is told of its arguments: slices of bytes, and of structs of integers, that came in. -/
import Derived.Test.YtklphfpgphddpaaKit
import Derived.ProofKit
import Derived.OpenShut
import Derived.ShutString
import Derived.ChangeOld
import Derived.Deep.Slices
import Derived.Deep.Fields
namespace Go.Proofs.Ytklphfpgphddpaa
open Go.ChangeShapes Go.WideShapes Go.ChangeAt Go.RowKit

/-- Bytes that came in. -/
structure InBytes (w : World) (A : Option Addr) (n c : Nat) (z : Nat → Int) : Prop where
  sees : Sees w w.heap.size A n fun k => .int .u8 (z k)
  byte : ∀ k, k < n → 0 ≤ z k ∧ z k < 256
  le : n ≤ c
  max : c ≤ maxLen

theorem addr_at {w : World} {a : Addr} {v : Value} (h : w.cell? (a.add 0) = some v) : ∃ b off, a = ⟨b, off, none⟩ ∧ b < w.heap.size := by
  obtain ⟨b, off, spot⟩ := a
  have h' : w.cell? ⟨b, off, spot⟩ = some v := by simpa [Addr.add] using h
  have hs : spot = none := World.cell?_spot h'
  subst hs
  exact ⟨b, off, rfl, World.block_lt_of_cell? w _ h'⟩

section
variable {H : Type} {enc : TypeId × Value → H} {P : Program} {w : World} {base : Nat} {spare : Nat → Bool} {held : Bool}
theorem sees_bytes {t e : TypeId} (ht : P.underlying t = some (.slice e)) (he : P.underlying e = some (.int .u8)) (hc : P.cellsOf e = 1) {A : Option Addr} {n c : Nat} {d : DataW H} {ps : List MemPlace}
    (h : DataW.Trod enc P w base spare held t (.slice A n c) d ps) : ∃ z, InBytes w A n c z := by
  obtain ⟨fuel, hf⟩ := h
  rcases open_ints ht he hc hf with ⟨hcs, _⟩ | ⟨x, l, cp, zs, hcs, _, hl, hm, hz, _, hcell, hwz⟩
  · simp [Value.cells] at hcs
    obtain ⟨rfl, rfl, rfl⟩ := hcs
    exact ⟨fun _ => 0, Sees.none_, fun k hk => absurd hk (by omega), Nat.le_refl _, Nat.zero_le _⟩
  · simp [Value.cells] at hcs
    obtain ⟨rfl, rfl, rfl⟩ := hcs
    have hnz : n ≤ zs.length := by rw [hz]; split <;> omega
    refine ⟨fun k => zs.getD k 0, fun h0 => ?_, fun k hk => ?_, hl, hm⟩
    · obtain ⟨b, off, rfl, hb⟩ := addr_at (hcell 0 (by omega))
      refine ⟨b, off, rfl, hb, fun k hk => ?_⟩
      have := hcell k (by omega)
      by_cases h0 : k = 0
      · subst h0; simpa [Addr.add] using this
      · simpa [Addr.add, h0] using this
    · have hw := hwz (zs[k]'(by omega)) (List.getElem_mem _)
      have := bounds_u8 hw
      simp only [List.getD_eq_getElem?_getD, List.getElem?_eq_getElem (show k < zs.length by omega), Option.getD_some]
      omega
end
end Go.Proofs.Ytklphfpgphddpaa
