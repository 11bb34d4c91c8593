/- What a law's walk is told of a list of ints that came in. -/
import Derived.Test.YtiaidachigiajaaInts
import Derived.ProofKit
import Derived.OpenShut
namespace Go.Proofs.Ytiaidachigiajaa
open Go.ChangeShapes Go.WideShapes Go.ChangeAt Go.RowKit

structure InInts (w : World) (v : Value) (l : List Int) : Prop where
  sees : SeesI w w.heap.size v l
  i64 : ∀ x ∈ l, -9223372036854775808 ≤ x ∧ x ≤ 9223372036854775807
section
variable {H : Type} {enc : TypeId × Value → H} {P : Program} {w : World} {base : Nat} {spare : Nat → Bool} {held : Bool}
theorem addr_at {w : World} {a : Addr} {v : Value} (h : w.cell? (a.add 0) = some v) : ∃ b off, a = ⟨b, off, none⟩ ∧ b < w.heap.size := by
  obtain ⟨b, off, spot⟩ := a
  have h' : w.cell? ⟨b, off, spot⟩ = some v := by simpa [Addr.add] using h
  have hs : spot = none := World.cell?_spot h'
  subst hs
  exact ⟨b, off, rfl, World.block_lt_of_cell? w _ h'⟩
theorem sees_ints {t e : TypeId} (ht : P.underlying t = some (.slice e)) (he : P.underlying e = some (.int .i64)) (hc : P.cellsOf e = 1) {A : Option Addr} {n c : Nat} {d : DataW H} {ps : List MemPlace}
    (h : DataW.Trod enc P w base spare held t (.slice A n c) d ps) : ∃ l, InInts w (.slice A n c) l := by
  obtain ⟨fuel, hf⟩ := h
  rcases open_ints ht he hc hf with ⟨hcs, _⟩ | ⟨x, l, cp, zs, hcs, _, hl, hm, hz, _, hcell, hwz⟩
  · simp [Value.cells] at hcs
    obtain ⟨rfl, rfl, rfl⟩ := hcs
    exact ⟨[], SeesI.nil, fun x hx => by simp at hx⟩
  · simp [Value.cells] at hcs
    obtain ⟨rfl, rfl, rfl⟩ := hcs
    have hnz : n ≤ zs.length := by rw [hz]; split <;> omega
    have hlen : (zs.take n).length = n := by simp; omega
    refine ⟨zs.take n, ⟨some x, c, by rw [hlen], by rw [hlen]; exact hl, hm, fun h0 => ?_, fun h => by cases h⟩, fun y hy => bounds_i64 (hwz y (List.mem_of_mem_take hy))⟩
    rw [hlen] at h0 ⊢
    obtain ⟨b, off, rfl, hb⟩ := addr_at (hcell 0 (by omega))
    refine ⟨b, off, rfl, hb, fun k hk => ?_⟩
    have := hcell k (by omega)
    have e : iv (zs.take n) k = .int .i64 (zs.getD k 0) := by simp [iv, List.getD_eq_getElem?_getD, hk]
    rw [e]
    by_cases h0 : k = 0
    · subst h0; simpa [Addr.add] using this
    · simpa [Addr.add, h0] using this
end
end Go.Proofs.Ytiaidachigiajaa
