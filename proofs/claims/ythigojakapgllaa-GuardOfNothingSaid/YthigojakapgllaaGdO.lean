/- What a guard law's walk is told of arrays of eight and of lists of bools that came in. -/
import Derived.Test.YthigojakapgllaaGdD
import Derived.Test.YthigojakapgllaaOpen
import Derived.Lib.SmallJoins
namespace Go.Proofs.Ythigojakapgllaa
open Go.ChangeShapes Go.WideShapes Go.ChangeAt Go.RowKit Go.Joins Go.Deep

def i64g (x : Int) : Prop := -9223372036854775808 ≤ x ∧ x ≤ 9223372036854775807
def bs8 (b0 b1 b2 b3 b4 b5 b6 b7 : Bool) (i : Nat) : Bool := [b0, b1, b2, b3, b4, b5, b6, b7].getD i false
def is8 (b0 b1 b2 b3 b4 b5 b6 b7 : Int) (i : Nat) : Int := [b0, b1, b2, b3, b4, b5, b6, b7].getD i 0
/-- Bools that came in. -/
structure InBools (w : World) (v : Value) (n : Nat) (f : Nat → Bool) : Prop where
  at_ : ∃ A c, v = .slice A n c ∧ n ≤ c ∧ c ≤ maxLen ∧ (0 < n → ∃ b off, A = some ⟨b, off, none⟩ ∧ b < w.heap.size ∧ ∀ k, k < n → w.cell? ⟨b, off + k, none⟩ = some (.bool (f k)))
section
variable {H : Type} {enc : TypeId × Value → H} {P : Program} {w : World} {base : Nat} {spare : Nat → Bool} {held : Bool}
theorem int_cellg {t : TypeId} {n : Nat} {v : Value} {y : DataW H × List MemPlace} (hi : P.underlying t = some (.int .i64)) (h : DataW.trod enc P w base spare held n t [v] = some y) : ∃ z, v = .int .i64 z ∧ i64g z := by
  obtain ⟨z, hz, hy, hw⟩ := DataW.trod_int hi h
  exact ⟨z, by simpa using hz, bounds_i64 hw⟩
theorem bool_cellg {t : TypeId} {n : Nat} {v : Value} {y : DataW H × List MemPlace} (hi : P.underlying t = some .bool) (h : DataW.trod enc P w base spare held n t [v] = some y) : ∃ z, v = .bool z := by
  obtain ⟨z, hz, -⟩ := DataW.trod_bool hi h
  exact ⟨z, by simpa using hz⟩
theorem okWide_array {r : Reach} {b0 n : Nat} {t e : TypeId} {v : Value} (ht : P.underlying t = some (.array n e)) (h : Value.okWide P w r b0 t v) : ∃ cs, v = .agg cs ∧ cs.size = P.cellsOf t := by
  unfold Value.okWide at h
  rw [ht] at h
  obtain ⟨cs, h1, h2, _⟩ := h
  exact ⟨cs, h1, h2⟩
theorem sees_bools8 {r : Reach} {b0 : Nat} {t e : TypeId} {v : Value} {d : DataW H} {ps : List MemPlace} (ht : P.underlying t = some (.array 8 e)) (hC : P.cellsOf t = 8) (he : P.underlying e = some .bool) (hce : P.cellsOf e = 1)
    (hv : Value.okWide P w r b0 t v) (h : DataW.Trod enc P w base spare held t v d ps) : ∃ b0 b1 b2 b3 b4 b5 b6 b7 : Bool, v = bools8 (bs8 b0 b1 b2 b3 b4 b5 b6 b7) := by
  obtain ⟨cs, rfl, hsz⟩ := okWide_array ht hv
  obtain ⟨fuel, hf⟩ := h
  obtain ⟨cl⟩ := cs
  have hsz8 : cl.length = 8 := hsz.trans hC
  match cl, hsz8 with
  | [c0, c1, c2, c3, c4, c5, c6, c7], _ =>
    obtain ⟨xs, m, _, _, _, hx, hcell⟩ := DataW.trod_array ht hf
    have g : ∀ i c, i < 8 → (([c0, c1, c2, c3, c4, c5, c6, c7] : List Value).drop i).take 1 = [c] → ∃ z, c = .bool z := by
      intro i c hi hc
      have := hcell i hi
      rw [hce, Nat.mul_one] at this
      have hc' : (((Value.agg ⟨[c0, c1, c2, c3, c4, c5, c6, c7]⟩).cells.toList.drop i).take 1) = [c] := by rw [← hc]; rfl
      rw [hc', List.getElem?_eq_getElem (by omega)] at this
      exact bool_cellg he this
    obtain ⟨z0, rfl⟩ := g 0 c0 (by omega) rfl
    obtain ⟨z1, rfl⟩ := g 1 c1 (by omega) rfl
    obtain ⟨z2, rfl⟩ := g 2 c2 (by omega) rfl
    obtain ⟨z3, rfl⟩ := g 3 c3 (by omega) rfl
    obtain ⟨z4, rfl⟩ := g 4 c4 (by omega) rfl
    obtain ⟨z5, rfl⟩ := g 5 c5 (by omega) rfl
    obtain ⟨z6, rfl⟩ := g 6 c6 (by omega) rfl
    obtain ⟨z7, rfl⟩ := g 7 c7 (by omega) rfl
    exact ⟨z0, z1, z2, z3, z4, z5, z6, z7, rfl⟩
theorem sees_ints8 {r : Reach} {b0 : Nat} {t e : TypeId} {v : Value} {d : DataW H} {ps : List MemPlace} (ht : P.underlying t = some (.array 8 e)) (hC : P.cellsOf t = 8) (he : P.underlying e = some (.int .i64)) (hce : P.cellsOf e = 1)
    (hv : Value.okWide P w r b0 t v) (h : DataW.Trod enc P w base spare held t v d ps) : ∃ b0 b1 b2 b3 b4 b5 b6 b7 : Int, v = ints8 (is8 b0 b1 b2 b3 b4 b5 b6 b7) ∧ ∀ k, i64g (is8 b0 b1 b2 b3 b4 b5 b6 b7 k) := by
  obtain ⟨cs, rfl, hsz⟩ := okWide_array ht hv
  obtain ⟨fuel, hf⟩ := h
  obtain ⟨cl⟩ := cs
  have hsz8 : cl.length = 8 := hsz.trans hC
  match cl, hsz8 with
  | [c0, c1, c2, c3, c4, c5, c6, c7], _ =>
    obtain ⟨xs, m, _, _, _, hx, hcell⟩ := DataW.trod_array ht hf
    have g : ∀ i c, i < 8 → (([c0, c1, c2, c3, c4, c5, c6, c7] : List Value).drop i).take 1 = [c] → ∃ z, c = .int .i64 z ∧ i64g z := by
      intro i c hi hc
      have := hcell i hi
      rw [hce, Nat.mul_one] at this
      have hc' : (((Value.agg ⟨[c0, c1, c2, c3, c4, c5, c6, c7]⟩).cells.toList.drop i).take 1) = [c] := by rw [← hc]; rfl
      rw [hc', List.getElem?_eq_getElem (by omega)] at this
      exact int_cellg he this
    obtain ⟨z0, rfl, y0⟩ := g 0 c0 (by omega) rfl
    obtain ⟨z1, rfl, y1⟩ := g 1 c1 (by omega) rfl
    obtain ⟨z2, rfl, y2⟩ := g 2 c2 (by omega) rfl
    obtain ⟨z3, rfl, y3⟩ := g 3 c3 (by omega) rfl
    obtain ⟨z4, rfl, y4⟩ := g 4 c4 (by omega) rfl
    obtain ⟨z5, rfl, y5⟩ := g 5 c5 (by omega) rfl
    obtain ⟨z6, rfl, y6⟩ := g 6 c6 (by omega) rfl
    obtain ⟨z7, rfl, y7⟩ := g 7 c7 (by omega) rfl
    refine ⟨z0, z1, z2, z3, z4, z5, z6, z7, rfl, fun k => ?_⟩
    rcases (by omega : k = 0 ∨ k = 1 ∨ k = 2 ∨ k = 3 ∨ k = 4 ∨ k = 5 ∨ k = 6 ∨ k = 7 ∨ 8 ≤ k) with rfl | rfl | rfl | rfl | rfl | rfl | rfl | rfl | h8
    · exact y0
    · exact y1
    · exact y2
    · exact y3
    · exact y4
    · exact y5
    · exact y6
    · exact y7
    · unfold is8
      rw [List.getD_eq_getElem?_getD, List.getElem?_eq_none (by simpa using h8)]
      unfold i64g
      simp
theorem sees_bools {t e : TypeId} (ht : P.underlying t = some (.slice e)) (he : P.underlying e = some .bool) (hc : P.cellsOf e = 1) {A : Option Addr} {n c : Nat} {d : DataW H} {ps : List MemPlace}
    (h : DataW.Trod enc P w base spare held t (.slice A n c) d ps) : ∃ f, InBools w (.slice A n c) n f := by
  obtain ⟨fuel, h⟩ := h
  rcases open_slice ht h with ⟨hcs, -⟩ | ⟨a, len, cap, m, k, Dt, Pl, hcs, -, hl, hm, hmm, -, hx⟩
  · simp [Value.cells] at hcs
    obtain ⟨rfl, rfl, rfl⟩ := hcs
    exact ⟨fun _ => false, ⟨none, 0, rfl, Nat.le_refl _, Nat.zero_le _, fun h => absurd h (Nat.lt_irrefl _)⟩⟩
  · simp [Value.cells] at hcs
    obtain ⟨rfl, rfl, rfl⟩ := hcs
    have hlm : n ≤ m := by rw [hmm]; split <;> omega
    have each : ∀ i, i < n → ∃ b : Bool, w.cell? (a.add i) = some (.bool b) := by
      intro i hi'
      obtain ⟨cs', h1, h2⟩ := hx i (by omega)
      rw [hc] at h1
      obtain ⟨_, hlen, hcell⟩ := World.cells?_some h1
      match cs', hlen with
      | [v0], _ =>
        obtain ⟨b, rfl⟩ := bool_cellg he h2
        have e0 := hcell 0 (by omega)
        rw [add_add] at e0
        exact ⟨b, by simpa using e0⟩
    obtain ⟨f, hf⟩ := choose_lt each
    refine ⟨f, ⟨some a, c, rfl, hl, hm, fun h0 => ?_⟩⟩
    have h00 := hf 0 h0
    obtain ⟨b, off, spot⟩ := a
    have hsp : spot = none := World.cell?_spot (v := .bool (f 0)) (by simpa [Addr.add] using h00)
    subst hsp
    have hadd : ∀ j, (⟨b, off, none⟩ : Addr).add j = ⟨b, off + j, none⟩ := fun j => by unfold Addr.add; split <;> simp_all
    simp only [hadd] at hf
    exact ⟨b, off, rfl, World.block_lt_of_cell? w _ (hf 0 h0), fun k hk => hf k hk⟩
end
end Go.Proofs.Ythigojakapgllaa
