/- Texts GdO, SrBase in one. For what each says in front of its theorems. -/
import Derived.Lib.SmallJoins
import Derived.Test.YtmlnkkalajnjhaaSB31
/-! ### GdO -/
namespace Go.Proofs.Ytmlnkkalajnjhaa
open Go.ChangeShapes Go.WideShapes Go.ChangeAt Go.RowKit Go.Joins Go.Deep

def i64g (x : Int) : Prop := -9223372036854775808 ≤ x ∧ x ≤ 9223372036854775807
def bs8 (b0 b1 b2 b3 b4 b5 b6 b7 : Bool) (i : Nat) : Bool := [b0, b1, b2, b3, b4, b5, b6, b7].getD i false
def is8 (b0 b1 b2 b3 b4 b5 b6 b7 : Int) (i : Nat) : Int := [b0, b1, b2, b3, b4, b5, b6, b7].getD i 0
section
variable {H : Type} {enc : TypeId × Value → H} {P : Program} {w : World} {base : Nat} {spare : Nat → Bool} {held : Bool}
theorem int_cellg {t : TypeId} {n : Nat} {v : Value} {y : DataW H × List MemPlace} (hi : P.underlying t = some (.int .i64)) (h : DataW.trod enc P w base spare held n t [v] = some y) : ∃ z, v = .int .i64 z ∧ i64g z := by
  obtain ⟨z, hz, hy, hw⟩ := DataW.trod_int hi h
  exact ⟨z, by simpa using hz, bounds_i64 hw⟩
theorem okWide_array {r : Reach} {b0 n : Nat} {t e : TypeId} {v : Value} (ht : P.underlying t = some (.array n e)) (h : Value.okWide P w r b0 t v) : ∃ cs, v = .agg cs ∧ cs.size = P.cellsOf t := by
  unfold Value.okWide at h
  rw [ht] at h
  obtain ⟨cs, h1, h2, _⟩ := h
  exact ⟨cs, h1, h2⟩
theorem sees_bools8 {r : Reach} {b0 : Nat} {t e : TypeId} {v : Value} {d : DataW H} {ps : List MemPlace} (ht : P.underlying t = some (.array 8 e)) (hC : P.cellsOf t = 8) (he : P.underlying e = some .bool) (hce : P.cellsOf e = 1)
    (hv : Value.okWide P w r b0 t v) (h : DataW.Trod enc P w base spare held t v d ps) : ∃ b0 b1 b2 b3 b4 b5 b6 b7 : Bool, v = bools8 (bs8 b0 b1 b2 b3 b4 b5 b6 b7) := by
  obtain ⟨cs, rfl, hsz⟩ := okWide_array ht hv
  obtain ⟨fuel, hf⟩ := h
  obtain ⟨cl⟩ := cs
  have hsz8 : cl.length = 8 := hsz.trans hC
  match cl, hsz8 with
  | [c0, c1, c2, c3, c4, c5, c6, c7], _ =>
    obtain ⟨xs, m, _, _, _, hx, hcell⟩ := DataW.trod_array ht hf
    have g : ∀ i c, i < 8 → (([c0, c1, c2, c3, c4, c5, c6, c7] : List Value).drop i).take 1 = [c] → ∃ z, c = .bool z := by
      intro i c hi hc
      have := hcell i hi
      rw [hce, Nat.mul_one] at this
      have hc' : (((Value.agg ⟨[c0, c1, c2, c3, c4, c5, c6, c7]⟩).cells.toList.drop i).take 1) = [c] := by rw [← hc]; rfl
      rw [hc', List.getElem?_eq_getElem (by omega)] at this
      exact bool_cellg he this
    obtain ⟨z0, rfl⟩ := g 0 c0 (by omega) rfl
    obtain ⟨z1, rfl⟩ := g 1 c1 (by omega) rfl
    obtain ⟨z2, rfl⟩ := g 2 c2 (by omega) rfl
    obtain ⟨z3, rfl⟩ := g 3 c3 (by omega) rfl
    obtain ⟨z4, rfl⟩ := g 4 c4 (by omega) rfl
    obtain ⟨z5, rfl⟩ := g 5 c5 (by omega) rfl
    obtain ⟨z6, rfl⟩ := g 6 c6 (by omega) rfl
    obtain ⟨z7, rfl⟩ := g 7 c7 (by omega) rfl
    exact ⟨z0, z1, z2, z3, z4, z5, z6, z7, rfl⟩
theorem sees_ints8 {r : Reach} {b0 : Nat} {t e : TypeId} {v : Value} {d : DataW H} {ps : List MemPlace} (ht : P.underlying t = some (.array 8 e)) (hC : P.cellsOf t = 8) (he : P.underlying e = some (.int .i64)) (hce : P.cellsOf e = 1)
    (hv : Value.okWide P w r b0 t v) (h : DataW.Trod enc P w base spare held t v d ps) : ∃ b0 b1 b2 b3 b4 b5 b6 b7 : Int, v = ints8 (is8 b0 b1 b2 b3 b4 b5 b6 b7) ∧ ∀ k, i64g (is8 b0 b1 b2 b3 b4 b5 b6 b7 k) := by
  obtain ⟨cs, rfl, hsz⟩ := okWide_array ht hv
  obtain ⟨fuel, hf⟩ := h
  obtain ⟨cl⟩ := cs
  have hsz8 : cl.length = 8 := hsz.trans hC
  match cl, hsz8 with
  | [c0, c1, c2, c3, c4, c5, c6, c7], _ =>
    obtain ⟨xs, m, _, _, _, hx, hcell⟩ := DataW.trod_array ht hf
    have g : ∀ i c, i < 8 → (([c0, c1, c2, c3, c4, c5, c6, c7] : List Value).drop i).take 1 = [c] → ∃ z, c = .int .i64 z ∧ i64g z := by
      intro i c hi hc
      have := hcell i hi
      rw [hce, Nat.mul_one] at this
      have hc' : (((Value.agg ⟨[c0, c1, c2, c3, c4, c5, c6, c7]⟩).cells.toList.drop i).take 1) = [c] := by rw [← hc]; rfl
      rw [hc', List.getElem?_eq_getElem (by omega)] at this
      exact int_cellg he this
    obtain ⟨z0, rfl, y0⟩ := g 0 c0 (by omega) rfl
    obtain ⟨z1, rfl, y1⟩ := g 1 c1 (by omega) rfl
    obtain ⟨z2, rfl, y2⟩ := g 2 c2 (by omega) rfl
    obtain ⟨z3, rfl, y3⟩ := g 3 c3 (by omega) rfl
    obtain ⟨z4, rfl, y4⟩ := g 4 c4 (by omega) rfl
    obtain ⟨z5, rfl, y5⟩ := g 5 c5 (by omega) rfl
    obtain ⟨z6, rfl, y6⟩ := g 6 c6 (by omega) rfl
    obtain ⟨z7, rfl, y7⟩ := g 7 c7 (by omega) rfl
    refine ⟨z0, z1, z2, z3, z4, z5, z6, z7, rfl, fun k => ?_⟩
    rcases (by omega : k = 0 ∨ k = 1 ∨ k = 2 ∨ k = 3 ∨ k = 4 ∨ k = 5 ∨ k = 6 ∨ k = 7 ∨ 8 ≤ k) with rfl | rfl | rfl | rfl | rfl | rfl | rfl | rfl | h8
    · exact y0
    · exact y1
    · exact y2
    · exact y3
    · exact y4
    · exact y5
    · exact y6
    · exact y7
    · unfold is8
      rw [List.getD_eq_getElem?_getD, List.getElem?_eq_none (by simpa using h8)]
      unfold i64g
      simp
end
end Go.Proofs.Ytmlnkkalajnjhaa

/-! ### SrBase -/
