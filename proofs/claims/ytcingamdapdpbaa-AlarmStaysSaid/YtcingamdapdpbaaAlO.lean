/- What a law's walk is told of a rule and of a message that came in by value. -/
import Derived.Test.YtcingamdapdpbaaActs4O
import Derived.Test.YtcingamdapdpbaaAlR
namespace Go.Proofs.Ytcingamdapdpbaa
open Go.ChangeShapes Go.WideShapes Go.ChangeAt Go.RowKit Go.Joins Go.Deep

section
variable {H : Type} {enc : TypeId × Value → H} {P : Program} {w : World} {base : Nat} {spare : Nat → Bool} {held : Bool}
theorem sees_rule {r : Reach} {b0 : Nat} {t ti : TypeId} {f0 f1 f2 f3 : Field} {v : Value} {d : DataW H} {ps : List MemPlace} (hs : P.underlying t = some (.struct #[f0, f1, f2, f3])) (hC : P.cellsOf t = 4) (t0 : f0.type = ti ∧ f0.offset = 0) (t1 : f1.type = ti ∧ f1.offset = 1) (t2 : f2.type = ti ∧ f2.offset = 2) (t3 : f3.type = ti ∧ f3.offset = 3) (hi : P.underlying ti = some (.int .i64)) (hc : P.cellsOf ti = 1)
    (hv : Value.okWide P w r b0 t v) (h : DataW.Trod enc P w base spare held t v d ps) : ∃ y : R4, v = y.v := by
  obtain ⟨cs, rfl, hsz⟩ := okWide_struct hs hv
  obtain ⟨c0, c1, c2, c3, rfl⟩ := array4 (hsz.trans hC)
  obtain ⟨fuel, hf⟩ := h
  obtain ⟨y0, y1, y2, y3, q, _, _, g0, g1, g2, g3⟩ := trod_struct4 hs hf
  rw [t0.1, t0.2, hc] at g0
  rw [t1.1, t1.2, hc] at g1
  rw [t2.1, t2.2, hc] at g2
  rw [t3.1, t3.2, hc] at g3
  obtain ⟨z0, rfl⟩ := int_cella hi g0
  obtain ⟨z1, rfl⟩ := int_cella hi g1
  obtain ⟨z2, rfl⟩ := int_cella hi g2
  obtain ⟨z3, rfl⟩ := int_cella hi g3
  exact ⟨⟨z0, z1, z2, z3⟩, rfl⟩
theorem sees_msg {r : Reach} {b0 : Nat} {t ti tb ts te : TypeId} {f0 f1 f2 : Field} {v : Value} {d : DataW H} {ps : List MemPlace} (hs : P.underlying t = some (.struct #[f0, f1, f2])) (hC : P.cellsOf t = 3) (t0 : f0.type = ts ∧ f0.offset = 0) (t1 : f1.type = ti ∧ f1.offset = 1) (t2 : f2.type = tb ∧ f2.offset = 2)
    (hi : P.underlying ti = some (.int .i64)) (hb : P.underlying tb = some .bool) (hsl : P.underlying ts = some (.slice te)) (hu : P.underlying te = some (.int .u8)) (hc : P.cellsOf ti = 1) (hcb : P.cellsOf tb = 1) (hcs : P.cellsOf ts = 1) (hce : P.cellsOf te = 1)
    (hv : Value.okWide P w r b0 t v) (h : DataW.Trod enc P w base spare held t v d ps) : ∃ (l : List Int) (A : Option Addr) (c : Nat) (a : Int) (g : Bool), v = .agg #[.slice A l.length c, .int .i64 a, .bool g] ∧ SeesL w w.heap.size (.slice A l.length c) l ∧ bytesL l := by
  obtain ⟨cs, rfl, hsz⟩ := okWide_struct hs hv
  obtain ⟨c0, c1, c2, rfl⟩ := array3 (hsz.trans hC)
  obtain ⟨fuel, hf⟩ := h
  obtain ⟨y0, y1, y2, m, _, _, g0, g1, g2⟩ := trod_struct3 hs hf
  rw [t0.1, t0.2, hcs] at g0
  rw [t1.1, t1.2, hc] at g1
  rw [t2.1, t2.2, hcb] at g2
  obtain ⟨A, c, l, rfl, hS, hB⟩ := sees_list hsl hu hce g0
  obtain ⟨a, rfl⟩ := int_cella hi g1
  obtain ⟨g, rfl⟩ := bool_cella hb g2
  exact ⟨l, A, c, a, g, rfl, hS, hB⟩
end
end Go.Proofs.Ytcingamdapdpbaa
