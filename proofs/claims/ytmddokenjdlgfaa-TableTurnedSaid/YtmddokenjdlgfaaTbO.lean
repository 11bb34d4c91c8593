/- What a law's walk is told of a table, and of a state, that came in by value. -/
import Derived.Test.YtmddokenjdlgfaaTbA
import Derived.ProofKit
import Derived.OpenShut
import Derived.Deep.Slices
import Derived.Lib.SmallJoins
namespace Go.Proofs.Ytmddokenjdlgfaa
open Go.ChangeShapes Go.WideShapes Go.ChangeAt Go.RowKit Go.Joins Go.Deep
open Tb (D T)

def i64o (x : Int) : Prop := -9223372036854775808 ≤ x ∧ x ≤ 9223372036854775807
/-- A state. -/
structure CS where
  r : Int
  s : Int
  m : Int
def stV (s : CS) : Value := .agg #[.int .i64 s.r, .int .i64 s.s, .int .i64 s.m]
structure InState (s : CS) : Prop where
  hr : i64o s.r
  hs : i64o s.s
  hm : i64o s.m
structure InTable (w : World) (t : T) (v : Value) : Prop where
  sees : SeesT w w.heap.size v t.ns
  hd : i64o t.dr
  hw : i64o t.wi
  hl : i64o t.lm
section
variable {H : Type} {enc : TypeId × Value → H} {P : Program} {w : World} {base : Nat} {spare : Nat → Bool} {held : Bool}
theorem int_cell {t : TypeId} {n : Nat} {v : Value} {y : DataW H × List MemPlace} (hi : P.underlying t = some (.int .i64)) (h : DataW.trod enc P w base spare held n t [v] = some y) : ∃ z, v = .int .i64 z ∧ i64o z := by
  obtain ⟨z, hz, hy, hw⟩ := DataW.trod_int hi h
  exact ⟨z, by simpa using hz, bounds_i64 hw⟩
theorem bool_cell {t : TypeId} {n : Nat} {v : Value} {y : DataW H × List MemPlace} (hi : P.underlying t = some .bool) (h : DataW.trod enc P w base spare held n t [v] = some y) : ∃ z, v = .bool z := by
  obtain ⟨z, hz, -⟩ := DataW.trod_bool hi h
  exact ⟨z, by simpa using hz⟩
theorem state_cells {t ti : TypeId} {f0 f1 f2 : Field} {n : Nat} {c0 c1 c2 : Value} {y : DataW H × List MemPlace} (hs : P.underlying t = some (.struct #[f0, f1, f2])) (t0 : f0.type = ti ∧ f0.offset = 0) (t1 : f1.type = ti ∧ f1.offset = 1) (t2 : f2.type = ti ∧ f2.offset = 2) (hi : P.underlying ti = some (.int .i64)) (hc : P.cellsOf ti = 1)
    (h : DataW.trod enc P w base spare held n t [c0, c1, c2] = some y) : ∃ s : CS, c0 = .int .i64 s.r ∧ c1 = .int .i64 s.s ∧ c2 = .int .i64 s.m ∧ InState s := by
  obtain ⟨y0, y1, y2, m, _, _, h0, h1, h2⟩ := trod_struct3 hs h
  rw [t0.1, t0.2, hc] at h0
  rw [t1.1, t1.2, hc] at h1
  rw [t2.1, t2.2, hc] at h2
  obtain ⟨a, rfl, ha⟩ := int_cell hi h0
  obtain ⟨b, rfl, hb⟩ := int_cell hi h1
  obtain ⟨c, rfl, hc⟩ := int_cell hi h2
  exact ⟨⟨a, b, c⟩, rfl, rfl, rfl, ha, hb, hc⟩
theorem sees_state {r : Reach} {b0 : Nat} {t ti : TypeId} {f0 f1 f2 : Field} {v : Value} {d : DataW H} {ps : List MemPlace} (hs : P.underlying t = some (.struct #[f0, f1, f2])) (hC : P.cellsOf t = 3) (t0 : f0.type = ti ∧ f0.offset = 0) (t1 : f1.type = ti ∧ f1.offset = 1) (t2 : f2.type = ti ∧ f2.offset = 2) (hi : P.underlying ti = some (.int .i64)) (hc : P.cellsOf ti = 1)
    (hv : Value.okWide P w r b0 t v) (h : DataW.Trod enc P w base spare held t v d ps) : ∃ s : CS, v = stV s ∧ InState s := by
  obtain ⟨cs, rfl, hsz⟩ := okWide_struct hs hv
  obtain ⟨c0, c1, c2, rfl⟩ := array3 (hsz.trans hC)
  obtain ⟨fuel, hf⟩ := h
  obtain ⟨s, rfl, rfl, rfl, hS⟩ := state_cells hs t0 t1 t2 hi hc hf
  exact ⟨s, rfl, hS⟩
/-- A node's four cells. -/
theorem def_cells {t ti tb : TypeId} {f0 f1 f2 f3 : Field} {n : Nat} {c0 c1 c2 c3 : Value} {y : DataW H × List MemPlace} (hs : P.underlying t = some (.struct #[f0, f1, f2, f3])) (t0 : f0.type = tb ∧ f0.offset = 0) (t1 : f1.type = tb ∧ f1.offset = 1) (t2 : f2.type = ti ∧ f2.offset = 2) (t3 : f3.type = ti ∧ f3.offset = 3) (hi : P.underlying ti = some (.int .i64)) (hb : P.underlying tb = some .bool) (hc : P.cellsOf ti = 1) (hcb : P.cellsOf tb = 1)
    (h : DataW.trod enc P w base spare held n t [c0, c1, c2, c3] = some y) : ∃ d : D, c0 = .bool d.sy ∧ c1 = .bool d.inf ∧ c2 = .int .i64 d.li ∧ c3 = .int .i64 d.sz := by
  obtain ⟨y0, y1, y2, y3, m, _, _, h0, h1, h2, h3⟩ := trod_struct4 hs h
  rw [t0.1, t0.2, hcb] at h0
  rw [t1.1, t1.2, hcb] at h1
  rw [t2.1, t2.2, hc] at h2
  rw [t3.1, t3.2, hc] at h3
  obtain ⟨a, rfl⟩ := bool_cell hb h0
  obtain ⟨b, rfl⟩ := bool_cell hb h1
  obtain ⟨c, rfl, -⟩ := int_cell hi h2
  obtain ⟨d, rfl, -⟩ := int_cell hi h3
  exact ⟨⟨a, b, c, d⟩, rfl, rfl, rfl, rfl⟩
theorem sees_defs {t e ti tb : TypeId} {f0 f1 f2 f3 : Field} {n : Nat} {v : Value} {y : DataW H × List MemPlace} (ht : P.underlying t = some (.slice e)) (he : P.underlying e = some (.struct #[f0, f1, f2, f3])) (ce : P.cellsOf e = 4) (t0 : f0.type = tb ∧ f0.offset = 0) (t1 : f1.type = tb ∧ f1.offset = 1) (t2 : f2.type = ti ∧ f2.offset = 2) (t3 : f3.type = ti ∧ f3.offset = 3) (hi : P.underlying ti = some (.int .i64)) (hb : P.underlying tb = some .bool) (hc : P.cellsOf ti = 1) (hcb : P.cellsOf tb = 1)
    (h : DataW.trod enc P w base spare held n t [v] = some y) : ∃ l : List D, SeesT w w.heap.size v l := by
  rcases open_slice ht h with ⟨hcs, -⟩ | ⟨a, len, cap, m, k, Dt, Pl, hcs, -, hl, hm, hmm, -, hx⟩
  · obtain rfl : v = .slice none 0 0 := by simpa using hcs
    exact ⟨[], SeesT.nil⟩
  · obtain rfl : v = .slice (some a) len cap := by simpa using hcs
    have hlm : len ≤ m := by rw [hmm]; split <;> omega
    have each : ∀ i, i < len → ∃ d : D, w.cell? (a.add (i * 4)) = some (.bool d.sy) ∧ w.cell? (a.add (i * 4 + 1)) = some (.bool d.inf) ∧ w.cell? (a.add (i * 4 + 2)) = some (.int .i64 d.li) ∧ w.cell? (a.add (i * 4 + 3)) = some (.int .i64 d.sz) := by
      intro i hi'
      obtain ⟨cs', h1, h2⟩ := hx i (by omega)
      rw [ce] at h1
      obtain ⟨_, hlen, hcell⟩ := World.cells?_some h1
      match cs', hlen with
      | [v0, v1, v2, v3], _ =>
        obtain ⟨d, rfl, rfl, rfl, rfl⟩ := def_cells he t0 t1 t2 t3 hi hb hc hcb h2
        have e0 := hcell 0 (by omega)
        have e1 := hcell 1 (by omega)
        have e2 := hcell 2 (by omega)
        have e3 := hcell 3 (by omega)
        rw [add_add] at e0 e1 e2 e3
        exact ⟨d, by simpa using e0, by simpa using e1, by simpa using e2, by simpa using e3⟩
    obtain ⟨f, hf⟩ := choose_lt each
    refine ⟨(List.range len).map f, ⟨some a, cap, by simp, by simpa using hl, hm, fun h0 => ?_, fun h => by cases h⟩⟩
    simp only [List.length_map, List.length_range] at h0 ⊢
    have h00 := (hf 0 h0).1
    have h00' : w.cell? (a.add 0) = some (.bool (f 0).sy) := by simpa using h00
    obtain ⟨b, off, spot⟩ := a
    have hsp : spot = none := World.cell?_spot (v := .bool (f 0).sy) (by simpa [Addr.add] using h00')
    subst hsp
    have hadd : ∀ j, (⟨b, off, none⟩ : Addr).add j = ⟨b, off + j, none⟩ := fun j => by unfold Addr.add; split <;> simp_all
    simp only [hadd] at hf
    refine ⟨b, off, rfl, World.block_lt_of_cell? w _ (hf 0 h0).1, fun k hk => ?_⟩
    have hg : ((List.range len).map f).getD k default = f k := by simp [List.getD_eq_getElem?_getD, hk]
    rw [hg]
    obtain ⟨e0, e1, e2, e3⟩ := hf k hk
    exact ⟨e0, by rw [Nat.add_assoc]; exact e1, by rw [Nat.add_assoc]; exact e2, by rw [Nat.add_assoc]; exact e3⟩
theorem sees_table {r : Reach} {b0 : Nat} {t tn e ti tb : TypeId} {g0 g1 g2 g3 f0 f1 f2 f3 : Field} {v : Value} {d : DataW H} {ps : List MemPlace} (hF : P.underlying t = some (.struct #[g0, g1, g2, g3])) (hC : P.cellsOf t = 4) (u0 : g0.type = tn ∧ g0.offset = 0) (u1 : g1.type = ti ∧ g1.offset = 1) (u2 : g2.type = ti ∧ g2.offset = 2) (u3 : g3.type = ti ∧ g3.offset = 3)
    (hn : P.underlying tn = some (.slice e)) (cn : P.cellsOf tn = 1) (he : P.underlying e = some (.struct #[f0, f1, f2, f3])) (ce : P.cellsOf e = 4) (t0 : f0.type = tb ∧ f0.offset = 0) (t1 : f1.type = tb ∧ f1.offset = 1) (t2 : f2.type = ti ∧ f2.offset = 2) (t3 : f3.type = ti ∧ f3.offset = 3)
    (hi : P.underlying ti = some (.int .i64)) (hb : P.underlying tb = some .bool) (hc : P.cellsOf ti = 1) (hcb : P.cellsOf tb = 1)
    (hv : Value.okWide P w r b0 t v) (h : DataW.Trod enc P w base spare held t v d ps) : ∃ (x : T) (s : Value), v = tabV x s ∧ InTable w x s := by
  obtain ⟨cs, rfl, hsz⟩ := okWide_struct hF hv
  obtain ⟨c0, c1, c2, c3, rfl⟩ := array4 (hsz.trans hC)
  obtain ⟨fuel, hf⟩ := h
  obtain ⟨y0, y1, y2, y3, n, hx, _, h0, h1, h2, h3⟩ := trod_struct4 hF hf
  rw [u0.1, u0.2, cn] at h0
  rw [u1.1, u1.2, hc] at h1
  rw [u2.1, u2.2, hc] at h2
  rw [u3.1, u3.2, hc] at h3
  have h0' : DataW.trod enc P w base spare held n tn [c0] = some y0 := h0
  obtain ⟨l, hl⟩ := sees_defs hn he ce t0 t1 t2 t3 hi hb hc hcb h0'
  obtain ⟨a, rfl, ha⟩ := int_cell hi h1
  obtain ⟨b, rfl, hb'⟩ := int_cell hi h2
  obtain ⟨c, rfl, hc'⟩ := int_cell hi h3
  exact ⟨⟨l, a, b, c⟩, c0, rfl, hl, ha, hb', hc'⟩
end
end Go.Proofs.Ytmddokenjdlgfaa
