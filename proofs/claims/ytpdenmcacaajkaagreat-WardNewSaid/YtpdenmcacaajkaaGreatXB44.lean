/- Texts Rf6, TbQ, RlO, ClO, WnBase in one. For what each says in front of its theorems. -/
import Derived.ProofKit
import Derived.OpenShut
import Derived.Deep.Slices
import Derived.Lib.SmallJoins
import Derived.Test.YtpdenmcacaajkaaGreatXB1
import Derived.Test.YtpdenmcacaajkaaGreatXB4
import Derived.Test.YtpdenmcacaajkaaGreatXB5
import Derived.Test.YtpdenmcacaajkaaGreatXB6
import Derived.Test.YtpdenmcacaajkaaGreatXB8
import Derived.Test.YtpdenmcacaajkaaGreatXB42
import Derived.Test.YtpdenmcacaajkaaGreatXB43
/-! ### Rf6 -/
namespace Go.Proofs.YtpdenmcacaajkaaGreat
open Go.RowKit
set_option maxRecDepth 100000 in
set_option maxHeartbeats 2000000 in
theorem new_rf6 (t : Tb.T) (v : Value) (w : World) (hv : SeesT w w.heap.size v t.ns) :
    Calls Tryz.prog 99 #[tabV t v] w fun e w' => (if t.is = true then ∃ g, e = .returned (.tuple #[.pointer (some ⟨g, 0, none⟩), .int .i64 0]) else e = .returned (.tuple #[.pointer none, .int .i64 1])) ∧ Below w.heap.size w w' := by
  obtain ⟨A, c, rfl, v1, v2, v3, -⟩ := hv.at_
  have hB0 := (Below.refl w.heap.size w).alloc (Nat.le_refl _) (.cells #[.slice A t.ns.length c, .int .i64 t.dr, .int .i64 t.wi, .int .i64 t.lm] 29)
  have hX := Blk.new w _ rfl #[.slice A t.ns.length c, .int .i64 t.dr, .int .i64 t.wi, .int .i64 t.lm] 29
  have hI := Lib.hid (is_rf t (.slice A t.ns.length c) (w.alloc (.cells #[.slice A t.ns.length c, .int .i64 t.dr, .int .i64 t.wi, .int .i64 t.lm] 29)) w.heap.size (by simp) (hv.below hB0))
  unfold tabV at hI ⊢
  clear hv v3
  have t0 := hX.cell 0 (x := .slice A t.ns.length c) rfl
  have t1 := hX.cell 1 (x := .int .i64 t.dr) rfl
  have t2 := hX.cell 2 (x := .int .i64 t.wi) rfl
  have t3 := hX.cell 3 (x := .int .i64 t.lm) rfl
  cases ht : t.is
  · rw [ht] at hI
    go_enter Tryz.func99, Tryz.ntmps99
    go_wp2_with fail
    refine hI.out.mono ?_
    rintro e w2 ⟨rfl, hb2⟩
    have hB2 := Lib.hid (hB0.trans (hb2.mono hB0.size))
    clear hX hI hB0 hb2 t0 t1 t2 t3
    go_wp2_with fail
    go_ret2
    exact ⟨by simp, hB2.out⟩
  · rw [ht] at hI
    go_enter Tryz.func99, Tryz.ntmps99
    go_wp2_with fail
    refine hI.out.mono ?_
    rintro e w2 ⟨rfl, hb2⟩
    have hB2 := hB0.trans (hb2.mono hB0.size)
    have hX2 := hX.below hb2 hX.lt
    have t0 := hX2.cell 0 (x := .slice A t.ns.length c) rfl
    have t1 := hX2.cell 1 (x := .int .i64 t.dr) rfl
    have t2 := hX2.cell 2 (x := .int .i64 t.wi) rfl
    have t3 := hX2.cell 3 (x := .int .i64 t.lm) rfl
    clear hX hI hB0 hb2
    go_wp2_with fail
    go_ret2
    exact ⟨⟨_, rfl⟩, hB2.alloc hB2.size _⟩
set_option maxRecDepth 100000 in
set_option maxHeartbeats 2000000 in
theorem new_rf11 (t : Tb.T) (v : Value) (w : World) (hv : SeesT w w.heap.size v t.ns) :
    Calls Tryz.prog 48 #[tabV t v] w fun e w' => (if t.is = true then ∃ g, e = .returned (.tuple #[.pointer (some ⟨g, 0, none⟩), .int .i64 0]) else e = .returned (.tuple #[.pointer none, .int .i64 1])) ∧ Below w.heap.size w w' := by
  have hR := fun W (hb : Below w.heap.size w W) => Lib.hid (new_rf6 t v W ((hv.below hb).more hb.size))
  obtain ⟨A, c, rfl, v1, v2, v3, -⟩ := hv.at_
  have hB0 := (Below.refl w.heap.size w).alloc (Nat.le_refl _) (.cells #[.slice A t.ns.length c, .int .i64 t.dr, .int .i64 t.wi, .int .i64 t.lm] 29)
  have hX := Blk.new w _ rfl #[.slice A t.ns.length c, .int .i64 t.dr, .int .i64 t.wi, .int .i64 t.lm] 29
  have hI := Lib.hid (is_rf t (.slice A t.ns.length c) (w.alloc (.cells #[.slice A t.ns.length c, .int .i64 t.dr, .int .i64 t.wi, .int .i64 t.lm] 29)) w.heap.size (by simp) (hv.below hB0))
  unfold tabV at hI hR ⊢
  clear hv v3
  have t0 := hX.cell 0 (x := .slice A t.ns.length c) rfl
  have t1 := hX.cell 1 (x := .int .i64 t.dr) rfl
  have t2 := hX.cell 2 (x := .int .i64 t.wi) rfl
  have t3 := hX.cell 3 (x := .int .i64 t.lm) rfl
  cases ht : t.is
  · rw [ht] at hI
    clear hR
    go_enter Tryz.func48, Tryz.ntmps48
    go_wp2_with fail
    refine hI.out.mono ?_
    rintro e w2 ⟨rfl, hb2⟩
    have hB2 := Lib.hid (hB0.trans (hb2.mono hB0.size))
    clear hX hI hB0 hb2 t0 t1 t2 t3
    go_wp2_with fail
    go_ret2
    exact ⟨by simp, hB2.out⟩
  · rw [ht] at hI hR
    go_enter Tryz.func48, Tryz.ntmps48
    go_wp2_with fail
    refine hI.out.mono ?_
    rintro e w2 ⟨rfl, hb2⟩
    have hB2 := hB0.trans (hb2.mono hB0.size)
    have hX2 := hX.below hb2 hX.lt
    have t0 := hX2.cell 0 (x := .slice A t.ns.length c) rfl
    have t1 := hX2.cell 1 (x := .int .i64 t.dr) rfl
    have t2 := hX2.cell 2 (x := .int .i64 t.wi) rfl
    have t3 := hX2.cell 3 (x := .int .i64 t.lm) rfl
    have h1 := hR _ hB2
    simp only [if_true] at h1
    clear hX hI hB0 hb2
    go_wp2_with fail
    refine h1.out.mono ?_
    rintro e w3 ⟨⟨ga, rfl⟩, hb3⟩
    have hB3 := hB2.trans (hb3.mono hB2.size)
    have hX3 := hX2.below hb3 hX2.lt
    have t0 := hX3.cell 0 (x := .slice A t.ns.length c) rfl
    have t1 := hX3.cell 1 (x := .int .i64 t.dr) rfl
    have t2 := hX3.cell 2 (x := .int .i64 t.wi) rfl
    have t3 := hX3.cell 3 (x := .int .i64 t.lm) rfl
    have h2 := hR _ hB3
    simp only [if_true] at h2
    clear hX2 hb3 hB2 h1
    go_wp2_with fail
    refine h2.out.mono ?_
    rintro e w4 ⟨⟨gb, rfl⟩, hb4⟩
    have hB4 := hB3.trans (hb4.mono hB3.size)
    clear hX3 hb4 hB3 h2 t0 t1 t2 t3
    go_wp2_with fail
    go_ret2
    exact ⟨⟨_, rfl⟩, hB4.alloc hB4.size _⟩
end Go.Proofs.YtpdenmcacaajkaaGreat

/-! ### TbQ -/
namespace Go.Proofs.YtpdenmcacaajkaaGreat
open Go.ChangeShapes Go.WideShapes Go.ChangeAt Go.RowKit Go.Joins Go.Deep
open Tb (D T)

def i64oq (x : Int) : Prop := -9223372036854775808 ≤ x ∧ x ≤ 9223372036854775807
/-- A state. -/
structure CSq where
  r : Int
  s : Int
  m : Int
structure InStateq (s : CSq) : Prop where
  hr : i64oq s.r
  hs : i64oq s.s
  hm : i64oq s.m
structure InTable (w : World) (t : T) (v : Value) : Prop where
  sees : SeesT w w.heap.size v t.ns
  hd : i64oq t.dr
  hw : i64oq t.wi
  hl : i64oq t.lm
section
variable {H : Type} {enc : TypeId × Value → H} {P : Program} {w : World} {base : Nat} {spare : Nat → Bool} {held : Bool}
theorem int_cellq {t : TypeId} {n : Nat} {v : Value} {y : DataW H × List MemPlace} (hi : P.underlying t = some (.int .i64)) (h : DataW.trod enc P w base spare held n t [v] = some y) : ∃ z, v = .int .i64 z ∧ i64oq z := by
  obtain ⟨z, hz, hy, hw⟩ := DataW.trod_int hi h
  exact ⟨z, by simpa using hz, bounds_i64 hw⟩
theorem bool_cellq {t : TypeId} {n : Nat} {v : Value} {y : DataW H × List MemPlace} (hi : P.underlying t = some .bool) (h : DataW.trod enc P w base spare held n t [v] = some y) : ∃ z, v = .bool z := by
  obtain ⟨z, hz, -⟩ := DataW.trod_bool hi h
  exact ⟨z, by simpa using hz⟩
/-- A node's four cells. -/
theorem def_cellsq {t ti tb : TypeId} {f0 f1 f2 f3 : Field} {n : Nat} {c0 c1 c2 c3 : Value} {y : DataW H × List MemPlace} (hs : P.underlying t = some (.struct #[f0, f1, f2, f3])) (t0 : f0.type = tb ∧ f0.offset = 0) (t1 : f1.type = tb ∧ f1.offset = 1) (t2 : f2.type = ti ∧ f2.offset = 2) (t3 : f3.type = ti ∧ f3.offset = 3) (hi : P.underlying ti = some (.int .i64)) (hb : P.underlying tb = some .bool) (hc : P.cellsOf ti = 1) (hcb : P.cellsOf tb = 1)
    (h : DataW.trod enc P w base spare held n t [c0, c1, c2, c3] = some y) : ∃ d : D, c0 = .bool d.sy ∧ c1 = .bool d.inf ∧ c2 = .int .i64 d.li ∧ c3 = .int .i64 d.sz := by
  obtain ⟨y0, y1, y2, y3, m, _, _, h0, h1, h2, h3⟩ := trod_struct4 hs h
  rw [t0.1, t0.2, hcb] at h0
  rw [t1.1, t1.2, hcb] at h1
  rw [t2.1, t2.2, hc] at h2
  rw [t3.1, t3.2, hc] at h3
  obtain ⟨a, rfl⟩ := bool_cellq hb h0
  obtain ⟨b, rfl⟩ := bool_cellq hb h1
  obtain ⟨c, rfl, -⟩ := int_cellq hi h2
  obtain ⟨d, rfl, -⟩ := int_cellq hi h3
  exact ⟨⟨a, b, c, d⟩, rfl, rfl, rfl, rfl⟩
theorem sees_defsq {t e ti tb : TypeId} {f0 f1 f2 f3 : Field} {n : Nat} {v : Value} {y : DataW H × List MemPlace} (ht : P.underlying t = some (.slice e)) (he : P.underlying e = some (.struct #[f0, f1, f2, f3])) (ce : P.cellsOf e = 4) (t0 : f0.type = tb ∧ f0.offset = 0) (t1 : f1.type = tb ∧ f1.offset = 1) (t2 : f2.type = ti ∧ f2.offset = 2) (t3 : f3.type = ti ∧ f3.offset = 3) (hi : P.underlying ti = some (.int .i64)) (hb : P.underlying tb = some .bool) (hc : P.cellsOf ti = 1) (hcb : P.cellsOf tb = 1)
    (h : DataW.trod enc P w base spare held n t [v] = some y) : ∃ l : List D, SeesT w w.heap.size v l := by
  rcases open_slice ht h with ⟨hcs, -⟩ | ⟨a, len, cap, m, k, Dt, Pl, hcs, -, hl, hm, hmm, -, hx⟩
  · obtain rfl : v = .slice none 0 0 := by simpa using hcs
    exact ⟨[], SeesT.nil⟩
  · obtain rfl : v = .slice (some a) len cap := by simpa using hcs
    have hlm : len ≤ m := by rw [hmm]; split <;> omega
    have each : ∀ i, i < len → ∃ d : D, w.cell? (a.add (i * 4)) = some (.bool d.sy) ∧ w.cell? (a.add (i * 4 + 1)) = some (.bool d.inf) ∧ w.cell? (a.add (i * 4 + 2)) = some (.int .i64 d.li) ∧ w.cell? (a.add (i * 4 + 3)) = some (.int .i64 d.sz) := by
      intro i hi'
      obtain ⟨cs', h1, h2⟩ := hx i (by omega)
      rw [ce] at h1
      obtain ⟨_, hlen, hcell⟩ := World.cells?_some h1
      match cs', hlen with
      | [v0, v1, v2, v3], _ =>
        obtain ⟨d, rfl, rfl, rfl, rfl⟩ := def_cellsq he t0 t1 t2 t3 hi hb hc hcb h2
        have e0 := hcell 0 (by omega)
        have e1 := hcell 1 (by omega)
        have e2 := hcell 2 (by omega)
        have e3 := hcell 3 (by omega)
        rw [add_add] at e0 e1 e2 e3
        exact ⟨d, by simpa using e0, by simpa using e1, by simpa using e2, by simpa using e3⟩
    obtain ⟨f, hf⟩ := choose_lt each
    refine ⟨(List.range len).map f, ⟨some a, cap, by simp, by simpa using hl, hm, fun h0 => ?_, fun h => by cases h⟩⟩
    simp only [List.length_map, List.length_range] at h0 ⊢
    have h00 := (hf 0 h0).1
    have h00' : w.cell? (a.add 0) = some (.bool (f 0).sy) := by simpa using h00
    obtain ⟨b, off, spot⟩ := a
    have hsp : spot = none := World.cell?_spot (v := .bool (f 0).sy) (by simpa [Addr.add] using h00')
    subst hsp
    have hadd : ∀ j, (⟨b, off, none⟩ : Addr).add j = ⟨b, off + j, none⟩ := fun j => by unfold Addr.add; split <;> simp_all
    simp only [hadd] at hf
    refine ⟨b, off, rfl, World.block_lt_of_cell? w _ (hf 0 h0).1, fun k hk => ?_⟩
    have hg : ((List.range len).map f).getD k default = f k := by simp [List.getD_eq_getElem?_getD, hk]
    rw [hg]
    obtain ⟨e0, e1, e2, e3⟩ := hf k hk
    exact ⟨e0, by rw [Nat.add_assoc]; exact e1, by rw [Nat.add_assoc]; exact e2, by rw [Nat.add_assoc]; exact e3⟩
theorem sees_table {r : Reach} {b0 : Nat} {t tn e ti tb : TypeId} {g0 g1 g2 g3 f0 f1 f2 f3 : Field} {v : Value} {d : DataW H} {ps : List MemPlace} (hF : P.underlying t = some (.struct #[g0, g1, g2, g3])) (hC : P.cellsOf t = 4) (u0 : g0.type = tn ∧ g0.offset = 0) (u1 : g1.type = ti ∧ g1.offset = 1) (u2 : g2.type = ti ∧ g2.offset = 2) (u3 : g3.type = ti ∧ g3.offset = 3)
    (hn : P.underlying tn = some (.slice e)) (cn : P.cellsOf tn = 1) (he : P.underlying e = some (.struct #[f0, f1, f2, f3])) (ce : P.cellsOf e = 4) (t0 : f0.type = tb ∧ f0.offset = 0) (t1 : f1.type = tb ∧ f1.offset = 1) (t2 : f2.type = ti ∧ f2.offset = 2) (t3 : f3.type = ti ∧ f3.offset = 3)
    (hi : P.underlying ti = some (.int .i64)) (hb : P.underlying tb = some .bool) (hc : P.cellsOf ti = 1) (hcb : P.cellsOf tb = 1)
    (hv : Value.okWide P w r b0 t v) (h : DataW.Trod enc P w base spare held t v d ps) : ∃ (x : T) (s : Value), v = tabV x s ∧ InTable w x s := by
  obtain ⟨cs, rfl, hsz⟩ := okWide_struct hF hv
  obtain ⟨c0, c1, c2, c3, rfl⟩ := array4 (hsz.trans hC)
  obtain ⟨fuel, hf⟩ := h
  obtain ⟨y0, y1, y2, y3, n, hx, _, h0, h1, h2, h3⟩ := trod_struct4 hF hf
  rw [u0.1, u0.2, cn] at h0
  rw [u1.1, u1.2, hc] at h1
  rw [u2.1, u2.2, hc] at h2
  rw [u3.1, u3.2, hc] at h3
  have h0' : DataW.trod enc P w base spare held n tn [c0] = some y0 := h0
  obtain ⟨l, hl⟩ := sees_defsq hn he ce t0 t1 t2 t3 hi hb hc hcb h0'
  obtain ⟨a, rfl, ha⟩ := int_cellq hi h1
  obtain ⟨b, rfl, hb'⟩ := int_cellq hi h2
  obtain ⟨c, rfl, hc'⟩ := int_cellq hi h3
  exact ⟨⟨l, a, b, c⟩, c0, rfl, hl, ha, hb', hc'⟩
end
end Go.Proofs.YtpdenmcacaajkaaGreat

/-! ### RlO -/
namespace Go.Proofs.YtpdenmcacaajkaaGreat
open Go.ChangeShapes Go.WideShapes Go.ChangeAt Go.RowKit Go.Joins Go.Deep

section
variable {H : Type} {enc : TypeId × Value → H} {P : Program} {w : World} {base : Nat} {spare : Nat → Bool} {held : Bool}
/-- A rule's four cells. -/
theorem rule_cells {t ti : TypeId} {f0 f1 f2 f3 : Field} {n : Nat} {c0 c1 c2 c3 : Value} {y : DataW H × List MemPlace} (hs : P.underlying t = some (.struct #[f0, f1, f2, f3])) (t0 : f0.type = ti ∧ f0.offset = 0) (t1 : f1.type = ti ∧ f1.offset = 1) (t2 : f2.type = ti ∧ f2.offset = 2) (t3 : f3.type = ti ∧ f3.offset = 3) (hi : P.underlying ti = some (.int .i64)) (hc : P.cellsOf ti = 1)
    (h : DataW.trod enc P w base spare held n t [c0, c1, c2, c3] = some y) : ∃ d : R4, c0 = .int .i64 d.n ∧ c1 = .int .i64 d.lo ∧ c2 = .int .i64 d.hi ∧ c3 = .int .i64 d.st := by
  obtain ⟨y0, y1, y2, y3, m, _, _, h0, h1, h2, h3⟩ := trod_struct4 hs h
  rw [t0.1, t0.2, hc] at h0
  rw [t1.1, t1.2, hc] at h1
  rw [t2.1, t2.2, hc] at h2
  rw [t3.1, t3.2, hc] at h3
  obtain ⟨a, rfl, -⟩ := int_cellq hi h0
  obtain ⟨b, rfl, -⟩ := int_cellq hi h1
  obtain ⟨c, rfl, -⟩ := int_cellq hi h2
  obtain ⟨d, rfl, -⟩ := int_cellq hi h3
  exact ⟨⟨a, b, c, d⟩, rfl, rfl, rfl, rfl⟩
theorem sees_rules0 {t e ti : TypeId} {f0 f1 f2 f3 : Field} {n : Nat} {v : Value} {y : DataW H × List MemPlace} (ht : P.underlying t = some (.slice e)) (he : P.underlying e = some (.struct #[f0, f1, f2, f3])) (ce : P.cellsOf e = 4) (t0 : f0.type = ti ∧ f0.offset = 0) (t1 : f1.type = ti ∧ f1.offset = 1) (t2 : f2.type = ti ∧ f2.offset = 2) (t3 : f3.type = ti ∧ f3.offset = 3) (hi : P.underlying ti = some (.int .i64)) (hc : P.cellsOf ti = 1)
    (h : DataW.trod enc P w base spare held n t [v] = some y) : ∃ l : List R4, SeesRs w w.heap.size v l := by
  rcases open_slice ht h with ⟨hcs, -⟩ | ⟨a, len, cap, m, k, Dt, Pl, hcs, -, hl, hm, hmm, -, hx⟩
  · obtain rfl : v = .slice none 0 0 := by simpa using hcs
    exact ⟨[], SeesRs.nil⟩
  · obtain rfl : v = .slice (some a) len cap := by simpa using hcs
    have hlm : len ≤ m := by rw [hmm]; split <;> omega
    have each : ∀ i, i < len → ∃ d : R4, w.cell? (a.add (i * 4)) = some (.int .i64 d.n) ∧ w.cell? (a.add (i * 4 + 1)) = some (.int .i64 d.lo) ∧ w.cell? (a.add (i * 4 + 2)) = some (.int .i64 d.hi) ∧ w.cell? (a.add (i * 4 + 3)) = some (.int .i64 d.st) := by
      intro i hi'
      obtain ⟨cs', h1, h2⟩ := hx i (by omega)
      rw [ce] at h1
      obtain ⟨_, hlen, hcell⟩ := World.cells?_some h1
      match cs', hlen with
      | [v0, v1, v2, v3], _ =>
        obtain ⟨d, rfl, rfl, rfl, rfl⟩ := rule_cells he t0 t1 t2 t3 hi hc h2
        have e0 := hcell 0 (by omega)
        have e1 := hcell 1 (by omega)
        have e2 := hcell 2 (by omega)
        have e3 := hcell 3 (by omega)
        rw [add_add] at e0 e1 e2 e3
        exact ⟨d, by simpa using e0, by simpa using e1, by simpa using e2, by simpa using e3⟩
    obtain ⟨f, hf⟩ := choose_lt each
    refine ⟨(List.range len).map f, ⟨some a, cap, by simp, by simpa using hl, hm, fun h0 => ?_, fun h => by cases h⟩⟩
    simp only [List.length_map, List.length_range] at h0 ⊢
    have h00 := (hf 0 h0).1
    have h00' : w.cell? (a.add 0) = some (.int .i64 (f 0).n) := by simpa using h00
    obtain ⟨b, off, spot⟩ := a
    have hsp : spot = none := World.cell?_spot (v := .int .i64 (f 0).n) (by simpa [Addr.add] using h00')
    subst hsp
    have hadd : ∀ j, (⟨b, off, none⟩ : Addr).add j = ⟨b, off + j, none⟩ := fun j => by unfold Addr.add; split <;> simp_all
    simp only [hadd] at hf
    refine ⟨b, off, rfl, World.block_lt_of_cell? w _ (hf 0 h0).1, fun k hk => ?_⟩
    have hg : ((List.range len).map f).getD k default = f k := by simp [List.getD_eq_getElem?_getD, hk]
    rw [hg]
    obtain ⟨e0, e1, e2, e3⟩ := hf k hk
    exact ⟨e0, by rw [Nat.add_assoc]; exact e1, by rw [Nat.add_assoc]; exact e2, by rw [Nat.add_assoc]; exact e3⟩
theorem sees_rules {t e ti : TypeId} {f0 f1 f2 f3 : Field} {A : Option Addr} {n c : Nat} {d : DataW H} {ps : List MemPlace} (ht : P.underlying t = some (.slice e)) (he : P.underlying e = some (.struct #[f0, f1, f2, f3])) (ce : P.cellsOf e = 4) (t0 : f0.type = ti ∧ f0.offset = 0) (t1 : f1.type = ti ∧ f1.offset = 1) (t2 : f2.type = ti ∧ f2.offset = 2) (t3 : f3.type = ti ∧ f3.offset = 3) (hi : P.underlying ti = some (.int .i64)) (hc : P.cellsOf ti = 1)
    (h : DataW.Trod enc P w base spare held t (.slice A n c) d ps) : ∃ l : List R4, SeesRs w w.heap.size (.slice A n c) l := by
  obtain ⟨fuel, hf⟩ := h
  exact sees_rules0 ht he ce t0 t1 t2 t3 hi hc hf
end
end Go.Proofs.YtpdenmcacaajkaaGreat

/-! ### ClO -/
namespace Go.Proofs.YtpdenmcacaajkaaGreat
open Go.ChangeShapes Go.WideShapes Go.ChangeAt Go.RowKit

structure InInts (w : World) (v : Value) (l : List Int) : Prop where
  sees : SeesI w w.heap.size v l
  i64 : ∀ x ∈ l, -9223372036854775808 ≤ x ∧ x ≤ 9223372036854775807
section
variable {H : Type} {enc : TypeId × Value → H} {P : Program} {w : World} {base : Nat} {spare : Nat → Bool} {held : Bool}
theorem sees_ints {t e : TypeId} (ht : P.underlying t = some (.slice e)) (he : P.underlying e = some (.int .i64)) (hc : P.cellsOf e = 1) {A : Option Addr} {n c : Nat} {d : DataW H} {ps : List MemPlace}
    (h : DataW.Trod enc P w base spare held t (.slice A n c) d ps) : ∃ l, InInts w (.slice A n c) l := by
  obtain ⟨fuel, hf⟩ := h
  rcases open_ints ht he hc hf with ⟨hcs, _⟩ | ⟨x, l, cp, zs, hcs, _, hl, hm, hz, _, hcell, hwz⟩
  · simp [Value.cells] at hcs
    obtain ⟨rfl, rfl, rfl⟩ := hcs
    exact ⟨[], SeesI.nil, fun x hx => by simp at hx⟩
  · simp [Value.cells] at hcs
    obtain ⟨rfl, rfl, rfl⟩ := hcs
    have hnz : n ≤ zs.length := by rw [hz]; split <;> omega
    have hlen : (zs.take n).length = n := by simp; omega
    refine ⟨zs.take n, ⟨some x, c, by rw [hlen], by rw [hlen]; exact hl, hm, fun h0 => ?_, fun h => by cases h⟩, fun y hy => bounds_i64 (hwz y (List.mem_of_mem_take hy))⟩
    rw [hlen] at h0 ⊢
    obtain ⟨b, off, rfl, hb⟩ := addr_at (hcell 0 (by omega))
    refine ⟨b, off, rfl, hb, fun k hk => ?_⟩
    have := hcell k (by omega)
    have e : iv (zs.take n) k = .int .i64 (zs.getD k 0) := by simp [iv, List.getD_eq_getElem?_getD, hk]
    rw [e]
    by_cases h0 : k = 0
    · subst h0; simpa [Addr.add] using this
    · simpa [Addr.add, h0] using this
end
end Go.Proofs.YtpdenmcacaajkaaGreat

/-! ### WnBase -/
