/- WardOfNothing holds: a nil Ward is nothing. For all arguments. -/
import Derived.Lib.SmallJoins
import Derived.BigRegion
import Derived.Deep.RegionWith
import Derived.Test.YtjoioojckekfhaaGreatVB52
namespace Go.Proofs.YtjoioojckekfhaaGreat
open Go.ChangeShapes Go.WideShapes Go.ChangeAt Go.RowKit Go.Joins Go.Deep

structure A4 where
  k : Int
  n : Int
  A : Option Addr
  c : Nat
  l : List Int
  q : Bool
  deriving Inhabited
/-- The cells of one, and its bytes. -/
structure A4At (w : World) (b off : Nat) (x : A4) : Prop where
  c0 : w.cell? ⟨b, off, none⟩ = some (.int .i64 x.k)
  c1 : w.cell? ⟨b, off + 1, none⟩ = some (.int .i64 x.n)
  c2 : w.cell? ⟨b, off + 2, none⟩ = some (.slice x.A x.l.length x.c)
  c3 : w.cell? ⟨b, off + 3, none⟩ = some (.bool x.q)
structure InA4 (w : World) (v : Value) (n : Nat) (f : Nat → A4) : Prop where
  at_ : ∃ A c, v = .slice A n c ∧ n ≤ c ∧ c ≤ maxLen ∧ (0 < n → ∃ b off, A = some ⟨b, off, none⟩ ∧ b < w.heap.size ∧ ∀ k, k < n → A4At w b (off + k * 4) (f k))
  sees : ∀ k, k < n → SeesL w w.heap.size (.slice (f k).A (f k).l.length (f k).c) (f k).l ∧ bytesL (f k).l
section
variable {H : Type} {enc : TypeId × Value → H} {P : Program} {w : World} {base : Nat} {spare : Nat → Bool} {held : Bool}
/-- A list of bytes that came in, of whatever length. -/
theorem sees_list {t e : TypeId} {fuel : Nat} {v : Value} {y : DataW H × List MemPlace} (ht : P.underlying t = some (.slice e)) (he : P.underlying e = some (.int .u8)) (hc : P.cellsOf e = 1)
    (h : DataW.trod enc P w base spare held fuel t [v] = some y) : ∃ A c l, v = .slice A l.length c ∧ SeesL w w.heap.size (.slice A l.length c) l ∧ bytesL l := by
  rcases open_ints ht he hc h with ⟨hcs, _⟩ | ⟨x, n, c, zs, hcs, _, hl, hm, hz, _, hcell, hwz⟩
  · obtain rfl : v = .slice none 0 0 := by simpa using hcs
    exact ⟨none, 0, [], rfl, SeesL.nil, fun x hx => by simp at hx⟩
  · obtain rfl : v = .slice (some x) n c := by simpa using hcs
    have hnz : n ≤ zs.length := by rw [hz]; split <;> omega
    have hlen : (zs.take n).length = n := by simp; omega
    refine ⟨some x, c, zs.take n, by rw [hlen], ⟨some x, c, rfl, by rw [hlen]; exact hl, hm, ?_, fun h => by cases h⟩, fun z hz' => ?_⟩
    · rw [hlen]
      intro h0
      obtain ⟨b, off, rfl, hb⟩ := addr_at (hcell 0 (by omega))
      refine ⟨b, off, rfl, hb, fun k hk => ?_⟩
      have e : bv (zs.take n) k = .int .u8 (zs.getD k 0) := by simp [bv, List.getD_eq_getElem?_getD, hk]
      rw [e]
      have := hcell k (by omega)
      by_cases h0 : k = 0
      · subst h0; simpa [Addr.add] using this
      · simpa [Addr.add, h0] using this
    · have := bounds_u8 (hwz z (List.mem_of_mem_take hz'))
      omega
theorem int_cella {t : TypeId} {n : Nat} {v : Value} {y : DataW H × List MemPlace} (hi : P.underlying t = some (.int .i64)) (h : DataW.trod enc P w base spare held n t [v] = some y) : ∃ z, v = .int .i64 z := by
  obtain ⟨z, hz, -⟩ := DataW.trod_int hi h
  exact ⟨z, by simpa using hz⟩
theorem bool_cella {t : TypeId} {n : Nat} {v : Value} {y : DataW H × List MemPlace} (hi : P.underlying t = some .bool) (h : DataW.trod enc P w base spare held n t [v] = some y) : ∃ z, v = .bool z := by
  obtain ⟨z, hz, -⟩ := DataW.trod_bool hi h
  exact ⟨z, by simpa using hz⟩
theorem sees_acts4 {t e ti tb ts te : TypeId} {f0 f1 f2 f3 : Field} {A : Option Addr} {n c : Nat} {d : DataW H} {ps : List MemPlace} (ht : P.underlying t = some (.slice e)) (he : P.underlying e = some (.struct #[f0, f1, f2, f3])) (ce : P.cellsOf e = 4) (t0 : f0.type = ti ∧ f0.offset = 0) (t1 : f1.type = ti ∧ f1.offset = 1) (t2 : f2.type = ts ∧ f2.offset = 2) (t3 : f3.type = tb ∧ f3.offset = 3)
    (hi : P.underlying ti = some (.int .i64)) (hb : P.underlying tb = some .bool) (hs : P.underlying ts = some (.slice te)) (hu : P.underlying te = some (.int .u8)) (hc : P.cellsOf ti = 1) (hcb : P.cellsOf tb = 1) (hcs : P.cellsOf ts = 1) (hce : P.cellsOf te = 1)
    (h : DataW.Trod enc P w base spare held t (.slice A n c) d ps) : ∃ f, InA4 w (.slice A n c) n f := by
  obtain ⟨fuel, h⟩ := h
  rcases open_slice ht h with ⟨hv, -⟩ | ⟨a, len, cap, m, k, Dt, Pl, hv, -, hl, hm, hmm, -, hx⟩
  · simp [Value.cells] at hv
    obtain ⟨rfl, rfl, rfl⟩ := hv
    exact ⟨fun _ => default, ⟨none, 0, rfl, Nat.le_refl _, Nat.zero_le _, fun h => absurd h (Nat.lt_irrefl _)⟩, fun k hk => absurd hk (by omega)⟩
  · simp [Value.cells] at hv
    obtain ⟨rfl, rfl, rfl⟩ := hv
    have hlm : n ≤ m := by rw [hmm]; split <;> omega
    have each : ∀ i, i < n → ∃ x : A4, (w.cell? (a.add (i * 4)) = some (.int .i64 x.k) ∧ w.cell? (a.add (i * 4 + 1)) = some (.int .i64 x.n) ∧ w.cell? (a.add (i * 4 + 2)) = some (.slice x.A x.l.length x.c) ∧ w.cell? (a.add (i * 4 + 3)) = some (.bool x.q)) ∧ SeesL w w.heap.size (.slice x.A x.l.length x.c) x.l ∧ bytesL x.l := by
      intro i hi'
      obtain ⟨cs', h1, h2⟩ := hx i (by omega)
      rw [ce] at h1
      obtain ⟨_, hlen, hcell⟩ := World.cells?_some h1
      match cs', hlen with
      | [v0, v1, v2, v3], _ =>
        obtain ⟨y0, y1, y2, y3, q, _, _, g0, g1, g2, g3⟩ := trod_struct4 he h2
        rw [t0.1, t0.2, hc] at g0
        rw [t1.1, t1.2, hc] at g1
        rw [t2.1, t2.2, hcs] at g2
        rw [t3.1, t3.2, hcb] at g3
        obtain ⟨z0, rfl⟩ := int_cella hi g0
        obtain ⟨z1, rfl⟩ := int_cella hi g1
        obtain ⟨A', c', l, rfl, hS, hB⟩ := sees_list hs hu hce g2
        obtain ⟨z3, rfl⟩ := bool_cella hb g3
        have e0 := hcell 0 (by omega)
        have e1 := hcell 1 (by omega)
        have e2 := hcell 2 (by omega)
        have e3 := hcell 3 (by omega)
        rw [add_add] at e0 e1 e2 e3
        exact ⟨⟨z0, z1, A', c', l, z3⟩, ⟨by simpa using e0, by simpa using e1, by simpa using e2, by simpa using e3⟩, hS, hB⟩
    obtain ⟨f, hf⟩ := choose_lt each
    refine ⟨f, ⟨some a, c, rfl, hl, hm, fun h0 => ?_⟩, fun k hk => (hf k hk).2⟩
    have h00 := (hf 0 h0).1.1
    obtain ⟨b, off, rfl, hbb⟩ := addr_at (v := .int .i64 (f 0).k) (by simpa using h00)
    have hadd : ∀ j, (⟨b, off, none⟩ : Addr).add j = ⟨b, off + j, none⟩ := fun j => by unfold Addr.add; split <;> simp_all
    simp only [hadd] at hf
    refine ⟨b, off, rfl, hbb, fun k hk => ?_⟩
    obtain ⟨⟨e0, e1, e2, e3⟩, -⟩ := hf k hk
    exact ⟨e0, by rw [Nat.add_assoc]; exact e1, by rw [Nat.add_assoc]; exact e2, by rw [Nat.add_assoc]; exact e3⟩
end
end Go.Proofs.YtjoioojckekfhaaGreat

namespace Go.Proofs.YtjoioojckekfhaaGreat
open Go.ChangeShapes Go.WideShapes Go.ChangeAt Go.RowKit Go.Joins Go.Deep

section
variable {H : Type} {enc : TypeId × Value → H} {P : Program} {w : World} {base : Nat} {spare : Nat → Bool} {held : Bool}
theorem sees_fault {r : Reach} {b0 : Nat} {t ti ts te : TypeId} {f0 f1 f2 f3 : Field} {v : Value} {d : DataW H} {ps : List MemPlace} (hs : P.underlying t = some (.struct #[f0, f1, f2, f3])) (hC : P.cellsOf t = 4) (t0 : f0.type = ti ∧ f0.offset = 0) (t1 : f1.type = ti ∧ f1.offset = 1) (t2 : f2.type = ti ∧ f2.offset = 2) (t3 : f3.type = ts ∧ f3.offset = 3)
    (hi : P.underlying ti = some (.int .i64)) (hsl : P.underlying ts = some (.slice te)) (hu : P.underlying te = some (.int .u8)) (hc : P.cellsOf ti = 1) (hcs : P.cellsOf ts = 1) (hce : P.cellsOf te = 1)
    (hv : Value.okWide P w r b0 t v) (h : DataW.Trod enc P w base spare held t v d ps) : ∃ (f : Ft) (A : Option Addr) (c : Nat), v = .agg #[.int .i64 f.k, .int .i64 f.n, .int .i64 f.a, .slice A f.d.length c] ∧ SeesL w w.heap.size (.slice A f.d.length c) f.d ∧ bytesL f.d := by
  obtain ⟨cs, rfl, hsz⟩ := okWide_struct hs hv
  obtain ⟨c0, c1, c2, c3, rfl⟩ := array4 (hsz.trans hC)
  obtain ⟨fuel, hf⟩ := h
  obtain ⟨y0, y1, y2, y3, q, _, _, g0, g1, g2, g3⟩ := trod_struct4 hs hf
  rw [t0.1, t0.2, hc] at g0
  rw [t1.1, t1.2, hc] at g1
  rw [t2.1, t2.2, hc] at g2
  rw [t3.1, t3.2, hcs] at g3
  obtain ⟨z0, rfl⟩ := int_cella hi g0
  obtain ⟨z1, rfl⟩ := int_cella hi g1
  obtain ⟨z2, rfl⟩ := int_cella hi g2
  obtain ⟨A, c, l, rfl, hS, hB⟩ := sees_list hsl hu hce g3
  exact ⟨⟨z0, z1, z2, l⟩, A, c, rfl, hS, hB⟩
end
end Go.Proofs.YtjoioojckekfhaaGreat

namespace Go.Proofs.YtjoioojckekfhaaGreat
open Go.ChangeShapes Go.WideShapes Go.ChangeAt Go.RowKit Go.Joins Go.Deep

/-- An act. -/
structure Ac where
  k : Int
  i : Int
  n : Int
  d : List Int
  f : List Ft
instance : Inhabited Ac := ⟨⟨0, 0, 0, [], []⟩⟩
/-- An act's five cells. -/
structure AcAt (W : World) (B b off : Nat) (x : Ac) : Prop where
  c0 : W.cell? ⟨b, off, none⟩ = some (.int .i64 x.k)
  c1 : W.cell? ⟨b, off + 1, none⟩ = some (.int .i64 x.i)
  c2 : W.cell? ⟨b, off + 2, none⟩ = some (.int .i64 x.n)
  c3 : ∃ v, W.cell? ⟨b, off + 3, none⟩ = some v ∧ SeesL W B v x.d
  c4 : ∃ v, W.cell? ⟨b, off + 4, none⟩ = some v ∧ SeesF W B v x.f
/-- Acts in memory. -/
structure SeesAc (W : World) (B : Nat) (v : Value) (l : List Ac) : Prop where
  at_ : ∃ A c, v = .slice A l.length c ∧ l.length ≤ c ∧ c ≤ maxLen ∧ (0 < l.length → ∃ b off, A = some ⟨b, off, none⟩ ∧ b < B ∧ ∀ i, i < l.length → AcAt W B b (off + i * 5) (l.getD i default))
  by_ : ∀ x ∈ l, bytesL x.d
theorem AcAt.below {W W' : World} {B b off : Nat} {x : Ac} (h : AcAt W B b off x) (hb : Below B W W') (hl : b < B) : AcAt W' B b off x := by
  obtain ⟨c0, c1, c2, ⟨v3, c3, s3⟩, v4, c4, s4⟩ := h
  exact ⟨(hb.cell (p := ⟨b, off, none⟩) hl).trans c0, (hb.cell (p := ⟨b, off + 1, none⟩) hl).trans c1, (hb.cell (p := ⟨b, off + 2, none⟩) hl).trans c2, ⟨v3, (hb.cell (p := ⟨b, off + 3, none⟩) hl).trans c3, s3.below hb⟩, v4, (hb.cell (p := ⟨b, off + 4, none⟩) hl).trans c4, s4.below hb⟩
theorem AcAt.more {W : World} {B B' b off : Nat} {x : Ac} (h : AcAt W B b off x) (hB : B ≤ B') : AcAt W B' b off x := by
  obtain ⟨c0, c1, c2, ⟨v3, c3, s3⟩, v4, c4, s4⟩ := h
  exact ⟨c0, c1, c2, ⟨v3, c3, s3.more hB⟩, v4, c4, s4.more hB⟩
theorem SeesAc.below {W W' : World} {B : Nat} {v : Value} {l : List Ac} (h : SeesAc W B v l) (hb : Below B W W') : SeesAc W' B v l := ⟨by
  obtain ⟨A, c, rfl, h1, h2, h3⟩ := h.at_
  refine ⟨A, c, rfl, h1, h2, fun h0 => ?_⟩
  obtain ⟨b, off, rfl, hbB, hc⟩ := h3 h0
  exact ⟨b, off, rfl, hbB, fun i hi => (hc i hi).below hb hbB⟩, h.by_⟩
theorem SeesAc.more {W : World} {B B' : Nat} {v : Value} {l : List Ac} (h : SeesAc W B v l) (hB : B ≤ B') : SeesAc W B' v l := ⟨by
  obtain ⟨A, c, rfl, h1, h2, h3⟩ := h.at_
  refine ⟨A, c, rfl, h1, h2, fun h0 => ?_⟩
  obtain ⟨b, off, rfl, hbB, hc⟩ := h3 h0
  exact ⟨b, off, rfl, by omega, fun i hi => (hc i hi).more hB⟩, h.by_⟩
theorem SeesAc.nil {W : World} {B : Nat} : SeesAc W B (.slice none 0 0) [] := ⟨⟨none, 0, rfl, Nat.le_refl _, Nat.zero_le _, fun h => absurd h (by simp)⟩, fun _ h => by cases h⟩
theorem acAt (l : List Ac) (k : Nat) (hk : k < l.length) : l.getD k default ∈ l := by
  rw [List.getD_eq_getElem?_getD, List.getElem?_eq_getElem hk]
  exact List.getElem_mem hk

section
variable {H : Type} {enc : TypeId × Value → H} {P : Program} {w : World} {base : Nat} {spare : Nat → Bool} {held : Bool}
theorem array5a {α : Type} {cs : Array α} (h : cs.size = 5) : ∃ c0 c1 c2 c3 c4, cs = #[c0, c1, c2, c3, c4] := by
  obtain ⟨l⟩ := cs
  match l, h with
  | [c0, c1, c2, c3, c4], _ => exact ⟨c0, c1, c2, c3, c4, rfl⟩
theorem trod_struct5 {t : TypeId} {f0 f1 f2 f3 f4 : Field} {fuel : Nat} {cs : List Value} {x : DataW H × List MemPlace} (ht : P.underlying t = some (.struct #[f0, f1, f2, f3, f4])) (h : DataW.trod enc P w base spare held fuel t cs = some x) :
    ∃ y0 y1 y2 y3 y4 n, cs.length = P.cellsOf t ∧ DataW.trod enc P w base spare held n f0.type ((cs.drop f0.offset).take (P.cellsOf f0.type)) = some y0 ∧
      DataW.trod enc P w base spare held n f1.type ((cs.drop f1.offset).take (P.cellsOf f1.type)) = some y1 ∧ DataW.trod enc P w base spare held n f2.type ((cs.drop f2.offset).take (P.cellsOf f2.type)) = some y2 ∧
      DataW.trod enc P w base spare held n f3.type ((cs.drop f3.offset).take (P.cellsOf f3.type)) = some y3 ∧ DataW.trod enc P w base spare held n f4.type ((cs.drop f4.offset).take (P.cellsOf f4.type)) = some y4 := by
  obtain ⟨xs, n, _, rfl, hl, hlen, hf⟩ := DataW.trod_struct ht h
  match xs, hlen with
  | [y0, y1, y2, y3, y4], _ => exact ⟨y0, y1, y2, y3, y4, n, hl, by simpa using hf 0 f0 rfl, by simpa using hf 1 f1 rfl, by simpa using hf 2 f2 rfl, by simpa using hf 3 f3 rfl, by simpa using hf 4 f4 rfl⟩
/-- Faults that came in. -/
theorem sees_faults {t e ti ts te : TypeId} {f0 f1 f2 f3 : Field} {n : Nat} {v : Value} {y : DataW H × List MemPlace} (ht : P.underlying t = some (.slice e)) (he : P.underlying e = some (.struct #[f0, f1, f2, f3])) (ce : P.cellsOf e = 4) (t0 : f0.type = ti ∧ f0.offset = 0) (t1 : f1.type = ti ∧ f1.offset = 1) (t2 : f2.type = ti ∧ f2.offset = 2) (t3 : f3.type = ts ∧ f3.offset = 3)
    (hi : P.underlying ti = some (.int .i64)) (hs : P.underlying ts = some (.slice te)) (hu : P.underlying te = some (.int .u8)) (hc : P.cellsOf ti = 1) (hcs : P.cellsOf ts = 1) (hce : P.cellsOf te = 1)
    (h : DataW.trod enc P w base spare held n t [v] = some y) : ∃ l : List Ft, SeesF w w.heap.size v l := by
  rcases open_slice ht h with ⟨hv, -⟩ | ⟨a, len, cap, m, k, Dt, Pl, hv, -, hl, hm, hmm, -, hx⟩
  · obtain rfl : v = .slice none 0 0 := by simpa using hv
    exact ⟨[], SeesF.nil⟩
  · obtain rfl : v = .slice (some a) len cap := by simpa using hv
    have hlm : len ≤ m := by rw [hmm]; split <;> omega
    have each : ∀ i, i < len → ∃ x : Ft × Value, (w.cell? (a.add (i * 4)) = some (.int .i64 x.1.k) ∧ w.cell? (a.add (i * 4 + 1)) = some (.int .i64 x.1.n) ∧ w.cell? (a.add (i * 4 + 2)) = some (.int .i64 x.1.a) ∧ w.cell? (a.add (i * 4 + 3)) = some x.2) ∧ SeesL w w.heap.size x.2 x.1.d ∧ bytesL x.1.d := by
      intro i hi'
      obtain ⟨cs', h1, h2⟩ := hx i (by omega)
      rw [ce] at h1
      obtain ⟨_, hlen, hcell⟩ := World.cells?_some h1
      match cs', hlen with
      | [v0, v1, v2, v3], _ =>
        obtain ⟨y0, y1, y2, y3, q, _, _, g0, g1, g2, g3⟩ := trod_struct4 he h2
        rw [t0.1, t0.2, hc] at g0
        rw [t1.1, t1.2, hc] at g1
        rw [t2.1, t2.2, hc] at g2
        rw [t3.1, t3.2, hcs] at g3
        obtain ⟨z0, rfl⟩ := int_cella hi g0
        obtain ⟨z1, rfl⟩ := int_cella hi g1
        obtain ⟨z2, rfl⟩ := int_cella hi g2
        obtain ⟨A', c', l, rfl, hS, hB⟩ := sees_list hs hu hce g3
        have e0 := hcell 0 (by omega)
        have e1 := hcell 1 (by omega)
        have e2 := hcell 2 (by omega)
        have e3 := hcell 3 (by omega)
        rw [add_add] at e0 e1 e2 e3
        exact ⟨(⟨z0, z1, z2, l⟩, _), ⟨by simpa using e0, by simpa using e1, by simpa using e2, by simpa using e3⟩, hS, hB⟩
    obtain ⟨f, hf⟩ := choose_lt each
    have hg : ∀ k, k < len → ((List.range len).map fun i => (f i).1).getD k default = (f k).1 := fun k hk => by simp [List.getD_eq_getElem?_getD, hk]
    refine ⟨(List.range len).map fun i => (f i).1, ⟨⟨some a, cap, by simp, by simpa using hl, hm, fun h0 => ?_⟩, fun x hx => ?_⟩⟩
    · simp only [List.length_map, List.length_range] at h0 ⊢
      have h00 := (hf 0 h0).1.1
      obtain ⟨b, off, rfl, hbb⟩ := addr_at (v := .int .i64 (f 0).1.k) (by simpa using h00)
      have hadd : ∀ j, (⟨b, off, none⟩ : Addr).add j = ⟨b, off + j, none⟩ := fun j => by unfold Addr.add; split <;> simp_all
      simp only [hadd] at hf
      refine ⟨b, off, rfl, hbb, fun k hk => ?_⟩
      obtain ⟨⟨e0, e1, e2, e3⟩, hS, -⟩ := hf k hk
      rw [hg k hk]
      exact ⟨e0, by rw [Nat.add_assoc]; exact e1, by rw [Nat.add_assoc]; exact e2, _, by rw [Nat.add_assoc]; exact e3, hS⟩
    · simp only [List.mem_map, List.mem_range] at hx
      obtain ⟨i, hi', rfl⟩ := hx
      exact (hf i hi').2.2
/-- An act's cells that came in. -/
theorem act_cells {t ti ts te tf ef : TypeId} {a0 a1 a2 a3 a4 f0 f1 f2 f3 : Field} {n : Nat} {v0 v1 v2 v3 v4 : Value} {y : DataW H × List MemPlace} (ha : P.underlying t = some (.struct #[a0, a1, a2, a3, a4])) (u0 : a0.type = ti ∧ a0.offset = 0) (u1 : a1.type = ti ∧ a1.offset = 1) (u2 : a2.type = ti ∧ a2.offset = 2) (u3 : a3.type = ts ∧ a3.offset = 3) (u4 : a4.type = tf ∧ a4.offset = 4)
    (ht : P.underlying tf = some (.slice ef)) (he : P.underlying ef = some (.struct #[f0, f1, f2, f3])) (ce : P.cellsOf ef = 4) (t0 : f0.type = ti ∧ f0.offset = 0) (t1 : f1.type = ti ∧ f1.offset = 1) (t2 : f2.type = ti ∧ f2.offset = 2) (t3 : f3.type = ts ∧ f3.offset = 3)
    (hi : P.underlying ti = some (.int .i64)) (hs : P.underlying ts = some (.slice te)) (hu : P.underlying te = some (.int .u8)) (hc : P.cellsOf ti = 1) (hcs : P.cellsOf ts = 1) (hcf : P.cellsOf tf = 1) (hce : P.cellsOf te = 1)
    (h : DataW.trod enc P w base spare held n t [v0, v1, v2, v3, v4] = some y) : ∃ x : Ac, v0 = .int .i64 x.k ∧ v1 = .int .i64 x.i ∧ v2 = .int .i64 x.n ∧ SeesL w w.heap.size v3 x.d ∧ SeesF w w.heap.size v4 x.f ∧ bytesL x.d := by
  obtain ⟨y0, y1, y2, y3, y4, q, _, g0, g1, g2, g3, g4⟩ := trod_struct5 ha h
  rw [u0.1, u0.2, hc] at g0
  rw [u1.1, u1.2, hc] at g1
  rw [u2.1, u2.2, hc] at g2
  rw [u3.1, u3.2, hcs] at g3
  rw [u4.1, u4.2, hcf] at g4
  obtain ⟨z0, rfl⟩ := int_cella hi g0
  obtain ⟨z1, rfl⟩ := int_cella hi g1
  obtain ⟨z2, rfl⟩ := int_cella hi g2
  obtain ⟨A', c', l, rfl, hS, hB⟩ := sees_list hs hu hce g3
  obtain ⟨lf, hF⟩ := sees_faults (v := v4) ht he ce t0 t1 t2 t3 hi hs hu hc hcs hce g4
  exact ⟨⟨z0, z1, z2, l, lf⟩, rfl, rfl, rfl, hS, hF, hB⟩
theorem sees_acs {t e ti ts te tf ef : TypeId} {a0 a1 a2 a3 a4 f0 f1 f2 f3 : Field} {A : Option Addr} {n c : Nat} {d : DataW H} {ps : List MemPlace} (hts : P.underlying t = some (.slice e)) (ha : P.underlying e = some (.struct #[a0, a1, a2, a3, a4])) (ca : P.cellsOf e = 5) (u0 : a0.type = ti ∧ a0.offset = 0) (u1 : a1.type = ti ∧ a1.offset = 1) (u2 : a2.type = ti ∧ a2.offset = 2) (u3 : a3.type = ts ∧ a3.offset = 3) (u4 : a4.type = tf ∧ a4.offset = 4)
    (ht : P.underlying tf = some (.slice ef)) (he : P.underlying ef = some (.struct #[f0, f1, f2, f3])) (ce : P.cellsOf ef = 4) (t0 : f0.type = ti ∧ f0.offset = 0) (t1 : f1.type = ti ∧ f1.offset = 1) (t2 : f2.type = ti ∧ f2.offset = 2) (t3 : f3.type = ts ∧ f3.offset = 3)
    (hi : P.underlying ti = some (.int .i64)) (hs : P.underlying ts = some (.slice te)) (hu : P.underlying te = some (.int .u8)) (hc : P.cellsOf ti = 1) (hcs : P.cellsOf ts = 1) (hcf : P.cellsOf tf = 1) (hce : P.cellsOf te = 1)
    (h : DataW.Trod enc P w base spare held t (.slice A n c) d ps) : ∃ l, SeesAc w w.heap.size (.slice A n c) l := by
  obtain ⟨fuel, h⟩ := h
  rcases open_slice hts h with ⟨hv, -⟩ | ⟨a, len, cap, m, k, Dt, Pl, hv, -, hl, hm, hmm, -, hx⟩
  · simp [Value.cells] at hv
    obtain ⟨rfl, rfl, rfl⟩ := hv
    exact ⟨[], SeesAc.nil⟩
  · simp [Value.cells] at hv
    obtain ⟨rfl, rfl, rfl⟩ := hv
    have hlm : n ≤ m := by rw [hmm]; split <;> omega
    have each : ∀ i, i < n → ∃ x : Ac × Value × Value, (w.cell? (a.add (i * 5)) = some (.int .i64 x.1.k) ∧ w.cell? (a.add (i * 5 + 1)) = some (.int .i64 x.1.i) ∧ w.cell? (a.add (i * 5 + 2)) = some (.int .i64 x.1.n) ∧ w.cell? (a.add (i * 5 + 3)) = some x.2.1 ∧ w.cell? (a.add (i * 5 + 4)) = some x.2.2) ∧ SeesL w w.heap.size x.2.1 x.1.d ∧ SeesF w w.heap.size x.2.2 x.1.f ∧ bytesL x.1.d := by
      intro i hi'
      obtain ⟨cs', h1, h2⟩ := hx i (by omega)
      rw [ca] at h1
      obtain ⟨_, hlen, hcell⟩ := World.cells?_some h1
      match cs', hlen with
      | [v0, v1, v2, v3, v4], _ =>
        obtain ⟨x, rfl, rfl, rfl, hS, hF, hB⟩ := act_cells ha u0 u1 u2 u3 u4 ht he ce t0 t1 t2 t3 hi hs hu hc hcs hcf hce h2
        have e0 := hcell 0 (by omega)
        have e1 := hcell 1 (by omega)
        have e2 := hcell 2 (by omega)
        have e3 := hcell 3 (by omega)
        have e4 := hcell 4 (by omega)
        rw [add_add] at e0 e1 e2 e3 e4
        exact ⟨(x, v3, v4), ⟨by simpa using e0, by simpa using e1, by simpa using e2, by simpa using e3, by simpa using e4⟩, hS, hF, hB⟩
    obtain ⟨f, hf⟩ := choose_lt each
    have hg : ∀ k, k < n → ((List.range n).map fun i => (f i).1).getD k default = (f k).1 := fun k hk => by simp [List.getD_eq_getElem?_getD, hk]
    refine ⟨(List.range n).map fun i => (f i).1, ⟨⟨some a, c, by simp, by simpa using hl, hm, fun h0 => ?_⟩, fun x hx => ?_⟩⟩
    · simp only [List.length_map, List.length_range] at h0 ⊢
      have h00 := (hf 0 h0).1.1
      obtain ⟨b, off, rfl, hbb⟩ := addr_at (v := .int .i64 (f 0).1.k) (by simpa using h00)
      have hadd : ∀ j, (⟨b, off, none⟩ : Addr).add j = ⟨b, off + j, none⟩ := fun j => by unfold Addr.add; split <;> simp_all
      simp only [hadd] at hf
      refine ⟨b, off, rfl, hbb, fun k hk => ?_⟩
      obtain ⟨⟨e0, e1, e2, e3, e4⟩, hS, hF, -⟩ := hf k hk
      rw [hg k hk]
      exact ⟨e0, by rw [Nat.add_assoc]; exact e1, by rw [Nat.add_assoc]; exact e2, ⟨_, by rw [Nat.add_assoc]; exact e3, hS⟩, _, by rw [Nat.add_assoc]; exact e4, hF⟩
    · simp only [List.mem_map, List.mem_range] at hx
      obtain ⟨i, hi', rfl⟩ := hx
      exact (hf i hi').2.2.2
/-- An act that came in by value. -/
theorem sees_ac {r : Reach} {b0 : Nat} {t ti ts te tf ef : TypeId} {a0 a1 a2 a3 a4 f0 f1 f2 f3 : Field} {v : Value} {d : DataW H} {ps : List MemPlace} (ha : P.underlying t = some (.struct #[a0, a1, a2, a3, a4])) (ca : P.cellsOf t = 5) (u0 : a0.type = ti ∧ a0.offset = 0) (u1 : a1.type = ti ∧ a1.offset = 1) (u2 : a2.type = ti ∧ a2.offset = 2) (u3 : a3.type = ts ∧ a3.offset = 3) (u4 : a4.type = tf ∧ a4.offset = 4)
    (ht : P.underlying tf = some (.slice ef)) (he : P.underlying ef = some (.struct #[f0, f1, f2, f3])) (ce : P.cellsOf ef = 4) (t0 : f0.type = ti ∧ f0.offset = 0) (t1 : f1.type = ti ∧ f1.offset = 1) (t2 : f2.type = ti ∧ f2.offset = 2) (t3 : f3.type = ts ∧ f3.offset = 3)
    (hi : P.underlying ti = some (.int .i64)) (hs : P.underlying ts = some (.slice te)) (hu : P.underlying te = some (.int .u8)) (hc : P.cellsOf ti = 1) (hcs : P.cellsOf ts = 1) (hcf : P.cellsOf tf = 1) (hce : P.cellsOf te = 1)
    (hv : Value.okWide P w r b0 t v) (h : DataW.Trod enc P w base spare held t v d ps) : ∃ (x : Ac) (vd vf : Value), v = .agg #[.int .i64 x.k, .int .i64 x.i, .int .i64 x.n, vd, vf] ∧ SeesL w w.heap.size vd x.d ∧ SeesF w w.heap.size vf x.f ∧ bytesL x.d := by
  obtain ⟨cs, rfl, hsz⟩ := okWide_struct ha hv
  obtain ⟨v0, v1, v2, v3, v4, rfl⟩ := array5a (hsz.trans ca)
  obtain ⟨fuel, hf⟩ := h
  have hf' : DataW.trod enc P w base spare held fuel t [v0, v1, v2, v3, v4] = some (d, ps) := by simpa [Value.cells] using hf
  obtain ⟨x, rfl, rfl, rfl, hS, hF, hB⟩ := act_cells ha u0 u1 u2 u3 u4 ht he ce t0 t1 t2 t3 hi hs hu hc hcs hcf hce hf'
  exact ⟨x, v3, v4, rfl, hS, hF, hB⟩
end
end Go.Proofs.YtjoioojckekfhaaGreat

namespace Go.Proofs.YtjoioojckekfhaaGreat
open Go.RowKit

set_option maxRecDepth 100000 in
set_option maxHeartbeats 2500000 in
theorem short_wd (v : Value) (l : List Ac) (w : World) (hs : SeesAc w w.heap.size v l) :
    Calls Tryz.prog 22 #[v] w fun e w' => ∃ q : Bool, e = .returned (.bool q) ∧ w' = w := by
  obtain ⟨A, c, rfl, hlen, hc, hcell⟩ := hs.at_
  unfold maxLen at hc
  clear hs
  go_enter Tryz.func22, Tryz.ntmps22
  go_wp2
  go_loopw [3] (fun i wr => ∃ k : Nat, k ≤ l.length ∧ i = .int .i64 k ∧ wr = w) (fun i _ => l.length - (intOf i).toNat)
  case atStart => exact ⟨0, by omega, rfl, rfl⟩
  case round =>
    obtain ⟨k, hk, rfl, rfl⟩ := hrel
    by_cases hlt : k < l.length
    · have q1 : decide ((k : Int) < (l.length : Nat)) = true := by simp; omega
      by_cases h250 : k < 250
      · have q2 : decide ((k : Int) < 250) = true := by simp; omega
        have q2n : decide (k < 250) = true := by simp; omega
        obtain ⟨b, off, rfl, hbb, hd⟩ := hcell (by omega)
        obtain ⟨c0, c1, c2, ⟨vd, c3, sd⟩, vf, c4, sf⟩ := hd k hlt
        generalize l.getD k default = x at *
        obtain ⟨Ad, cd, rfl, -, hcd, -⟩ := sd.at_
        obtain ⟨Af, cf, rfl, hl0, hcf, hff⟩ := sf.at_
        unfold maxLen at hcf hcd
        clear c0 c1 c2 sd sf hd hcell
        by_cases h100 : 100 < x.d.length
        · have q3 : decide ((100 : Int) < (x.d.length : Nat)) = true := decide_eq_true (by omega)
          go_wp2
          go_ret
          exact ⟨false, rfl, rfl⟩
        · have q3 : decide ((100 : Int) < (x.d.length : Nat)) = false := decide_eq_false (by omega)
          by_cases h20 : 20 < x.f.length
          · have q4 : decide ((20 : Int) < (x.f.length : Nat)) = true := decide_eq_true (by omega)
            go_wp2
            go_ret
            exact ⟨false, rfl, rfl⟩
          · have q4 : decide ((20 : Int) < (x.f.length : Nat)) = false := decide_eq_false (by omega)
            go_wp2
            rename World => w1
            go_loopw [4] (fun i wr => ∃ j : Nat, j ≤ x.f.length ∧ i = .int .i64 j ∧ wr = w1) (fun i _ => x.f.length - (intOf i).toNat)
            case atStart => exact ⟨0, by omega, rfl, rfl⟩
            case round =>
              obtain ⟨j, hj, rfl, rfl⟩ := hrel
              by_cases hlj : j < x.f.length
              · have r1 : decide ((j : Int) < (x.f.length : Nat)) = true := by simp; omega
                obtain ⟨g, go, rfl, hgb, hg⟩ := hff (by omega)
                obtain ⟨g0, g1, g2, u, g3, hu⟩ := hg j hlj
                obtain ⟨A', cc, rfl, -, hcc, -⟩ := hu.at_
                unfold maxLen at hcc
                clear g0 g1 g2 hg hff
                generalize (x.f.getD j default).d.length = nd at *
                by_cases h1 : 100 < nd
                · have r2 : decide ((100 : Int) < (nd : Nat)) = true := decide_eq_true (by omega)
                  have r2n : decide (100 < nd) = true := decide_eq_true h1
                  go_wp2
                  go_ret
                  exact ⟨false, rfl, rfl⟩
                · have r2 : decide ((100 : Int) < (nd : Nat)) = false := decide_eq_false (by omega)
                  have r2n : decide (100 < nd) = false := decide_eq_false h1
                  go_wp2
                  go_roundw
                  case rel => exact ⟨j + 1, by omega, by go_num, trivial⟩
                  case measure => simp [intOf]; omega
              · obtain rfl : j = x.f.length := by omega
                have r1 : decide ((x.f.length : Int) < (x.f.length : Nat)) = false := by simp
                go_wp2
                go_roundw
                case rel => exact ⟨k + 1, by omega, by go_num, trivial⟩
                case measure => simp [intOf]; omega
      · have q2 : decide ((k : Int) < 250) = false := by simp; omega
        have q2n : decide (k < 250) = false := by simp; omega
        go_wp2
        go_ret
        exact ⟨true, rfl, rfl⟩
    · obtain rfl : k = l.length := by omega
      have q1 : decide ((l.length : Int) < (l.length : Nat)) = false := by simp
      generalize hn : l.length = n at *
      go_wp2
      go_ret
      exact ⟨true, rfl, rfl⟩
end Go.Proofs.YtjoioojckekfhaaGreat

namespace Go.Proofs.YtjoioojckekfhaaGreat
open Go.RowKit

set_option maxRecDepth 100000 in
set_option maxHeartbeats 2000000 in
theorem same_rf (u v : Value) (l m : List Int) (a b : Int) (x y : Bool) (B C : Nat) (w : World) (hu : SeesL w B u l) (hv : SeesL w C v m) (hl : bytesL l) (hm : bytesL m) :
    Calls Tryz.prog 27 #[.agg #[u, .int .i64 a, .bool x], .agg #[v, .int .i64 b, .bool y]] w fun e w' => e = .returned (.bool (decide (l = m) && decide (a = b) && decide (x = y))) ∧ Below w.heap.size w w' := by
  have hb := ((Below.refl w.heap.size w).alloc (Nat.le_refl _) (.cells #[u, .int .i64 a, .bool x] 49)).alloc (by simp) (.cells #[v, .int .i64 b, .bool y] 49)
  have R1 := run_textL ((hu.alloc (.cells #[u, .int .i64 a, .bool x] 49)).alloc (.cells #[v, .int .i64 b, .bool y] 49))
  have R2 := run_textL ((hv.alloc (.cells #[u, .int .i64 a, .bool x] 49)).alloc (.cells #[v, .int .i64 b, .bool y] 49))
  have ht := textL_iff hl hm
  obtain ⟨A, c, rfl, -⟩ := hu.at_
  obtain ⟨A', c', rfl, -⟩ := hv.at_
  have hxy : decide (x = y) = (x == y) := by cases x <;> cases y <;> rfl
  rw [hxy]
  clear hxy
  by_cases e1 : l = m
  · subst e1
    by_cases e2 : a = b
    · subst e2
      simp only [decide_true, Bool.true_and]
      go_enter Tryz.func27, Tryz.ntmps27
      go_wp2
      go_ret
      exact ⟨rfl, hb⟩
    · have q2 : (a == b) = false := by rw [beq_eq_false_iff_ne]; exact e2
      rw [show (decide (l = l) && decide (a = b) && (x == y)) = false by simp [e2]]
      go_enter Tryz.func27, Tryz.ntmps27
      go_wp2
      go_ret
      exact ⟨rfl, hb⟩
  · have e4 : ¬ textL l = textL m := fun h => e1 (ht.1 h)
    rw [show (decide (l = m) && decide (a = b) && (x == y)) = false by simp [e1]]
    clear ht hu hv
    generalize textL l = T at *
    generalize textL m = T' at *
    have eT2 : ¬ T.toList = T'.toList := fun h => e4 (by
      rw [ByteArray.toList_eq, ByteArray.toList_eq] at h
      exact ByteArray.ext (Array.toList_inj.1 h))
    go_enter Tryz.func27, Tryz.ntmps27
    go_wp2
    go_ret
    exact ⟨rfl, hb⟩
end Go.Proofs.YtjoioojckekfhaaGreat

namespace Go.Proofs.YtjoioojckekfhaaGreat
open Go.ChangeShapes Go.WideShapes Go.ChangeAt Go.RowKit

/-- An act in a block of its own. -/
theorem SeesAc.one (W : World) (b : Nat) (hb : b = W.heap.size) (t : TypeId) (x : Ac) (vd vf : Value) (hd : SeesL W W.heap.size vd x.d) (hf : SeesF W W.heap.size vf x.f) (hby : bytesL x.d) :
    SeesAc (W.alloc (.cells #[.int .i64 x.k, .int .i64 x.i, .int .i64 x.n, vd, vf] t)) (W.alloc (.cells #[.int .i64 x.k, .int .i64 x.i, .int .i64 x.n, vd, vf] t)).heap.size (.slice (some ⟨b, 0, none⟩) 1 1) [x] := by
  have hB := (Below.refl W.heap.size W).alloc (Nat.le_refl _) (.cells #[.int .i64 x.k, .int .i64 x.i, .int .i64 x.n, vd, vf] t)
  have hX := Blk.new W b hb #[.int .i64 x.k, .int .i64 x.i, .int .i64 x.n, vd, vf] t
  refine ⟨⟨_, 1, rfl, Nat.le_refl _, by unfold maxLen; omega, fun _ => ⟨b, 0, rfl, hX.lt, fun i hi => ?_⟩⟩, fun y hy => by simp at hy; subst hy; exact hby⟩
  obtain rfl : i = 0 := by simp at hi; omega
  exact ⟨hX.cell 0 rfl, hX.cell 1 rfl, hX.cell 2 rfl, ⟨vd, hX.cell 3 rfl, (hd.below hB).more hB.size⟩, vf, hX.cell 4 rfl, (hf.below hB).more hB.size⟩
set_option maxRecDepth 100000 in
set_option maxHeartbeats 4000000 in
theorem wstep_nil (k i n : Int) (Ad : Option Addr) (nd cd : Nat) (Af : Option Addr) (nf cf : Nat) (W : World) :
    Calls Tryz.prog 16 #[.pointer none, .agg #[.int .i64 k, .int .i64 i, .int .i64 n, .slice Ad nd cd, .slice Af nf cf]] W fun e w' => e = .returned (.int .i64 1) ∧ Below W.heap.size W w' := by
  have hb := (Below.refl W.heap.size W).alloc (Nat.le_refl _) (.cells #[.int .i64 k, .int .i64 i, .int .i64 n, .slice Ad nd cd, .slice Af nf cf] 39)
  have hn := Lib.hid (wnode_nil i (W.alloc (.cells #[.int .i64 k, .int .i64 i, .int .i64 n, .slice Ad nd cd, .slice Af nf cf] 39)))
  go_enter Tryz.func16, Tryz.ntmps16
  go_wp2_with fail
  refine hn.out.mono ?_
  rintro _ _ ⟨rfl, rfl⟩
  go_wp2_with fail
  go_ret
  exact ⟨rfl, hb⟩
set_option maxRecDepth 100000 in
set_option maxHeartbeats 8000000 in
theorem core_wardOfNothing (a : Ac) (vd vf : Value) (i : Int) (w : World) (hd : SeesL w w.heap.size vd a.d) (hf : SeesF w w.heap.size vf a.f) (hby : bytesL a.d) :
    Calls Tryz.prog 6 #[.agg #[.int .i64 a.k, .int .i64 a.i, .int .i64 a.n, vd, vf], .int .i64 i] w fun e w' => e = .returned (.bool true) ∧ Below w.heap.size w w' := by
  obtain ⟨Ad, cd, rfl, -⟩ := hd.at_
  obtain ⟨Af, cf, rfl, -⟩ := hf.at_
  have hb1 := (Below.refl w.heap.size w).alloc (Nat.le_refl _) (.cells #[.int .i64 a.k, .int .i64 a.i, .int .i64 a.n, .slice Ad a.d.length cd, .slice Af a.f.length cf] 39)
  have hX := (Blk.new w w.heap.size rfl #[.int .i64 a.k, .int .i64 a.i, .int .i64 a.n, .slice Ad a.d.length cd, .slice Af a.f.length cf] 39)
  have hA := SeesAc.one (w.alloc (.cells #[.int .i64 a.k, .int .i64 a.i, .int .i64 a.n, .slice Ad a.d.length cd, .slice Af a.f.length cf] 39)) (w.heap.size + 1) (by simp) 39 a (.slice Ad a.d.length cd) (.slice Af a.f.length cf) ((hd.below hb1).more hb1.size) ((hf.below hb1).more hb1.size) hby
  have hX2 := hX.alloc (.cells #[.int .i64 a.k, .int .i64 a.i, .int .i64 a.n, .slice Ad a.d.length cd, .slice Af a.f.length cf] 39)
  have hB2 := hb1.alloc hb1.size (.cells #[.int .i64 a.k, .int .i64 a.i, .int .i64 a.n, .slice Ad a.d.length cd, .slice Af a.f.length cf] 39)
  have hS := Lib.hid (short_wd _ _ _ hA)
  have hst := fun W => Lib.hid (wstep_nil a.k a.i a.n Ad a.d.length cd Af a.f.length cf W)
  have hno := fun W => Lib.hid (wnodes_nil W)
  have hsl := fun W => Lib.hid (wslots_nil W)
  have h1 := fun W => Lib.hid (wstate_out none i W (wnode_nil i W))
  have h2 := fun W => Lib.hid (wclock_out none i W (wnode_nil i W))
  have h3 := fun W => Lib.hid (wrings_out none i i W (wnode_nil i W))
  have h4 := fun W => Lib.hid (wview_out none i W (fun z => wnode_nil i (W.alloc z)))
  have h5 := fun W => Lib.hid (wread_out none i i W (fun z => wnode_nil i (W.alloc z)))
  have hKn := fun W => Lib.hid (known_wd W)
  clear hd hf hA hby
  generalize a.d.length = nd at *
  generalize a.f.length = nf at *
  have x0 := hX2.cell 0 rfl
  have x1 := hX2.cell 1 rfl
  have x2 := hX2.cell 2 rfl
  have x3 := hX2.cell 3 rfl
  have x4 := hX2.cell 4 rfl
  go_enter Tryz.func6, Tryz.ntmps6
  go_wp2_with fail
  refine hS.out.mono ?_
  rintro _ _ ⟨q, rfl, rfl⟩
  cases q
  · go_wp2
    go_ret
    exact ⟨rfl, hB2⟩
  · go_wp2_with fail
    refine (hst _).out.mono ?_
    generalize (w.alloc (.cells #[.int .i64 a.k, .int .i64 a.i, .int .i64 a.n, .slice Ad nd cd, .slice Af nf cf] 39)).alloc (.cells #[.int .i64 a.k, .int .i64 a.i, .int .i64 a.n, .slice Ad nd cd, .slice Af nf cf] 39) = w2 at *
    rintro _ w3 ⟨rfl, b3⟩
    have hB3 := Lib.hid (hB2.trans (b3.mono hB2.size))
    clear x0 x1 x2 x3 x4 hX2 hX hb1 b3 hB2 hst hS
    go_wp2_with fail
    refine (hno _).out.mono ?_
    rintro _ _ ⟨rfl, rfl⟩
    go_wp2_with fail
    refine (h1 _).out.mono ?_
    rintro _ w4 ⟨rfl, b4⟩
    have hB4 := Lib.hid (hB3.out.trans (b4.mono hB3.out.size))
    clear hB3 b4
    go_wp2_with fail
    refine (h2 _).out.mono ?_
    rintro _ w5 ⟨rfl, b5⟩
    have hB5 := Lib.hid (hB4.out.trans (b5.mono hB4.out.size))
    clear hB4 b5
    go_wp2_with fail
    refine (h3 _).out.mono ?_
    rintro _ w6 ⟨rfl, b6⟩
    have hB6 := Lib.hid (hB5.out.trans (b6.mono hB5.out.size))
    clear hB5 b6
    go_wp2_with fail
    refine (hsl _).out.mono ?_
    rintro _ _ ⟨rfl, rfl⟩
    go_wp2_with fail
    refine (h4 _).out.mono ?_
    rintro _ w7 ⟨rfl, b7⟩
    have hB7 := Lib.hid (hB6.out.trans (b7.mono hB6.out.size))
    clear hB6 b7
    go_wp2_with fail
    refine (h5 _).out.mono ?_
    rintro _ w8 ⟨A, c, rfl, hs8, b8⟩
    have hB8 := Lib.hid (hB7.out.trans (b8.mono hB7.out.size))
    have hsm := Lib.hid (same_rf _ _ [] [] (-1) (-1) false false _ 0 w8 hs8 SeesL.nil (fun x hx => (by cases hx)) (fun x hx => (by cases hx)))
    clear hB7 b8 hs8
    go_wp2_with fail
    refine hsm.out.mono ?_
    rintro _ w9 ⟨e9, b9⟩
    obtain rfl : _ = Ending.returned (.bool true) := e9.trans (by simp)
    have hB9 := Lib.hid (hB8.out.trans (b9.mono hB8.out.size))
    clear hB8 b9 hsm
    go_wp2_with fail
    refine (hKn _).out.mono ?_
    rintro _ w10 ⟨rfl, b10⟩
    have hB10 := Lib.hid (hB9.out.trans (b10.mono hB9.out.size))
    clear hB9 b10
    go_wp2_with fail
    go_ret
    exact ⟨rfl, hB10.out⟩
theorem walk_wardOfNothing (a : Ac) (vd vf : Value) (i : Int) (w : World) (hd : SeesL w w.heap.size vd a.d) (hf : SeesF w w.heap.size vf a.f) (hby : bytesL a.d) (_h_i : -9223372036854775808 ≤ i ∧ i ≤ 9223372036854775807) :
    Calls Tryz.prog 6 #[.agg #[.int .i64 a.k, .int .i64 a.i, .int .i64 a.n, vd, vf], .int .i64 i] w fun e w' => e = .returned (.bool true) ∧ Below w.heap.size w w' := core_wardOfNothing a vd vf i w hd hf hby

/-! ### THE ROW's STEP around the walk. -/
theorem own_wardOfNothing : ownKnob Tryz.prog.godebug = none := by kernel_rfl
theorem laidOut_wardOfNothing : laidOutB Tryz.prog = true := by kernel_rfl
set_option maxRecDepth 100000 in
theorem lifted_wardOfNothing (os : Os) (started : os.Started) (H : Type) (enc : TypeId × Value → H) :
    ReturnsInHanded {} Tryz.checked os 6 .any (Rows.wardOfNothingSpec.pre6 enc Tryz.prog Tryz.f6 Rows.wardOfNothingRow.domain false) (Rows.wardOfNothingSpec.post enc Tryz.prog Tryz.f6 false true false false) := by
  refine returnsInHanded_of_change (C := Tryz.checked) own_wardOfNothing started (by kernel_rfl) Tryz.func6
    (ChangeSpec.witness6 (enc := enc) (C := Tryz.checked) false ⟨#[], #[.agg #[.int .i64 0, .int .i64 0, .int .i64 0, .slice none 0 0, .slice none 0 0], .int .i64 0], []⟩ 8 (by kernel_rfl) (by kernel_rfl) (by kernel_rfl) (by kernel_rfl)) ?_
  intro W base args ds gs before hval0 hW hcnd _
  have hval : ∀ (j : Nat) t v, Tryz.f6.params[j]? = some t → args[j]? = some v → Value.okWide Tryz.prog W .any base t v := hval0
  have hW' := hW
  obtain ⟨p, q, hA0, hV, rfl, hfz, hnd⟩ := hW
  have hA : DataW.TrodAll enc Tryz.prog W 0 (fun _ => true) true Tryz.f6.params.toList args.toList ds p := hA0
  rw [Tryz.params6] at hA hval
  obtain ⟨v0, vs0, d0, ds0, p0, q0, hargs, rfl, rfl, h0, r0⟩ := trodAll_cons hA
  obtain ⟨v1, vs1, d1, ds1, p1, q1, rfl, rfl, rfl, h1, r1⟩ := trodAll_cons r0
  obtain ⟨rfl, rfl, rfl⟩ := trodAll_nil r1
  obtain rfl : args = #[v0, v1] := by cases args; simp_all
  obtain ⟨rfl, rfl⟩ := trodVars_none hV
  obtain ⟨y0, vd0, vf0, rfl, sd0, sf0, b0⟩ := sees_ac Tryz.underlying39 (by kernel_rfl) ⟨rfl, rfl⟩ ⟨rfl, rfl⟩ ⟨rfl, rfl⟩ ⟨rfl, rfl⟩ ⟨rfl, rfl⟩ Tryz.underlying37 Tryz.underlying81 (by kernel_rfl) ⟨rfl, rfl⟩ ⟨rfl, rfl⟩ ⟨rfl, rfl⟩ ⟨rfl, rfl⟩ Tryz.underlying3 Tryz.underlying36 Tryz.underlying5 (by kernel_rfl) (by kernel_rfl) (by kernel_rfl) (by kernel_rfl) (hval 0 39 v0 rfl rfl) h0
  have k0 := h0
  have lt0 : ∀ x ∈ p0, x.block < W.heap.size := by obtain ⟨m, hm⟩ := k0; exact DataW.trod_lt m _ _ _ hm
  obtain ⟨a1, rfl, rfl, rfl, w1⟩ := open_int Tryz.underlying3 (hval 1 3 v1 rfl rfl) h1
  clear hA0 hval0
  refine (walk_wardOfNothing y0 vd0 vf0 a1 W sd0 sf0 b0 (bounds_i64 w1)).mono fun e W' ⟨he, bel⟩ => ?_
  subst he
  exact ⟨_, rfl, _, _, _, [], _, [], hW', trodAll_mk1 (shut_bool Tryz.underlying4 _), (trodAll_cons_mk (Below.trod laidOut_wardOfNothing (by kernel_rfl) (of_decide_eq_true (by kernel_rfl)) k0 bel lt0) (trodAll_cons_mk (shut_int Tryz.underlying3 w1) trodAll_mk0)), rfl, bel.frame _, fun h => by cases h⟩

theorem over_wardOfNothing : Rows.wardOfNothingRow.holds Tryz.pinned (OpenSpec.ofChange Rows.wardOfNothingSpec) :=
  OpenClaim.holds_of_wide 6 Tryz.f6 rfl rfl rfl rfl rfl rfl rfl ⟨rfl, rfl, rfl, rfl, rfl⟩ rfl rfl rfl rfl rfl (by kernel_rfl) Tryz.func6 (by kernel_rfl)
    (of_decide_eq_true (by kernel_rfl)) (by unfold Func.isWrapper; first | (rw [if_pos (by decide +kernel)]; kernel_rfl) | (rw [if_neg (by decide +kernel)]; exact ⟨rfl, rfl⟩))
    (fun os started H enc _ => lifted_wardOfNothing os started H enc)

theorem proved_wardOfNothing : Rows.WardOfNothingSaid := over_wardOfNothing
end Go.Proofs.YtjoioojckekfhaaGreat
