/- Lists of nodes in memory: seen, and the call's own. No condition. -/
import Derived.Test.YthigojakapgllaaLists
import Derived.Test.YthigojakapgllaaTbMath
namespace Go.Proofs.Ythigojakapgllaa
open Go.RowKit
open Tb (D T)

/-- The cells of a node. -/
def dc (d : D) : List Value := [.bool d.sy, .bool d.inf, .int .i64 d.li, .int .i64 d.sz]
def dV (d : D) : Value := .agg #[.bool d.sy, .bool d.inf, .int .i64 d.li, .int .i64 d.sz]
def tabV (t : T) (v : Value) : Value := .agg #[v, .int .i64 t.dr, .int .i64 t.wi, .int .i64 t.lm]
/-- What lies at a node's four places. -/
structure AtD (w : World) (b off : Nat) (d : D) : Prop where
  c0 : w.cell? ⟨b, off, none⟩ = some (.bool d.sy)
  c1 : w.cell? ⟨b, off + 1, none⟩ = some (.bool d.inf)
  c2 : w.cell? ⟨b, off + 2, none⟩ = some (.int .i64 d.li)
  c3 : w.cell? ⟨b, off + 3, none⟩ = some (.int .i64 d.sz)
def SeesD (w : World) (B : Nat) (A : Option Addr) (l : List D) : Prop :=
  0 < l.length → ∃ b off, A = some ⟨b, off, none⟩ ∧ b < B ∧ ∀ k, k < l.length → AtD w b (off + k * 4) (l.getD k default)
/-- A slice of these nodes, nil told. -/
structure SeesT (w : World) (B : Nat) (v : Value) (l : List D) : Prop where
  at_ : ∃ A c, v = .slice A l.length c ∧ l.length ≤ c ∧ c ≤ maxLen ∧ SeesD w B A l ∧ (A = none → l.length = 0 ∧ c = 0)
def OwnsD (w : World) (base : Nat) (v : Value) (l : List D) : Prop := w.ownsRow base 62 4 v l.length (l.flatMap dc)

section
variable {w w' : World} {B B' Bs : Nat} {A : Option Addr} {v : Value} {l m : List D}
theorem AtD.keep {b off : Nat} {d : D} (h : AtD w b off d) (hk : ∀ o, w'.cell? ⟨b, o, none⟩ = w.cell? ⟨b, o, none⟩) : AtD w' b off d :=
  ⟨(hk _).trans h.c0, (hk _).trans h.c1, (hk _).trans h.c2, (hk _).trans h.c3⟩
theorem SeesD.keep (h : SeesD w B A l) (hk : ∀ b o, b < B → w'.cell? ⟨b, o, none⟩ = w.cell? ⟨b, o, none⟩) : SeesD w' B A l := fun h0 => by
  obtain ⟨b, off, e, hb, hc⟩ := h h0
  exact ⟨b, off, e, hb, fun k hlt => (hc k hlt).keep fun o => hk b o hb⟩
theorem SeesD.below (h : SeesD w B A l) (hb : Below B w w') : SeesD w' B A l := h.keep fun b o hp => hb.cell (p := ⟨b, o, none⟩) hp
theorem SeesD.more (h : SeesD w B A l) (hB : B ≤ B') : SeesD w B' A l := fun h0 => by
  obtain ⟨b, off, e, hb, hc⟩ := h h0
  exact ⟨b, off, e, by omega, hc⟩
theorem SeesD.drew (h : SeesD w B A l) : SeesD w.drew B A l := h.keep fun _ _ _ => rfl
theorem SeesD.nil : SeesD w B A [] := fun h => absurd h (by simp)
theorem SeesT.below (h : SeesT w B v l) (hb : Below B w w') : SeesT w' B v l := ⟨by
  obtain ⟨A, c, rfl, h1, h2, h3, h4⟩ := h.at_
  exact ⟨A, c, rfl, h1, h2, h3.below hb, h4⟩⟩
theorem SeesT.more (h : SeesT w B v l) (hB : B ≤ B') : SeesT w B' v l := ⟨by
  obtain ⟨A, c, rfl, h1, h2, h3, h4⟩ := h.at_
  exact ⟨A, c, rfl, h1, h2, h3.more hB, h4⟩⟩
theorem SeesT.drew (h : SeesT w B v l) : SeesT w.drew B v l := ⟨by
  obtain ⟨A, c, rfl, h1, h2, h3, h4⟩ := h.at_
  exact ⟨A, c, rfl, h1, h2, h3.drew, h4⟩⟩
theorem SeesT.nil : SeesT w B (.slice none 0 0) [] := ⟨none, 0, rfl, Nat.le_refl _, Nat.zero_le _, SeesD.nil, fun _ => ⟨rfl, rfl⟩⟩
theorem dcs_getD (l : List D) (k : Nat) (hk : k < l.length) (j : Nat) (hj : j < 4) : (l.flatMap dc)[k * 4 + j]? = (dc (l.getD k default))[j]? := by
  induction l generalizing k with
  | nil => simp at hk
  | cons d l ih =>
    have h4 : (dc d).length = 4 := rfl
    rw [List.flatMap_cons]
    cases k with
    | zero => rw [List.getElem?_append_left (by omega)]; simp
    | succ k =>
      rw [List.getElem?_append_right (by omega), h4, show (k + 1) * 4 + j - 4 = k * 4 + j by omega, ih k (by simpa using hk)]
      simp
theorem dcs_length (l : List D) : (l.flatMap dc).length = l.length * 4 := by
  induction l with
  | nil => rfl
  | cons d l ih => rw [List.flatMap_cons, List.length_append, ih]; simp [dc]; omega
theorem OwnsD.atD {g n c : Nat} (h : OwnsD w Bs (.slice (some ⟨g, 0, none⟩) n c) l) (hn : n = l.length) (k : Nat) (hk : k < l.length) : AtD w g (k * 4) (l.getD k default) := by
  subst hn
  have e := fun j (hj : j < 4) => (World.ownsRow.cellAt h (k * 4 + j) (by omega)).trans (dcs_getD l k hk j hj)
  exact ⟨by have := e 0 (by omega); rw [Nat.add_zero] at this; exact this, e 1 (by omega), e 2 (by omega), e 3 (by omega)⟩
theorem OwnsD.form (h : OwnsD w Bs v l) : (v = .slice none 0 0 ∧ l.length = 0) ∨ ∃ g c, v = .slice (some ⟨g, 0, none⟩) l.length c ∧ Bs ≤ g ∧ g < w.heap.size ∧ l.length ≤ c ∧ c ≤ maxLen := by
  rcases h.2 with h1 | ⟨g, cap, cur, h1, h2, h3, h4, h5, -⟩
  · exact .inl h1
  · exact .inr ⟨g, cap, h1, h2, (Array.getElem?_eq_some_iff.1 h3).1, h4, h5⟩
theorem OwnsD.sees (h : OwnsD w Bs v l) : SeesT w w.heap.size v l := ⟨by
  rcases h.form with ⟨rfl, h0⟩ | ⟨g, c, rfl, h1, h2, h3, h4⟩
  · exact ⟨none, 0, by rw [h0], by omega, by unfold maxLen; omega, fun h => absurd h (by omega), fun _ => ⟨h0, rfl⟩⟩
  · exact ⟨_, c, rfl, h3, h4, fun _ => ⟨g, 0, rfl, h2, fun k hk => by rw [Nat.zero_add]; exact OwnsD.atD h rfl k hk⟩, fun h => by cases h⟩⟩
theorem OwnsD.drew (h : OwnsD w Bs v l) : OwnsD w.drew Bs v l := h
theorem OwnsD.nil : OwnsD w Bs (.slice none 0 0) [] := World.ownsRow_nil _ _ _ _
theorem OwnsD.base (h : OwnsD w Bs v l) (hB : B ≤ Bs) : OwnsD w B v l := by
  refine ⟨h.1, ?_⟩
  rcases h.2 with h | ⟨g, cap, cur, h1, h2, h3⟩
  · exact .inl h
  · exact .inr ⟨g, cap, cur, h1, by omega, h3⟩
theorem OwnsD.below (h : OwnsD w Bs v l) (hb : Below B' w w') (hB : w.heap.size ≤ B') : OwnsD w' Bs v l :=
  World.ownsRow.kept (row := none) h ⟨hb.os, hb.tape, hb.output, hb.size, fun k hk _ => hb.block k (by omega)⟩ (by
    rcases h.2 with ⟨rfl, _⟩ | ⟨g, cap, cur, rfl, _⟩
    · exact .inl rfl
    · exact .inr (by simp [Value.ownBlock]))
theorem OwnsD.alloc (h : OwnsD w Bs v l) (o : Obj) : OwnsD (w.alloc o) Bs v l := World.ownsRow.alloc h o
end
end Go.Proofs.Ythigojakapgllaa
