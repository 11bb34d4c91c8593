/- Words of our own for memory: a slice whose cells are told by a function of their places. -/
import Derived.Test.YtklphfpgphddpaaRows
import Derived.WalkKit
import Derived.WalkSpells
import Derived.WalkLawsBesides
import Derived.Below
import Derived.Lib.Hide
import Derived.Laws.OwnMore
import Derived.Deep.Draws
import Derived.OwnWalk
import Derived.Outline
import Derived.BigQuiet
import Derived.Deep.QuietTactic
import Derived.Deep.DeepFit
namespace Go.Proofs.Ytklphfpgphddpaa
open Go.RowKit

/-- A slice at A of n cells (of size one each) below block B: cell k holds V k. -/
def Sees (w : World) (B : Nat) (A : Option Addr) (n : Nat) (V : Nat → Value) : Prop :=
  0 < n → ∃ b off, A = some ⟨b, off, none⟩ ∧ b < B ∧ ∀ k, k < n → w.cell? ⟨b, off + k, none⟩ = some (V k)

section
variable {w w' : World} {B B' n m : Nat} {A : Option Addr} {V : Nat → Value}
theorem Sees.none_ : Sees w B A 0 V := fun h => absurd h (by omega)
theorem Sees.less (h : Sees w B A n V) (hm : m ≤ n) : Sees w B A m V := fun h0 => by
  obtain ⟨b, off, e, hb, hc⟩ := h (by omega)
  exact ⟨b, off, e, hb, fun k hk => hc k (by omega)⟩
theorem Sees.keep (h : Sees w B A n V) (hk : ∀ p : Addr, p.block < B → w'.cell? p = w.cell? p) : Sees w' B A n V := fun h0 => by
  obtain ⟨b, off, e, hb, hc⟩ := h h0
  exact ⟨b, off, e, hb, fun k h => (hk ⟨b, off + k, none⟩ hb).trans (hc k h)⟩
theorem Sees.more (h : Sees w B A n V) (hB : B ≤ B') : Sees w B' A n V := fun h0 => by
  obtain ⟨b, off, e, hb, hc⟩ := h h0
  exact ⟨b, off, e, by omega, hc⟩
theorem Sees.below (h : Sees w B A n V) (hb : Below B w w') : Sees w' B A n V := h.keep fun _ hp => hb.cell hp
theorem Sees.alike (h : Sees w B A n V) {V' : Nat → Value} (hV : ∀ k, k < n → V k = V' k) : Sees w B A n V' := fun h0 => by
  obtain ⟨b, off, e, hb, hc⟩ := h h0
  exact ⟨b, off, e, hb, fun k h => by rw [← hV k h]; exact hc k h⟩

/-- What the call made: a slice value of n cells, each by its place. -/
def Owns (w : World) (base : Nat) (e : TypeId) (v : Value) (n : Nat) (V : Nat → Value) : Prop :=
  w.ownsRow base e 1 v n ((List.range n).map V)

theorem Owns.form {e : TypeId} {base : Nat} {v : Value} (h : Owns w base e v n V) : ∃ A c, v = .slice A n c ∧ n ≤ c ∧ c ≤ maxLen ∧ Sees w w.heap.size A n V := by
  obtain ⟨hl, hh⟩ := h
  rcases hh with ⟨rfl, rfl⟩ | ⟨g, cap, cur, rfl, hb, hg, hn, hc, hs, ht⟩
  · exact ⟨_, _, rfl, Nat.le_refl _, Nat.zero_le _, Sees.none_⟩
  · refine ⟨_, _, rfl, hn, hc, fun _ => ⟨g, 0, rfl, (Array.getElem?_eq_some_iff.1 hg).1, fun k hk => ?_⟩⟩
    rw [Nat.zero_add, cell_of_row w g k cur e (0, 0) hg]
    have := congrArg (fun l => l[k]?) ht
    simp only [List.getElem?_take, List.getElem?_map, List.getElem?_range hk] at this
    rw [if_pos (by omega)] at this
    simpa using this
theorem Owns.snoc {e : TypeId} {base : Nat} {v : Value} {xs : List Value} {u : Value} (h : w.ownsRow base e 1 v (n + 1) xs) (hx : xs = (List.range n).map V ++ [u]) (hu : u = V n) : Owns w base e v (n + 1) V := by
  unfold Owns
  rw [List.range_succ, List.map_append, List.map_cons, List.map_nil, ← hu, ← hx]
  exact h
theorem Owns.alike {e : TypeId} {base : Nat} {v : Value} (h : Owns w base e v n V) {V' : Nat → Value} (hV : ∀ k, k < n → V k = V' k) : Owns w base e v n V' := by
  unfold Owns at h ⊢
  have : (List.range n).map V' = (List.range n).map V := List.map_congr_left fun k hk => (hV k (List.mem_range.1 hk)).symm
  rw [this]; exact h

theorem below_append {B : Nat} {W wx w1 : World} {e : TypeId} {v : Value} {k : Nat} {xs : List Value} {o : Obj} (hb : Below B W wx) (hW : B ≤ wx.heap.size) (hown : wx.ownsRow B e 1 v k xs) (hg : (wx.alloc o).grownBy w1 v.ownBlock) : Below B W w1 :=
  (hb.alloc hW o).grown hg (by simp; omega) (fun g h => (hown.lt g h).1)
theorem Owns.cell {e : TypeId} {base g c : Nat} (h : Owns w base e (.slice (some ⟨g, 0, none⟩) n c) n V) {k : Nat} (hk : k < n) : w.cell? ⟨g, k, none⟩ = some (V k) := by
  rw [World.ownsRow.cellAt h k (by omega)]
  simp [hk]
theorem Owns.frozen {e : TypeId} {base g c : Nat} (h : Owns w base e (.slice (some ⟨g, 0, none⟩) n c) n V) (k : Nat) : w.frozen? ⟨g, k, none⟩ = false := World.ownsRow.frozenAt h k
theorem Owns.set_ {e : TypeId} {base g c : Nat} (h : Owns w base e (.slice (some ⟨g, 0, none⟩) n c) n V) (j : Nat) (u : Value) {V' : Nat → Value} (hj : V' j = u) (ho : ∀ i, i < n → i ≠ j → V' i = V i) :
    Owns (w.setCell ⟨g, j, none⟩ u) base e (.slice (some ⟨g, 0, none⟩) n c) n V' := by
  have h1 := (World.ownsRow.stored h j u).1
  unfold Owns
  have : (List.range n).map V' = ((List.range n).map V).set j u := by
    apply List.ext_getElem?
    intro i
    rw [List.getElem?_set]
    by_cases hi : i < n
    · by_cases hij : j = i
      · subst hij
        simp [hi, hj]
      · simp [hi, hij, ho i hi (Ne.symm hij)]
    · by_cases hij : j = i
      · subst hij
        simp [hi]
      · simp [hi, hij]
  rw [this]; exact h1
end

section
variable {P : Program}
/-- One cell, in a new block, is appended to what the call made. -/
theorem wpList_push (w : World) {ops : Array Oper} {rest : List Oper} {o : Oper} {a : Act} {Q : Exit → Act → World → Prop} (hgd : o.guard = none) (s x : Operand) (t : TypeId)
    (ho : o.op = .call { callee := .builtin .append, args := #[s, x], argTypes := #[t, t] })
    (B : Nat) (e : TypeId) (z : Value) (bytes : Nat) (hinf : (P.info? e).map (fun i => (i.zero, i.size, i.bytes)) = some (some z, 1, bytes)) (hzs : z.cells.size = 1) (ht : P.underlying t = some (.slice e))
    (v : Value) (n : Nat) (V : Nat → Value) (W : World) (hown : Owns w B e v n V) (hbel : Below B W w) (hs : a.eval s = v) (u : Value) (hx : a.eval x = .slice (some ⟨w.heap.size, 0, none⟩) 1 1)
    (hu : u.oneCell' = true) (hB : B ≤ w.heap.size) (h63 : n + 1 ≤ maxLen) (hroom : (n + 1) * bytes ≤ 140737488355328) (hV : u = V n)
    (h : ∀ v' w', Owns w' B e v' (n + 1) V → Below B W w' → (w.alloc (.cells #[u] e)).grownBy w' v.ownBlock → wpList P ops Q rest (a.put o.dst v') w') : wpList P ops Q (o :: rest) a (w.alloc (.cells #[u] e)) := by
  obtain ⟨i0, hi, hz0, hz1, hz2⟩ := info_parts hinf
  refine wpList_append_own _ hgd s x t ho B e i0 z 1 bytes ht hi hz0 hz1 hz2 hzs (by omega) v n _ hs (World.ownsRow.alloc hown _) ⟨w.heap.size, 0, none⟩ 1 1 [u] hx rfl (cell_one_new _ _ _) (by simpa using hu) h63 hroom (by simp; omega) ?_
  intro v' w' h1 h2 _
  exact h v' w' (Owns.snoc h1 rfl hV) (below_append hbel hB hown h2) h2

/-- 'make' at a length: so many zeros of the call's own. -/
theorem wpList_zeros (w : World) {ops : Array Oper} {rest : List Oper} {o : Oper} {a : Act} {Q : Exit → Act → World → Prop} (hgd : o.guard = none) (l c : Operand) (t : TypeId) (hop : o.op = Op.makeSlice t l c)
    (B : Nat) (W : World) (hbel : Below B W w) (hB : B ≤ w.heap.size) (e : TypeId) (z : Value) (bytes : Nat) (hinf : (P.info? e).map (fun i => (i.zero, i.size, i.bytes)) = some (some z, 1, bytes)) (hzs : z.cells = #[z]) (ht : P.underlying t = some (.slice e))
    (kl kc : IntKind) (L C : Int) (n : Nat) (hl : a.eval l = .int kl L) (hc : a.eval c = .int kc C) (hL : L = n) (hC : C = n) (hroom : bytes * n ≤ 281474976710656) (h63 : n ≤ maxLen)
    (h : ∀ w', Owns w' B e (.slice (some ⟨w.heap.size, 0, none⟩) n n) n (fun _ => z) → Below B W w' → w.heap.size < w'.heap.size → w.grownBy w' none → wpList P ops Q rest (a.put o.dst (.slice (some ⟨w.heap.size, 0, none⟩) n n)) w') :
    wpList P ops Q (o :: rest) a w := by
  obtain ⟨i0, hi, hz0, hz1, hz2⟩ := info_parts hinf
  refine wpList_make_full w hgd l c t hop B e i0 z 1 ht hi hz0 hz1 kl kc L C n hl hc hL hC (by rw [hz2]; exact hroom) h63 hB ?_
  intro w' h1 h2
  refine h w' ?_ (hbel.grown h2 hB (fun k h => by cases h)) (h1.lt _ rfl).2 h2
  unfold Owns
  rw [hzs, Nat.mul_one, toList_madeCells_one] at h1
  rw [List.map_const', List.length_range]
  exact h1
end
end Go.Proofs.Ytklphfpgphddpaa
