/- Texts Kit, Open, Bytes, Text, Lists, CrcMath in one. For what each says in front of its theorems. -/
import Derived.Test.YtpdenmcacaajkaaGreatRows
import Derived.WalkKit
import Derived.WalkSpells
import Derived.WalkLawsBesides
import Derived.Below
import Derived.Lib.Hide
import Derived.Laws.OwnMore
import Derived.Deep.Draws
import Derived.OwnWalk
import Derived.Outline
import Derived.BigQuiet
import Derived.Deep.QuietTactic
import Derived.Deep.DeepFit
import Derived.ProofKit
import Derived.OpenShut
import Derived.ShutString
import Derived.ChangeOld
import Derived.Deep.Slices
import Derived.Deep.Fields
import Derived.Laws.AppendOwnNone
import Derived.SizedLaws
import Derived.Laws.BytesString
import Derived.Laws.Cells
import Derived.Laws.BitsLemmas
import Derived.Laws.BitsAllLaws
/-! ### Kit -/
namespace Go.Proofs.YtpdenmcacaajkaaGreat
open Go.RowKit

/-- A slice at A of n cells (of size one each) below block B: cell k holds V k. -/
def Sees (w : World) (B : Nat) (A : Option Addr) (n : Nat) (V : Nat → Value) : Prop :=
  0 < n → ∃ b off, A = some ⟨b, off, none⟩ ∧ b < B ∧ ∀ k, k < n → w.cell? ⟨b, off + k, none⟩ = some (V k)

section
variable {w w' : World} {B B' n m : Nat} {A : Option Addr} {V : Nat → Value}
theorem Sees.none_ : Sees w B A 0 V := fun h => absurd h (by omega)
theorem Sees.less (h : Sees w B A n V) (hm : m ≤ n) : Sees w B A m V := fun h0 => by
  obtain ⟨b, off, e, hb, hc⟩ := h (by omega)
  exact ⟨b, off, e, hb, fun k hk => hc k (by omega)⟩
theorem Sees.keep (h : Sees w B A n V) (hk : ∀ p : Addr, p.block < B → w'.cell? p = w.cell? p) : Sees w' B A n V := fun h0 => by
  obtain ⟨b, off, e, hb, hc⟩ := h h0
  exact ⟨b, off, e, hb, fun k h => (hk ⟨b, off + k, none⟩ hb).trans (hc k h)⟩
theorem Sees.more (h : Sees w B A n V) (hB : B ≤ B') : Sees w B' A n V := fun h0 => by
  obtain ⟨b, off, e, hb, hc⟩ := h h0
  exact ⟨b, off, e, by omega, hc⟩
theorem Sees.below (h : Sees w B A n V) (hb : Below B w w') : Sees w' B A n V := h.keep fun _ hp => hb.cell hp
theorem Sees.alike (h : Sees w B A n V) {V' : Nat → Value} (hV : ∀ k, k < n → V k = V' k) : Sees w B A n V' := fun h0 => by
  obtain ⟨b, off, e, hb, hc⟩ := h h0
  exact ⟨b, off, e, hb, fun k h => by rw [← hV k h]; exact hc k h⟩

/-- What the call made: a slice value of n cells, each by its place. -/
def Owns (w : World) (base : Nat) (e : TypeId) (v : Value) (n : Nat) (V : Nat → Value) : Prop :=
  w.ownsRow base e 1 v n ((List.range n).map V)

theorem Owns.form {e : TypeId} {base : Nat} {v : Value} (h : Owns w base e v n V) : ∃ A c, v = .slice A n c ∧ n ≤ c ∧ c ≤ maxLen ∧ Sees w w.heap.size A n V := by
  obtain ⟨hl, hh⟩ := h
  rcases hh with ⟨rfl, rfl⟩ | ⟨g, cap, cur, rfl, hb, hg, hn, hc, hs, ht⟩
  · exact ⟨_, _, rfl, Nat.le_refl _, Nat.zero_le _, Sees.none_⟩
  · refine ⟨_, _, rfl, hn, hc, fun _ => ⟨g, 0, rfl, (Array.getElem?_eq_some_iff.1 hg).1, fun k hk => ?_⟩⟩
    rw [Nat.zero_add, cell_of_row w g k cur e (0, 0) hg]
    have := congrArg (fun l => l[k]?) ht
    simp only [List.getElem?_take, List.getElem?_map, List.getElem?_range hk] at this
    rw [if_pos (by omega)] at this
    simpa using this
theorem Owns.snoc {e : TypeId} {base : Nat} {v : Value} {xs : List Value} {u : Value} (h : w.ownsRow base e 1 v (n + 1) xs) (hx : xs = (List.range n).map V ++ [u]) (hu : u = V n) : Owns w base e v (n + 1) V := by
  unfold Owns
  rw [List.range_succ, List.map_append, List.map_cons, List.map_nil, ← hu, ← hx]
  exact h
theorem Owns.alike {e : TypeId} {base : Nat} {v : Value} (h : Owns w base e v n V) {V' : Nat → Value} (hV : ∀ k, k < n → V k = V' k) : Owns w base e v n V' := by
  unfold Owns at h ⊢
  have : (List.range n).map V' = (List.range n).map V := List.map_congr_left fun k hk => (hV k (List.mem_range.1 hk)).symm
  rw [this]; exact h

theorem below_append {B : Nat} {W wx w1 : World} {e : TypeId} {v : Value} {k : Nat} {xs : List Value} {o : Obj} (hb : Below B W wx) (hW : B ≤ wx.heap.size) (hown : wx.ownsRow B e 1 v k xs) (hg : (wx.alloc o).grownBy w1 v.ownBlock) : Below B W w1 :=
  (hb.alloc hW o).grown hg (by simp; omega) (fun g h => (hown.lt g h).1)
theorem Owns.cell {e : TypeId} {base g c : Nat} (h : Owns w base e (.slice (some ⟨g, 0, none⟩) n c) n V) {k : Nat} (hk : k < n) : w.cell? ⟨g, k, none⟩ = some (V k) := by
  rw [World.ownsRow.cellAt h k (by omega)]
  simp [hk]
theorem Owns.frozen {e : TypeId} {base g c : Nat} (h : Owns w base e (.slice (some ⟨g, 0, none⟩) n c) n V) (k : Nat) : w.frozen? ⟨g, k, none⟩ = false := World.ownsRow.frozenAt h k
theorem Owns.set_ {e : TypeId} {base g c : Nat} (h : Owns w base e (.slice (some ⟨g, 0, none⟩) n c) n V) (j : Nat) (u : Value) {V' : Nat → Value} (hj : V' j = u) (ho : ∀ i, i < n → i ≠ j → V' i = V i) :
    Owns (w.setCell ⟨g, j, none⟩ u) base e (.slice (some ⟨g, 0, none⟩) n c) n V' := by
  have h1 := (World.ownsRow.stored h j u).1
  unfold Owns
  have : (List.range n).map V' = ((List.range n).map V).set j u := by
    apply List.ext_getElem?
    intro i
    rw [List.getElem?_set]
    by_cases hi : i < n
    · by_cases hij : j = i
      · subst hij
        simp [hi, hj]
      · simp [hi, hij, ho i hi (Ne.symm hij)]
    · by_cases hij : j = i
      · subst hij
        simp [hi]
      · simp [hi, hij]
  rw [this]; exact h1
end

section
variable {P : Program}
/-- One cell, in a new block, is appended to what the call made. -/
theorem wpList_push (w : World) {ops : Array Oper} {rest : List Oper} {o : Oper} {a : Act} {Q : Exit → Act → World → Prop} (hgd : o.guard = none) (s x : Operand) (t : TypeId)
    (ho : o.op = .call { callee := .builtin .append, args := #[s, x], argTypes := #[t, t] })
    (B : Nat) (e : TypeId) (z : Value) (bytes : Nat) (hinf : (P.info? e).map (fun i => (i.zero, i.size, i.bytes)) = some (some z, 1, bytes)) (hzs : z.cells.size = 1) (ht : P.underlying t = some (.slice e))
    (v : Value) (n : Nat) (V : Nat → Value) (W : World) (hown : Owns w B e v n V) (hbel : Below B W w) (hs : a.eval s = v) (u : Value) (hx : a.eval x = .slice (some ⟨w.heap.size, 0, none⟩) 1 1)
    (hu : u.oneCell' = true) (hB : B ≤ w.heap.size) (h63 : n + 1 ≤ maxLen) (hroom : (n + 1) * bytes ≤ 140737488355328) (hV : u = V n)
    (h : ∀ v' w', Owns w' B e v' (n + 1) V → Below B W w' → (w.alloc (.cells #[u] e)).grownBy w' v.ownBlock → wpList P ops Q rest (a.put o.dst v') w') : wpList P ops Q (o :: rest) a (w.alloc (.cells #[u] e)) := by
  obtain ⟨i0, hi, hz0, hz1, hz2⟩ := info_parts hinf
  refine wpList_append_own _ hgd s x t ho B e i0 z 1 bytes ht hi hz0 hz1 hz2 hzs (by omega) v n _ hs (World.ownsRow.alloc hown _) ⟨w.heap.size, 0, none⟩ 1 1 [u] hx rfl (cell_one_new _ _ _) (by simpa using hu) h63 hroom (by simp; omega) ?_
  intro v' w' h1 h2 _
  exact h v' w' (Owns.snoc h1 rfl hV) (below_append hbel hB hown h2) h2

/-- 'make' at a length: so many zeros of the call's own. -/
theorem wpList_zeros (w : World) {ops : Array Oper} {rest : List Oper} {o : Oper} {a : Act} {Q : Exit → Act → World → Prop} (hgd : o.guard = none) (l c : Operand) (t : TypeId) (hop : o.op = Op.makeSlice t l c)
    (B : Nat) (W : World) (hbel : Below B W w) (hB : B ≤ w.heap.size) (e : TypeId) (z : Value) (bytes : Nat) (hinf : (P.info? e).map (fun i => (i.zero, i.size, i.bytes)) = some (some z, 1, bytes)) (hzs : z.cells = #[z]) (ht : P.underlying t = some (.slice e))
    (kl kc : IntKind) (L C : Int) (n : Nat) (hl : a.eval l = .int kl L) (hc : a.eval c = .int kc C) (hL : L = n) (hC : C = n) (hroom : bytes * n ≤ 281474976710656) (h63 : n ≤ maxLen)
    (h : ∀ w', Owns w' B e (.slice (some ⟨w.heap.size, 0, none⟩) n n) n (fun _ => z) → Below B W w' → w.heap.size < w'.heap.size → w.grownBy w' none → wpList P ops Q rest (a.put o.dst (.slice (some ⟨w.heap.size, 0, none⟩) n n)) w') :
    wpList P ops Q (o :: rest) a w := by
  obtain ⟨i0, hi, hz0, hz1, hz2⟩ := info_parts hinf
  refine wpList_make_full w hgd l c t hop B e i0 z 1 ht hi hz0 hz1 kl kc L C n hl hc hL hC (by rw [hz2]; exact hroom) h63 hB ?_
  intro w' h1 h2
  refine h w' ?_ (hbel.grown h2 hB (fun k h => by cases h)) (h1.lt _ rfl).2 h2
  unfold Owns
  rw [hzs, Nat.mul_one, toList_madeCells_one] at h1
  rw [List.map_const', List.length_range]
  exact h1
end
end Go.Proofs.YtpdenmcacaajkaaGreat

/-! ### Open -/
namespace Go.Proofs.YtpdenmcacaajkaaGreat
open Go.ChangeShapes Go.WideShapes Go.ChangeAt Go.RowKit

/-- Bytes that came in. -/
structure InBytes (w : World) (A : Option Addr) (n c : Nat) (z : Nat → Int) : Prop where
  sees : Sees w w.heap.size A n fun k => .int .u8 (z k)
  byte : ∀ k, k < n → 0 ≤ z k ∧ z k < 256
  le : n ≤ c
  max : c ≤ maxLen

theorem addr_at {w : World} {a : Addr} {v : Value} (h : w.cell? (a.add 0) = some v) : ∃ b off, a = ⟨b, off, none⟩ ∧ b < w.heap.size := by
  obtain ⟨b, off, spot⟩ := a
  have h' : w.cell? ⟨b, off, spot⟩ = some v := by simpa [Addr.add] using h
  have hs : spot = none := World.cell?_spot h'
  subst hs
  exact ⟨b, off, rfl, World.block_lt_of_cell? w _ h'⟩

section
variable {H : Type} {enc : TypeId × Value → H} {P : Program} {w : World} {base : Nat} {spare : Nat → Bool} {held : Bool}
end
end Go.Proofs.YtpdenmcacaajkaaGreat

/-! ### Bytes -/
namespace Go.Proofs.YtpdenmcacaajkaaGreat
open Go.ChangeShapes Go.WideShapes Go.ChangeAt Go.RowKit

theorem range_join (n m : Nat) (V U : Nat → Value) : (List.range (n + m)).map (fun k => if k < n then V k else U (k - n)) = (List.range n).map V ++ (List.range m).map U := by
  apply List.ext_getElem?
  intro i
  rw [List.getElem?_append]
  simp only [List.getElem?_map, List.length_map, List.length_range]
  by_cases hi : i < n
  · rw [if_pos hi, List.getElem?_range hi, List.getElem?_range (show i < n + m by omega)]
    simp [hi]
  · rw [if_neg hi]
    by_cases hj : i - n < m
    · rw [List.getElem?_range hj, List.getElem?_range (show i < n + m by omega)]
      simp [hi]
    · rw [List.getElem?_eq_none (by simp; omega), List.getElem?_eq_none (by simp; omega)]
      rfl

theorem wpList_appendAll {P : Program} (w : World) {ops : Array Oper} {rest : List Oper} {o : Oper} {a : Act} {Q : Exit → Act → World → Prop} (hgd : o.guard = none) (s x : Operand) (t : TypeId)
    (ho : o.op = .call { callee := .builtin .append, args := #[s, x], argTypes := #[t, t] })
    (B : Nat) (e : TypeId) (z : Value) (bytes : Nat) (hinf : (P.info? e).map (fun i => (i.zero, i.size, i.bytes)) = some (some z, 1, bytes)) (hzs : z.cells.size = 1) (ht : P.underlying t = some (.slice e))
    (v : Value) (n : Nat) (V : Nat → Value) (W : World) (hown : Owns w B e v n V) (hbel : Below B W w) (hs : a.eval s = v)
    (Bs : Nat) (A : Option Addr) (m c : Nat) (U : Nat → Value) (hx : a.eval x = .slice A m c) (hnil : A = none → m = 0 ∧ c = 0) (hsee : Sees w Bs A m U) (hU : ∀ k, k < m → (U k).oneCell' = true)
    (hB : B ≤ w.heap.size) (h63 : n + m ≤ maxLen) (hroom : (n + m) * bytes ≤ 140737488355328)
    (h : ∀ v' w', Owns w' B e v' (n + m) (fun k => if k < n then V k else U (k - n)) → Below B W w' → (v' = .slice none 0 0 → v = .slice none 0 0 ∧ m = 0) → wpList P ops Q rest (a.put o.dst v') w') : wpList P ops Q (o :: rest) a w := by
  obtain ⟨i0, hi, hz0, hz1, hz2⟩ := info_parts hinf
  cases A with
  | none =>
    obtain ⟨rfl, rfl⟩ := hnil rfl
    refine wpList_append_own_none hgd s x t ho B e i0 1 ht hi v n _ hs hown hx ?_
    refine h v w ?_ hbel (fun h => ⟨h, rfl⟩)
    exact hown.alike fun k hk => by rw [if_pos hk]
  | some ad =>
    refine wpList_append_own _ hgd s x t ho B e i0 z 1 bytes ht hi hz0 hz1 hz2 hzs (by omega) v n _ hs hown ad m c ((List.range m).map U) hx (by simp) ?_ ?_ h63 hroom hB ?_
    · intro j u hj
      rw [List.getElem?_map] at hj
      by_cases hjm : j < m
      · rw [List.getElem?_range hjm] at hj
        simp at hj
        subst hj
        obtain ⟨b, off, he, _, hc⟩ := hsee (by omega)
        simp only [Option.some.injEq] at he
        subst he
        have := hc j hjm
        by_cases h1 : j = 0
        · subst h1; simpa [Addr.add] using this
        · simpa [Addr.add, h1] using this
      · rw [List.getElem?_eq_none (by simpa using hjm)] at hj
        cases hj
    · intro u hu
      obtain ⟨k, hk, rfl⟩ := List.mem_map.1 hu
      exact hU k (List.mem_range.1 hk)
    · intro v' w' h1 h2 h3
      refine h v' w' ?_ (hbel.grown h2 hB (fun g h => (World.ownsRow.lt hown g h).1)) (fun h => h3.1 h)
      unfold Owns
      rw [range_join]
      exact h1

theorem infoU8 : (Tryz.prog.info? 5).map (fun i => (i.zero, i.size, i.bytes)) = some (some (.int .u8 0), 1, 1) := by kernel_rfl

/-- Bytes that came in, nil told, and how many there may be. -/
structure InBytesN (w : World) (A : Option Addr) (n c : Nat) (z : Nat → Int) : Prop where
  bytes : InBytes w A n c z
  nil : A = none → n = 0 ∧ c = 0
  reach : n ≤ 140737488351232
section
variable {H : Type} {enc : TypeId × Value → H} {P : Program} {w : World} {base : Nat} {spare : Nat → Bool} {held : Bool}
end

end Go.Proofs.YtpdenmcacaajkaaGreat

/-! ### Text -/
namespace Go.Proofs.YtpdenmcacaajkaaGreat
open Go.RowKit

theorem Owns.formN {w : World} {B n : Nat} {e : TypeId} {v : Value} {V : Nat → Value} (h : Owns w B e v n V) : ∃ A c, v = .slice A n c ∧ n ≤ c ∧ c ≤ maxLen ∧ Sees w w.heap.size A n V ∧ (A = none → n = 0 ∧ c = 0) := by
  obtain ⟨A, c, rfl, h1, h2, h3⟩ := Owns.form h
  refine ⟨A, c, rfl, h1, h2, h3, fun hA => ?_⟩
  subst hA
  rcases h.2 with ⟨h4, _⟩ | ⟨g, cap, cur, h4, _⟩
  · simp only [Value.slice.injEq] at h4
    exact ⟨h4.2.1, h4.2.2⟩
  · simp at h4

end Go.Proofs.YtpdenmcacaajkaaGreat

/-! ### Lists -/
namespace Go.Proofs.YtpdenmcacaajkaaGreat
open Go.RowKit

/-- The cells of a list of bytes. -/
def bv (l : List Int) (k : Nat) : Value := .int .u8 (l.getD k 0)
def bytesL (l : List Int) : Prop := ∀ x ∈ l, 0 ≤ x ∧ x < 256
theorem bytesL.getD {l : List Int} (h : bytesL l) (k : Nat) : 0 ≤ l.getD k 0 ∧ l.getD k 0 < 256 := by
  by_cases hk : k < l.length
  · rw [List.getD_eq_getElem?_getD, List.getElem?_eq_getElem hk, Option.getD_some]
    exact h _ (List.getElem_mem _)
  · rw [List.getD_eq_getElem?_getD, List.getElem?_eq_none (by omega)]
    exact ⟨by decide, by decide⟩
/-- A list of its places' bytes. -/
def lst (z : Nat → Int) (n : Nat) : List Int := (List.range n).map z
theorem lst_length (z : Nat → Int) (n : Nat) : (lst z n).length = n := by simp [lst]
theorem lst_getD (z : Nat → Int) (n : Nat) {k : Nat} (h : k < n) : (lst z n).getD k 0 = z k := by
  simp [lst, List.getD_eq_getElem?_getD, h]
theorem lst_bytes {z : Nat → Int} {n : Nat} (h : ∀ k, k < n → 0 ≤ z k ∧ z k < 256) : bytesL (lst z n) := fun x hx => by
  obtain ⟨k, hk, rfl⟩ := List.mem_map.1 hx
  exact h k (List.mem_range.1 hk)
theorem lst_self (l : List Int) : lst (fun k => l.getD k 0) l.length = l := by
  apply List.ext_getElem?
  intro i
  by_cases hi : i < l.length
  · simp [lst, hi, List.getD_eq_getElem?_getD]
  · rw [List.getElem?_eq_none (by simp [lst]; omega), List.getElem?_eq_none (by omega)]

/-- What the call made: a slice of these bytes. -/
def OwnsL (w : World) (base : Nat) (v : Value) (l : List Int) : Prop := Owns w base 5 v l.length (bv l)
/-- A slice of these bytes, nil told. -/
structure SeesL (w : World) (B : Nat) (v : Value) (l : List Int) : Prop where
  at_ : ∃ A c, v = .slice A l.length c ∧ l.length ≤ c ∧ c ≤ maxLen ∧ Sees w B A l.length (bv l) ∧ (A = none → l.length = 0 ∧ c = 0)

section
variable {w w' : World} {B B' Bs : Nat} {v : Value} {l m : List Int}
theorem OwnsL.sees (h : OwnsL w Bs v l) : SeesL w w.heap.size v l := ⟨by
  obtain ⟨A, c, rfl, h1, h2, h3, h4⟩ := Owns.formN h
  exact ⟨A, c, rfl, h1, h2, h3, h4⟩⟩
theorem SeesL.below (h : SeesL w B v l) (hb : Below B w w') : SeesL w' B v l := ⟨by
  obtain ⟨A, c, rfl, h1, h2, h3, h4⟩ := h.at_
  exact ⟨A, c, rfl, h1, h2, h3.below hb, h4⟩⟩
theorem SeesL.more (h : SeesL w B v l) (hB : B ≤ B') : SeesL w B' v l := ⟨by
  obtain ⟨A, c, rfl, h1, h2, h3, h4⟩ := h.at_
  exact ⟨A, c, rfl, h1, h2, h3.more hB, h4⟩⟩
theorem SeesL.drew (h : SeesL w B v l) : SeesL w.drew B v l := ⟨by
  obtain ⟨A, c, rfl, h1, h2, h3, h4⟩ := h.at_
  exact ⟨A, c, rfl, h1, h2, h3, h4⟩⟩
theorem OwnsL.drew (h : OwnsL w Bs v l) : OwnsL w.drew Bs v l := h
theorem SeesL.nil : SeesL w B (.slice none 0 0) [] := ⟨none, 0, rfl, Nat.le_refl _, Nat.zero_le _, Sees.none_, fun _ => ⟨rfl, rfl⟩⟩
theorem OwnsL.nil : OwnsL w Bs (.slice none 0 0) [] := World.ownsRow_nil _ _ _ _
theorem OwnsL.base (h : OwnsL w Bs v l) (hB : B ≤ Bs) : OwnsL w B v l := by
  refine ⟨h.1, ?_⟩
  rcases h.2 with h | ⟨g, cap, cur, h1, h2, h3⟩
  · exact .inl h
  · exact .inr ⟨g, cap, cur, h1, by omega, h3⟩
theorem Owns.belowN {n : Nat} {e : TypeId} {V : Nat → Value} (h : Owns w B e v n V) (hb : Below B' w w') (hB : w.heap.size ≤ B') : Owns w' B e v n V :=
  World.ownsRow.kept (row := none) h ⟨hb.os, hb.tape, hb.output, hb.size, fun k hk _ => hb.block k (by omega)⟩ (by
    rcases h.2 with ⟨rfl, _⟩ | ⟨g, cap, cur, rfl, _⟩
    · exact .inl rfl
    · exact .inr (by simp [Value.ownBlock]))
theorem OwnsL.below (h : OwnsL w Bs v l) (hb : Below B' w w') (hB : w.heap.size ≤ B') : OwnsL w' Bs v l := Owns.belowN h hb hB
theorem OwnsL.alloc (h : OwnsL w Bs v l) (o : Obj) : OwnsL (w.alloc o) Bs v l := World.ownsRow.alloc h o
theorem bv_append (l m : List Int) (k : Nat) : (if k < l.length then bv l k else bv m (k - l.length)) = bv (l ++ m) k := by
  unfold bv
  simp only [List.getD_eq_getElem?_getD, List.getElem?_append]
  split <;> rfl
/-- What came in, as a list. -/
theorem InBytesN.list {A : Option Addr} {n c : Nat} {z : Nat → Int} (h : InBytesN w A n c z) : SeesL w w.heap.size (.slice A n c) (lst z n) ∧ bytesL (lst z n) := by
  obtain ⟨⟨hs, hz, hn, hc⟩, hnil, -⟩ := h
  refine ⟨⟨A, c, by rw [lst_length], by rw [lst_length]; exact hn, hc, ?_, by rw [lst_length]; exact hnil⟩, lst_bytes hz⟩
  rw [lst_length]
  exact hs.alike fun k hk => by rw [bv, lst_getD z n hk]
end

section
variable {P : Program}
/-- A list's bytes are appended to what the call owns. -/
theorem wpList_appendL (w : World) {ops : Array Oper} {rest : List Oper} {o : Oper} {a : Act} {Q : Exit → Act → World → Prop} (hgd : o.guard = none) (s x : Operand) (t : TypeId)
    (ho : o.op = .call { callee := .builtin .append, args := #[s, x], argTypes := #[t, t] })
    (B : Nat) (hinf : (P.info? 5).map (fun i => (i.zero, i.size, i.bytes)) = some (some (.int .u8 0), 1, 1)) (ht : P.underlying t = some (.slice 5))
    (v : Value) (l : List Int) (W : World) (hown : OwnsL w B v l) (hbel : Below B W w) (hs : a.eval s = v)
    (Bs : Nat) (u : Value) (m : List Int) (hx : a.eval x = u) (hsee : SeesL w Bs u m)
    (hB : B ≤ w.heap.size) (hroom : l.length + m.length ≤ 140737488355328)
    (h : ∀ v' w', OwnsL w' B v' (l ++ m) → Below B W w' → wpList P ops Q rest (a.put o.dst v') w') : wpList P ops Q (o :: rest) a w := by
  obtain ⟨A, c, rfl, -, -, h3, h4⟩ := hsee.at_
  refine wpList_appendAll w hgd s x t ho B 5 (.int .u8 0) 1 hinf rfl ht v l.length (bv l) W hown hbel hs Bs A m.length c (bv m) hx h4 h3 (fun _ _ => rfl) hB (by unfold maxLen; omega) (by omega) ?_
  intro v' w' h5 h6 _
  refine h v' w' ?_ h6
  unfold OwnsL
  rw [List.length_append]
  exact h5.alike fun k _ => bv_append l m k
end

/-- A new block of bytes, written out. -/
theorem sees_lit (w : World) (e : TypeId) (cs : Array Value) (l : List Int) (hl : cs = (l.map (Value.int .u8)).toArray) (B : Nat) (hB : w.heap.size < B) (hm : l.length ≤ maxLen) (g n c : Nat) (hg : g = w.heap.size) (hn : n = l.length) (hc : c = l.length) :
    SeesL (w.alloc (.cells cs e)) B (.slice (some ⟨g, 0, none⟩) n c) l := ⟨some ⟨g, 0, none⟩, c, by rw [hn], by omega, by omega, fun _ => ⟨g, 0, rfl, by omega, fun k hk => by
    rw [Nat.zero_add, World.cell?_alloc_at _ _ _ _ hg, hl]
    unfold bv
    simp [List.getD_eq_getElem?_getD, hk]⟩, fun h => by cases h⟩
theorem owns_lit (w : World) (e : TypeId) (he : e = 5) (cs : Array Value) (l : List Int) (hl : cs = (l.map (Value.int .u8)).toArray) (B : Nat) (hB : B ≤ w.heap.size) (hm : l.length ≤ maxLen) (g n c : Nat) (hg : g = w.heap.size) (hn : n = l.length) (hc : c = l.length) :
    OwnsL (w.alloc (.cells cs e)) B (.slice (some ⟨g, 0, none⟩) n c) l := by
  subst he hn hc hg
  have := World.ownsRow_lit (base := B) (e := 5) (size := 1) w cs l.length hB hm (by rw [hl]; simp)
  unfold OwnsL Owns
  have e : (List.range l.length).map (bv l) = cs.toList := by
    rw [hl]
    apply List.ext_getElem?
    intro i
    by_cases hi : i < l.length
    · simp [hi, bv, List.getD_eq_getElem?_getD]
    · rw [List.getElem?_eq_none (by simp; omega), List.getElem?_eq_none (by simp; omega)]
  rw [e]
  exact this

/-! ### Texts -/
end Go.Proofs.YtpdenmcacaajkaaGreat

/-! ### CrcMath -/
namespace Go.Proofs.YtpdenmcacaajkaaGreat
namespace Cr

/-- One bit more. -/
def bit1 (n : Nat) (b : Bool) : Nat := if (n.testBit 14 != b) then (2 * n % 32768) ^^^ 17817 else 2 * n % 32768

theorem bit1_lt (n : Nat) (b : Bool) : bit1 n b < 32768 := by
  unfold bit1
  split
  · exact Nat.xor_lt_two_pow (n := 15) (by omega) (by omega)
  · omega

theorem dbl_xor (m n : Nat) : 2 * (m ^^^ n) % 32768 = (2 * m % 32768) ^^^ (2 * n % 32768) := by
  apply Nat.eq_of_testBit_eq
  intro i
  rw [show 32768 = 2 ^ 15 from rfl]
  simp only [Nat.testBit_xor, Nat.testBit_mod_two_pow, show ∀ x, 2 * x = 2 ^ 1 * x from fun _ => rfl, Nat.testBit_two_pow_mul]
  by_cases h1 : i < 15 <;> by_cases h2 : i ≥ 1 <;> simp [h1, h2]

theorem xlc (a b c : Nat) : a ^^^ (b ^^^ c) = b ^^^ (a ^^^ c) := by rw [← Nat.xor_assoc, Nat.xor_comm a b, Nat.xor_assoc]
theorem x0 {a b : Nat} (h : a ^^^ b = 0) : a = b := by
  have := congrArg (· ^^^ b) h
  simpa [Nat.xor_assoc] using this
theorem xself (a b : Nat) : a ^^^ (a ^^^ b) = b := by rw [← Nat.xor_assoc, Nat.xor_self, Nat.zero_xor]
theorem bit1_xor (m n : Nat) (a b : Bool) : bit1 (m ^^^ n) (a ^^ b) = bit1 m a ^^^ bit1 n b := by
  unfold bit1
  rw [dbl_xor, Nat.testBit_xor]
  cases m.testBit 14 <;> cases n.testBit 14 <;> cases a <;> cases b <;> simp [Nat.xor_comm, xlc, xself]

theorem bit1_zero {x : Nat} (hx : x < 32768) (h : bit1 x false = 0) : x = 0 := by
  unfold bit1 at h
  by_cases ht : x.testBit 14 = true
  · rw [ht] at h
    simp only [bne_iff_ne, ne_eq, Bool.true_eq_false, not_false_eq_true, if_true] at h
    have : 2 * x % 32768 = 17817 := x0 h
    omega
  · simp only [Bool.not_eq_true] at ht
    rw [ht] at h
    simp at h
    have h2 : x / 2 ^ 14 % 2 ≠ 1 := by
      intro e
      rw [Nat.testBit_eq_decide_div_mod_eq] at ht
      simp [e] at ht
    omega

theorem xor_lt {m n : Nat} (hm : m < 32768) (hn : n < 32768) : m ^^^ n < 32768 := Nat.xor_lt_two_pow (n := 15) hm hn

theorem bit1_inj {m n : Nat} (b : Bool) (hm : m < 32768) (hn : n < 32768) (h : bit1 m b = bit1 n b) : m = n := by
  have := bit1_xor m n b b
  rw [h, Nat.xor_self, Bool.xor_self] at this
  exact x0 (bit1_zero (xor_lt hm hn) this)

/-- So many bits of a byte, the highest first. -/
def byteTo (n c : Nat) : Nat → Nat
  | 0 => n
  | j + 1 => bit1 (byteTo n c j) (c.testBit (7 - j))
def byte1 (n c : Nat) : Nat := byteTo n c 8

theorem byteTo_lt {n : Nat} (h : n < 32768) (c j : Nat) : byteTo n c j < 32768 := by
  cases j with
  | zero => exact h
  | succ j => exact bit1_lt _ _
theorem byte1_lt (n c : Nat) : byte1 n c < 32768 := bit1_lt _ _
theorem byteTo_xor (m n a b j : Nat) : byteTo (m ^^^ n) (a ^^^ b) j = byteTo m a j ^^^ byteTo n b j := by
  induction j with
  | zero => rfl
  | succ j ih => simp only [byteTo]; rw [ih, Nat.testBit_xor, bit1_xor]
theorem byteTo_inj {m n : Nat} (c j : Nat) (hm : m < 32768) (hn : n < 32768) (h : byteTo m c j = byteTo n c j) : m = n := by
  induction j with
  | zero => exact h
  | succ j ih => exact ih (bit1_inj _ (byteTo_lt hm c j) (byteTo_lt hn c j) h)
theorem byte1_xor (m n a b : Nat) : byte1 (m ^^^ n) (a ^^^ b) = byte1 m a ^^^ byte1 n b := byteTo_xor m n a b 8
theorem byte1_inj {m n : Nat} (c : Nat) (hm : m < 32768) (hn : n < 32768) (h : byte1 m c = byte1 n c) : m = n := byteTo_inj c 8 hm hn h
theorem byte1_nil : ∀ c : Fin 256, byte1 0 c.val = 0 → c.val = 0 := by decide +kernel
theorem byte1_byte {n a b : Nat} (ha : a < 256) (hb : b < 256) (h : byte1 n a = byte1 n b) : a = b := by
  have := byte1_xor n n a b
  rw [h, Nat.xor_self, Nat.xor_self] at this
  exact x0 (byte1_nil ⟨a ^^^ b, Nat.xor_lt_two_pow (n := 8) ha hb⟩ this)

/-- So many bytes. -/
def sumTo (n : Nat) (z : Nat → Int) : Nat → Nat
  | 0 => n
  | k + 1 => byte1 (sumTo n z k) (z k).toNat
theorem sumTo_lt {n : Nat} (h : n < 32768) (z : Nat → Int) (k : Nat) : sumTo n z k < 32768 := by
  cases k with
  | zero => exact h
  | succ k => exact byte1_lt _ _
/-- So many rows. -/
def rowsTo (n : Nat) (z : Nat → Nat → Int) (N : Nat → Nat) : Nat → Nat
  | 0 => n
  | k + 1 => sumTo (rowsTo n z N k) (z k) (N k)
theorem rowsTo_lt {n : Nat} (h : n < 32768) (z : Nat → Nat → Int) (N : Nat → Nat) (k : Nat) : rowsTo n z N k < 32768 := by
  induction k with
  | zero => exact h
  | succ k ih => exact sumTo_lt ih _ _

/-- A seed's lowest fifteen digits. -/
def sd (a : Int) : Nat := (a % 32768).toNat
theorem sd_lt (a : Int) : sd a < 32768 := by unfold sd; omega
theorem sd_of {n : Nat} (h : n < 32768) : sd (n : Int) = n := by unfold sd; omega
theorem and_sd (a : Int) : bits BinOp.and IntKind.i64 a 32767 = (sd a : Int) := by
  show IntKind.i64.wrap ((BitVec.ofInt 64 a &&& BitVec.ofInt 64 32767).toNat : Int) = _
  rw [BitVec.toNat_and, show (BitVec.ofInt 64 32767).toNat = 2 ^ 15 - 1 by decide, Nat.and_two_pow_sub_one_eq_mod, BitVec.toNat_ofInt, IntKind.wrap_i64]
  unfold sd
  omega
theorem xor_small {m n : Nat} (hm : m < 32768) (hn : n < 32768) : bits BinOp.xor IntKind.i64 (m : Int) (n : Int) = ((m ^^^ n : Nat) : Int) := by
  have hx := xor_lt hm hn
  show IntKind.i64.wrap ((BitVec.ofInt 64 (m : Int) ^^^ BitVec.ofInt 64 (n : Int)).toNat : Int) = _
  rw [BitVec.toNat_xor, BitVec.toNat_ofInt, BitVec.toNat_ofInt, show ((m : Int) % ((2 ^ 64 : Nat) : Int)).toNat = m by omega, show ((n : Int) % ((2 ^ 64 : Nat) : Int)).toNat = n by omega, IntKind.wrap_i64]
  omega
end Cr
end Go.Proofs.YtpdenmcacaajkaaGreat
