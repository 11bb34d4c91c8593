/- Texts Kit, Open, Bytes, Text, Lists in one. For what each says in front of its theorems. -/
import Derived.Test.YtpdenmcacaajkaaGreatRows
import Derived.WalkKit
import Derived.WalkSpells
import Derived.WalkLawsBesides
import Derived.Below
import Derived.Lib.Hide
import Derived.Laws.OwnMore
import Derived.Deep.Draws
import Derived.OwnWalk
import Derived.Outline
import Derived.BigQuiet
import Derived.Deep.QuietTactic
import Derived.Deep.DeepFit
import Derived.ProofKit
import Derived.OpenShut
import Derived.ShutString
import Derived.ChangeOld
import Derived.Deep.Slices
import Derived.Deep.Fields
import Derived.Laws.AppendOwnNone
import Derived.SizedLaws
import Derived.Laws.BytesString
import Derived.Laws.Cells
/-! ### Kit -/
namespace Go.Proofs.YtpdenmcacaajkaaGreat
open Go.RowKit

/-- A slice at A of n cells (of size one each) below block B: cell k holds V k. -/
def Sees (w : World) (B : Nat) (A : Option Addr) (n : Nat) (V : Nat → Value) : Prop :=
  0 < n → ∃ b off, A = some ⟨b, off, none⟩ ∧ b < B ∧ ∀ k, k < n → w.cell? ⟨b, off + k, none⟩ = some (V k)

section
variable {w w' : World} {B B' n m : Nat} {A : Option Addr} {V : Nat → Value}
theorem Sees.none_ : Sees w B A 0 V := fun h => absurd h (by omega)
theorem Sees.less (h : Sees w B A n V) (hm : m ≤ n) : Sees w B A m V := fun h0 => by
  obtain ⟨b, off, e, hb, hc⟩ := h (by omega)
  exact ⟨b, off, e, hb, fun k hk => hc k (by omega)⟩
theorem Sees.keep (h : Sees w B A n V) (hk : ∀ p : Addr, p.block < B → w'.cell? p = w.cell? p) : Sees w' B A n V := fun h0 => by
  obtain ⟨b, off, e, hb, hc⟩ := h h0
  exact ⟨b, off, e, hb, fun k h => (hk ⟨b, off + k, none⟩ hb).trans (hc k h)⟩
theorem Sees.more (h : Sees w B A n V) (hB : B ≤ B') : Sees w B' A n V := fun h0 => by
  obtain ⟨b, off, e, hb, hc⟩ := h h0
  exact ⟨b, off, e, by omega, hc⟩
theorem Sees.below (h : Sees w B A n V) (hb : Below B w w') : Sees w' B A n V := h.keep fun _ hp => hb.cell hp
theorem Sees.alike (h : Sees w B A n V) {V' : Nat → Value} (hV : ∀ k, k < n → V k = V' k) : Sees w B A n V' := fun h0 => by
  obtain ⟨b, off, e, hb, hc⟩ := h h0
  exact ⟨b, off, e, hb, fun k h => by rw [← hV k h]; exact hc k h⟩

/-- What the call made: a slice value of n cells, each by its place. -/
def Owns (w : World) (base : Nat) (e : TypeId) (v : Value) (n : Nat) (V : Nat → Value) : Prop :=
  w.ownsRow base e 1 v n ((List.range n).map V)

theorem Owns.form {e : TypeId} {base : Nat} {v : Value} (h : Owns w base e v n V) : ∃ A c, v = .slice A n c ∧ n ≤ c ∧ c ≤ maxLen ∧ Sees w w.heap.size A n V := by
  obtain ⟨hl, hh⟩ := h
  rcases hh with ⟨rfl, rfl⟩ | ⟨g, cap, cur, rfl, hb, hg, hn, hc, hs, ht⟩
  · exact ⟨_, _, rfl, Nat.le_refl _, Nat.zero_le _, Sees.none_⟩
  · refine ⟨_, _, rfl, hn, hc, fun _ => ⟨g, 0, rfl, (Array.getElem?_eq_some_iff.1 hg).1, fun k hk => ?_⟩⟩
    rw [Nat.zero_add, cell_of_row w g k cur e (0, 0) hg]
    have := congrArg (fun l => l[k]?) ht
    simp only [List.getElem?_take, List.getElem?_map, List.getElem?_range hk] at this
    rw [if_pos (by omega)] at this
    simpa using this
theorem Owns.snoc {e : TypeId} {base : Nat} {v : Value} {xs : List Value} {u : Value} (h : w.ownsRow base e 1 v (n + 1) xs) (hx : xs = (List.range n).map V ++ [u]) (hu : u = V n) : Owns w base e v (n + 1) V := by
  unfold Owns
  rw [List.range_succ, List.map_append, List.map_cons, List.map_nil, ← hu, ← hx]
  exact h
theorem Owns.alike {e : TypeId} {base : Nat} {v : Value} (h : Owns w base e v n V) {V' : Nat → Value} (hV : ∀ k, k < n → V k = V' k) : Owns w base e v n V' := by
  unfold Owns at h ⊢
  have : (List.range n).map V' = (List.range n).map V := List.map_congr_left fun k hk => (hV k (List.mem_range.1 hk)).symm
  rw [this]; exact h

theorem below_append {B : Nat} {W wx w1 : World} {e : TypeId} {v : Value} {k : Nat} {xs : List Value} {o : Obj} (hb : Below B W wx) (hW : B ≤ wx.heap.size) (hown : wx.ownsRow B e 1 v k xs) (hg : (wx.alloc o).grownBy w1 v.ownBlock) : Below B W w1 :=
  (hb.alloc hW o).grown hg (by simp; omega) (fun g h => (hown.lt g h).1)
theorem Owns.cell {e : TypeId} {base g c : Nat} (h : Owns w base e (.slice (some ⟨g, 0, none⟩) n c) n V) {k : Nat} (hk : k < n) : w.cell? ⟨g, k, none⟩ = some (V k) := by
  rw [World.ownsRow.cellAt h k (by omega)]
  simp [hk]
theorem Owns.frozen {e : TypeId} {base g c : Nat} (h : Owns w base e (.slice (some ⟨g, 0, none⟩) n c) n V) (k : Nat) : w.frozen? ⟨g, k, none⟩ = false := World.ownsRow.frozenAt h k
theorem Owns.set_ {e : TypeId} {base g c : Nat} (h : Owns w base e (.slice (some ⟨g, 0, none⟩) n c) n V) (j : Nat) (u : Value) {V' : Nat → Value} (hj : V' j = u) (ho : ∀ i, i < n → i ≠ j → V' i = V i) :
    Owns (w.setCell ⟨g, j, none⟩ u) base e (.slice (some ⟨g, 0, none⟩) n c) n V' := by
  have h1 := (World.ownsRow.stored h j u).1
  unfold Owns
  have : (List.range n).map V' = ((List.range n).map V).set j u := by
    apply List.ext_getElem?
    intro i
    rw [List.getElem?_set]
    by_cases hi : i < n
    · by_cases hij : j = i
      · subst hij
        simp [hi, hj]
      · simp [hi, hij, ho i hi (Ne.symm hij)]
    · by_cases hij : j = i
      · subst hij
        simp [hi]
      · simp [hi, hij]
  rw [this]; exact h1
end

section
variable {P : Program}
/-- One cell, in a new block, is appended to what the call made. -/
theorem wpList_push (w : World) {ops : Array Oper} {rest : List Oper} {o : Oper} {a : Act} {Q : Exit → Act → World → Prop} (hgd : o.guard = none) (s x : Operand) (t : TypeId)
    (ho : o.op = .call { callee := .builtin .append, args := #[s, x], argTypes := #[t, t] })
    (B : Nat) (e : TypeId) (z : Value) (bytes : Nat) (hinf : (P.info? e).map (fun i => (i.zero, i.size, i.bytes)) = some (some z, 1, bytes)) (hzs : z.cells.size = 1) (ht : P.underlying t = some (.slice e))
    (v : Value) (n : Nat) (V : Nat → Value) (W : World) (hown : Owns w B e v n V) (hbel : Below B W w) (hs : a.eval s = v) (u : Value) (hx : a.eval x = .slice (some ⟨w.heap.size, 0, none⟩) 1 1)
    (hu : u.oneCell' = true) (hB : B ≤ w.heap.size) (h63 : n + 1 ≤ maxLen) (hroom : (n + 1) * bytes ≤ 140737488355328) (hV : u = V n)
    (h : ∀ v' w', Owns w' B e v' (n + 1) V → Below B W w' → (w.alloc (.cells #[u] e)).grownBy w' v.ownBlock → wpList P ops Q rest (a.put o.dst v') w') : wpList P ops Q (o :: rest) a (w.alloc (.cells #[u] e)) := by
  obtain ⟨i0, hi, hz0, hz1, hz2⟩ := info_parts hinf
  refine wpList_append_own _ hgd s x t ho B e i0 z 1 bytes ht hi hz0 hz1 hz2 hzs (by omega) v n _ hs (World.ownsRow.alloc hown _) ⟨w.heap.size, 0, none⟩ 1 1 [u] hx rfl (cell_one_new _ _ _) (by simpa using hu) h63 hroom (by simp; omega) ?_
  intro v' w' h1 h2 _
  exact h v' w' (Owns.snoc h1 rfl hV) (below_append hbel hB hown h2) h2

/-- 'make' at a length: so many zeros of the call's own. -/
theorem wpList_zeros (w : World) {ops : Array Oper} {rest : List Oper} {o : Oper} {a : Act} {Q : Exit → Act → World → Prop} (hgd : o.guard = none) (l c : Operand) (t : TypeId) (hop : o.op = Op.makeSlice t l c)
    (B : Nat) (W : World) (hbel : Below B W w) (hB : B ≤ w.heap.size) (e : TypeId) (z : Value) (bytes : Nat) (hinf : (P.info? e).map (fun i => (i.zero, i.size, i.bytes)) = some (some z, 1, bytes)) (hzs : z.cells = #[z]) (ht : P.underlying t = some (.slice e))
    (kl kc : IntKind) (L C : Int) (n : Nat) (hl : a.eval l = .int kl L) (hc : a.eval c = .int kc C) (hL : L = n) (hC : C = n) (hroom : bytes * n ≤ 281474976710656) (h63 : n ≤ maxLen)
    (h : ∀ w', Owns w' B e (.slice (some ⟨w.heap.size, 0, none⟩) n n) n (fun _ => z) → Below B W w' → w.heap.size < w'.heap.size → w.grownBy w' none → wpList P ops Q rest (a.put o.dst (.slice (some ⟨w.heap.size, 0, none⟩) n n)) w') :
    wpList P ops Q (o :: rest) a w := by
  obtain ⟨i0, hi, hz0, hz1, hz2⟩ := info_parts hinf
  refine wpList_make_full w hgd l c t hop B e i0 z 1 ht hi hz0 hz1 kl kc L C n hl hc hL hC (by rw [hz2]; exact hroom) h63 hB ?_
  intro w' h1 h2
  refine h w' ?_ (hbel.grown h2 hB (fun k h => by cases h)) (h1.lt _ rfl).2 h2
  unfold Owns
  rw [hzs, Nat.mul_one, toList_madeCells_one] at h1
  rw [List.map_const', List.length_range]
  exact h1
end
end Go.Proofs.YtpdenmcacaajkaaGreat

/-! ### Open -/
namespace Go.Proofs.YtpdenmcacaajkaaGreat
open Go.ChangeShapes Go.WideShapes Go.ChangeAt Go.RowKit

/-- Bytes that came in. -/
structure InBytes (w : World) (A : Option Addr) (n c : Nat) (z : Nat → Int) : Prop where
  sees : Sees w w.heap.size A n fun k => .int .u8 (z k)
  byte : ∀ k, k < n → 0 ≤ z k ∧ z k < 256
  le : n ≤ c
  max : c ≤ maxLen

theorem addr_at {w : World} {a : Addr} {v : Value} (h : w.cell? (a.add 0) = some v) : ∃ b off, a = ⟨b, off, none⟩ ∧ b < w.heap.size := by
  obtain ⟨b, off, spot⟩ := a
  have h' : w.cell? ⟨b, off, spot⟩ = some v := by simpa [Addr.add] using h
  have hs : spot = none := World.cell?_spot h'
  subst hs
  exact ⟨b, off, rfl, World.block_lt_of_cell? w _ h'⟩

section
variable {H : Type} {enc : TypeId × Value → H} {P : Program} {w : World} {base : Nat} {spare : Nat → Bool} {held : Bool}
theorem sees_bytes {t e : TypeId} (ht : P.underlying t = some (.slice e)) (he : P.underlying e = some (.int .u8)) (hc : P.cellsOf e = 1) {A : Option Addr} {n c : Nat} {d : DataW H} {ps : List MemPlace}
    (h : DataW.Trod enc P w base spare held t (.slice A n c) d ps) : ∃ z, InBytes w A n c z := by
  obtain ⟨fuel, hf⟩ := h
  rcases open_ints ht he hc hf with ⟨hcs, _⟩ | ⟨x, l, cp, zs, hcs, _, hl, hm, hz, _, hcell, hwz⟩
  · simp [Value.cells] at hcs
    obtain ⟨rfl, rfl, rfl⟩ := hcs
    exact ⟨fun _ => 0, Sees.none_, fun k hk => absurd hk (by omega), Nat.le_refl _, Nat.zero_le _⟩
  · simp [Value.cells] at hcs
    obtain ⟨rfl, rfl, rfl⟩ := hcs
    have hnz : n ≤ zs.length := by rw [hz]; split <;> omega
    refine ⟨fun k => zs.getD k 0, fun h0 => ?_, fun k hk => ?_, hl, hm⟩
    · obtain ⟨b, off, rfl, hb⟩ := addr_at (hcell 0 (by omega))
      refine ⟨b, off, rfl, hb, fun k hk => ?_⟩
      have := hcell k (by omega)
      by_cases h0 : k = 0
      · subst h0; simpa [Addr.add] using this
      · simpa [Addr.add, h0] using this
    · have hw := hwz (zs[k]'(by omega)) (List.getElem_mem _)
      have := bounds_u8 hw
      simp only [List.getD_eq_getElem?_getD, List.getElem?_eq_getElem (show k < zs.length by omega), Option.getD_some]
      omega
end
end Go.Proofs.YtpdenmcacaajkaaGreat

/-! ### Bytes -/
namespace Go.Proofs.YtpdenmcacaajkaaGreat
open Go.ChangeShapes Go.WideShapes Go.ChangeAt Go.RowKit

theorem range_join (n m : Nat) (V U : Nat → Value) : (List.range (n + m)).map (fun k => if k < n then V k else U (k - n)) = (List.range n).map V ++ (List.range m).map U := by
  apply List.ext_getElem?
  intro i
  rw [List.getElem?_append]
  simp only [List.getElem?_map, List.length_map, List.length_range]
  by_cases hi : i < n
  · rw [if_pos hi, List.getElem?_range hi, List.getElem?_range (show i < n + m by omega)]
    simp [hi]
  · rw [if_neg hi]
    by_cases hj : i - n < m
    · rw [List.getElem?_range hj, List.getElem?_range (show i < n + m by omega)]
      simp [hi]
    · rw [List.getElem?_eq_none (by simp; omega), List.getElem?_eq_none (by simp; omega)]
      rfl

theorem wpList_appendAll {P : Program} (w : World) {ops : Array Oper} {rest : List Oper} {o : Oper} {a : Act} {Q : Exit → Act → World → Prop} (hgd : o.guard = none) (s x : Operand) (t : TypeId)
    (ho : o.op = .call { callee := .builtin .append, args := #[s, x], argTypes := #[t, t] })
    (B : Nat) (e : TypeId) (z : Value) (bytes : Nat) (hinf : (P.info? e).map (fun i => (i.zero, i.size, i.bytes)) = some (some z, 1, bytes)) (hzs : z.cells.size = 1) (ht : P.underlying t = some (.slice e))
    (v : Value) (n : Nat) (V : Nat → Value) (W : World) (hown : Owns w B e v n V) (hbel : Below B W w) (hs : a.eval s = v)
    (Bs : Nat) (A : Option Addr) (m c : Nat) (U : Nat → Value) (hx : a.eval x = .slice A m c) (hnil : A = none → m = 0 ∧ c = 0) (hsee : Sees w Bs A m U) (hU : ∀ k, k < m → (U k).oneCell' = true)
    (hB : B ≤ w.heap.size) (h63 : n + m ≤ maxLen) (hroom : (n + m) * bytes ≤ 140737488355328)
    (h : ∀ v' w', Owns w' B e v' (n + m) (fun k => if k < n then V k else U (k - n)) → Below B W w' → (v' = .slice none 0 0 → v = .slice none 0 0 ∧ m = 0) → wpList P ops Q rest (a.put o.dst v') w') : wpList P ops Q (o :: rest) a w := by
  obtain ⟨i0, hi, hz0, hz1, hz2⟩ := info_parts hinf
  cases A with
  | none =>
    obtain ⟨rfl, rfl⟩ := hnil rfl
    refine wpList_append_own_none hgd s x t ho B e i0 1 ht hi v n _ hs hown hx ?_
    refine h v w ?_ hbel (fun h => ⟨h, rfl⟩)
    exact hown.alike fun k hk => by rw [if_pos hk]
  | some ad =>
    refine wpList_append_own _ hgd s x t ho B e i0 z 1 bytes ht hi hz0 hz1 hz2 hzs (by omega) v n _ hs hown ad m c ((List.range m).map U) hx (by simp) ?_ ?_ h63 hroom hB ?_
    · intro j u hj
      rw [List.getElem?_map] at hj
      by_cases hjm : j < m
      · rw [List.getElem?_range hjm] at hj
        simp at hj
        subst hj
        obtain ⟨b, off, he, _, hc⟩ := hsee (by omega)
        simp only [Option.some.injEq] at he
        subst he
        have := hc j hjm
        by_cases h1 : j = 0
        · subst h1; simpa [Addr.add] using this
        · simpa [Addr.add, h1] using this
      · rw [List.getElem?_eq_none (by simpa using hjm)] at hj
        cases hj
    · intro u hu
      obtain ⟨k, hk, rfl⟩ := List.mem_map.1 hu
      exact hU k (List.mem_range.1 hk)
    · intro v' w' h1 h2 h3
      refine h v' w' ?_ (hbel.grown h2 hB (fun g h => (World.ownsRow.lt hown g h).1)) (fun h => h3.1 h)
      unfold Owns
      rw [range_join]
      exact h1

theorem infoU8 : (Tryz.prog.info? 5).map (fun i => (i.zero, i.size, i.bytes)) = some (some (.int .u8 0), 1, 1) := by kernel_rfl

/-- Bytes that came in, nil told, and how many there may be. -/
structure InBytesN (w : World) (A : Option Addr) (n c : Nat) (z : Nat → Int) : Prop where
  bytes : InBytes w A n c z
  nil : A = none → n = 0 ∧ c = 0
  reach : n ≤ 140737488351232
section
variable {H : Type} {enc : TypeId × Value → H} {P : Program} {w : World} {base : Nat} {spare : Nat → Bool} {held : Bool}
theorem sees_bytesn {t e : TypeId} (ht : P.underlying t = some (.slice e)) (he : P.underlying e = some (.int .u8)) (hc : P.cellsOf e = 1) {A : Option Addr} {n c : Nat} {d : DataW H} {ps : List MemPlace}
    (h : DataW.Trod enc P w base spare held t (.slice A n c) d ps) (hb : P.bytesOf e = 1) (hsz : ∀ elems rest, d = .slice elems rest → (elems.length + rest.length) * P.bytesOf e ≤ reachBytes) : ∃ z, InBytesN w A n c z := by
  have h0 := h
  obtain ⟨z, hz⟩ := sees_bytes ht he hc h0
  obtain ⟨fuel, hf⟩ := h
  rcases open_ints ht he hc hf with ⟨hcs, _⟩ | ⟨x, l, cp, zs, hcs, _, hl, hm, hzl, hx, hcell, hwz⟩
  · simp [Value.cells] at hcs
    obtain ⟨rfl, rfl, rfl⟩ := hcs
    exact ⟨z, hz, fun _ => ⟨rfl, rfl⟩, by omega⟩
  · simp [Value.cells] at hcs
    obtain ⟨rfl, rfl, rfl⟩ := hcs
    simp only [Prod.mk.injEq] at hx
    have h2 := hsz _ _ hx.1
    have hnz : n ≤ zs.length := by rw [hzl]; split <;> omega
    have h3 : (zs.take n).length = n := by simp; omega
    rw [hb] at h2
    have h4 : (lits (H := H) .u8 (zs.take n)).length = n := by simp [lits]; omega
    rw [h4] at h2
    unfold reachBytes at h2
    exact ⟨z, hz, (fun h => by cases h), by omega⟩
end

end Go.Proofs.YtpdenmcacaajkaaGreat

/-! ### Text -/
namespace Go.Proofs.YtpdenmcacaajkaaGreat
open Go.RowKit

theorem Owns.formN {w : World} {B n : Nat} {e : TypeId} {v : Value} {V : Nat → Value} (h : Owns w B e v n V) : ∃ A c, v = .slice A n c ∧ n ≤ c ∧ c ≤ maxLen ∧ Sees w w.heap.size A n V ∧ (A = none → n = 0 ∧ c = 0) := by
  obtain ⟨A, c, rfl, h1, h2, h3⟩ := Owns.form h
  refine ⟨A, c, rfl, h1, h2, h3, fun hA => ?_⟩
  subst hA
  rcases h.2 with ⟨h4, _⟩ | ⟨g, cap, cur, h4, _⟩
  · simp only [Value.slice.injEq] at h4
    exact ⟨h4.2.1, h4.2.2⟩
  · simp at h4

/-- Bytes as a string's bytes. -/
def textOf (z : Nat → Int) (n : Nat) : ByteArray := ((List.range n).map z).foldl (fun r n => r.push (UInt8.ofNat n.toNat)) ByteArray.empty
theorem textOf_congr {z z' : Nat → Int} {n : Nat} (h : ∀ k, k < n → z k = z' k) : textOf z n = textOf z' n := by
  unfold textOf
  rw [List.map_congr_left fun k hk => h k (List.mem_range.1 hk)]
theorem run_text {w : World} {B n c : Nat} {A : Option Addr} {z : Nat → Int} (h : Sees w B A n fun k => .int .u8 (z k)) (hnil : A = none → n = 0 ∧ c = 0) :
    (convert 37 9 (.slice A n c)).run Tryz.prog w = .ok (.string (textOf z n)) w := by
  cases A with
  | none =>
    obtain ⟨rfl, rfl⟩ := hnil rfl
    rw [run_convert_bytes_string w _ _ 5 _ _ _ Tryz.underlying37 Tryz.underlying5 Tryz.underlying9]
    rfl
  | some ad =>
    rw [run_convert_bytes_string w _ _ 5 _ _ _ Tryz.underlying37 Tryz.underlying5 Tryz.underlying9]
    refine run_bytesToString w _ _ _ ((List.range n).map z) ?_
    rw [run_loadCells w ad n (fun k => .int .u8 (z k)) (fun j hj => ?_)]
    · rw [List.map_map]; rfl
    · obtain ⟨b, off, he, -, hc⟩ := h (by omega)
      simp only [Option.some.injEq] at he
      subst he
      have := hc j hj
      by_cases h0 : j = 0
      · subst h0; simpa [Addr.add] using this
      · simpa [Addr.add, h0] using this
theorem run_text_later {w : World} {B n c : Nat} {A : Option Addr} {z : Nat → Int} (h : Sees w B A n fun k => .int .u8 (z k)) (hnil : A = none → n = 0 ∧ c = 0) :
    (convert 37 9 (.slice A n c)).run Tryz.prog w.drew = .ok (.string (textOf z n)) w.drew := run_text (w := w.drew) h hnil
end Go.Proofs.YtpdenmcacaajkaaGreat

/-! ### Lists -/
namespace Go.Proofs.YtpdenmcacaajkaaGreat
open Go.RowKit

/-- The cells of a list of bytes. -/
def bv (l : List Int) (k : Nat) : Value := .int .u8 (l.getD k 0)
def bytesL (l : List Int) : Prop := ∀ x ∈ l, 0 ≤ x ∧ x < 256
theorem bytesL.getD {l : List Int} (h : bytesL l) (k : Nat) : 0 ≤ l.getD k 0 ∧ l.getD k 0 < 256 := by
  by_cases hk : k < l.length
  · rw [List.getD_eq_getElem?_getD, List.getElem?_eq_getElem hk, Option.getD_some]
    exact h _ (List.getElem_mem _)
  · rw [List.getD_eq_getElem?_getD, List.getElem?_eq_none (by omega)]
    exact ⟨by decide, by decide⟩
/-- A list of its places' bytes. -/
def lst (z : Nat → Int) (n : Nat) : List Int := (List.range n).map z
theorem lst_length (z : Nat → Int) (n : Nat) : (lst z n).length = n := by simp [lst]
theorem lst_getD (z : Nat → Int) (n : Nat) {k : Nat} (h : k < n) : (lst z n).getD k 0 = z k := by
  simp [lst, List.getD_eq_getElem?_getD, h]
theorem lst_bytes {z : Nat → Int} {n : Nat} (h : ∀ k, k < n → 0 ≤ z k ∧ z k < 256) : bytesL (lst z n) := fun x hx => by
  obtain ⟨k, hk, rfl⟩ := List.mem_map.1 hx
  exact h k (List.mem_range.1 hk)
theorem lst_self (l : List Int) : lst (fun k => l.getD k 0) l.length = l := by
  apply List.ext_getElem?
  intro i
  by_cases hi : i < l.length
  · simp [lst, hi, List.getD_eq_getElem?_getD]
  · rw [List.getElem?_eq_none (by simp [lst]; omega), List.getElem?_eq_none (by omega)]

/-- What the call made: a slice of these bytes. -/
def OwnsL (w : World) (base : Nat) (v : Value) (l : List Int) : Prop := Owns w base 5 v l.length (bv l)
/-- A slice of these bytes, nil told. -/
structure SeesL (w : World) (B : Nat) (v : Value) (l : List Int) : Prop where
  at_ : ∃ A c, v = .slice A l.length c ∧ l.length ≤ c ∧ c ≤ maxLen ∧ Sees w B A l.length (bv l) ∧ (A = none → l.length = 0 ∧ c = 0)

section
variable {w w' : World} {B B' Bs : Nat} {v : Value} {l m : List Int}
theorem OwnsL.sees (h : OwnsL w Bs v l) : SeesL w w.heap.size v l := ⟨by
  obtain ⟨A, c, rfl, h1, h2, h3, h4⟩ := Owns.formN h
  exact ⟨A, c, rfl, h1, h2, h3, h4⟩⟩
theorem SeesL.below (h : SeesL w B v l) (hb : Below B w w') : SeesL w' B v l := ⟨by
  obtain ⟨A, c, rfl, h1, h2, h3, h4⟩ := h.at_
  exact ⟨A, c, rfl, h1, h2, h3.below hb, h4⟩⟩
theorem SeesL.more (h : SeesL w B v l) (hB : B ≤ B') : SeesL w B' v l := ⟨by
  obtain ⟨A, c, rfl, h1, h2, h3, h4⟩ := h.at_
  exact ⟨A, c, rfl, h1, h2, h3.more hB, h4⟩⟩
theorem SeesL.drew (h : SeesL w B v l) : SeesL w.drew B v l := ⟨by
  obtain ⟨A, c, rfl, h1, h2, h3, h4⟩ := h.at_
  exact ⟨A, c, rfl, h1, h2, h3, h4⟩⟩
theorem OwnsL.drew (h : OwnsL w Bs v l) : OwnsL w.drew Bs v l := h
theorem SeesL.nil : SeesL w B (.slice none 0 0) [] := ⟨none, 0, rfl, Nat.le_refl _, Nat.zero_le _, Sees.none_, fun _ => ⟨rfl, rfl⟩⟩
theorem OwnsL.nil : OwnsL w Bs (.slice none 0 0) [] := World.ownsRow_nil _ _ _ _
theorem OwnsL.base (h : OwnsL w Bs v l) (hB : B ≤ Bs) : OwnsL w B v l := by
  refine ⟨h.1, ?_⟩
  rcases h.2 with h | ⟨g, cap, cur, h1, h2, h3⟩
  · exact .inl h
  · exact .inr ⟨g, cap, cur, h1, by omega, h3⟩
theorem Owns.belowN {n : Nat} {e : TypeId} {V : Nat → Value} (h : Owns w B e v n V) (hb : Below B' w w') (hB : w.heap.size ≤ B') : Owns w' B e v n V :=
  World.ownsRow.kept (row := none) h ⟨hb.os, hb.tape, hb.output, hb.size, fun k hk _ => hb.block k (by omega)⟩ (by
    rcases h.2 with ⟨rfl, _⟩ | ⟨g, cap, cur, rfl, _⟩
    · exact .inl rfl
    · exact .inr (by simp [Value.ownBlock]))
theorem OwnsL.below (h : OwnsL w Bs v l) (hb : Below B' w w') (hB : w.heap.size ≤ B') : OwnsL w' Bs v l := Owns.belowN h hb hB
theorem OwnsL.alloc (h : OwnsL w Bs v l) (o : Obj) : OwnsL (w.alloc o) Bs v l := World.ownsRow.alloc h o
theorem bv_append (l m : List Int) (k : Nat) : (if k < l.length then bv l k else bv m (k - l.length)) = bv (l ++ m) k := by
  unfold bv
  simp only [List.getD_eq_getElem?_getD, List.getElem?_append]
  split <;> rfl
/-- What came in, as a list. -/
theorem InBytesN.list {A : Option Addr} {n c : Nat} {z : Nat → Int} (h : InBytesN w A n c z) : SeesL w w.heap.size (.slice A n c) (lst z n) ∧ bytesL (lst z n) := by
  obtain ⟨⟨hs, hz, hn, hc⟩, hnil, -⟩ := h
  refine ⟨⟨A, c, by rw [lst_length], by rw [lst_length]; exact hn, hc, ?_, by rw [lst_length]; exact hnil⟩, lst_bytes hz⟩
  rw [lst_length]
  exact hs.alike fun k hk => by rw [bv, lst_getD z n hk]
end

section
variable {P : Program}
/-- A list's bytes are appended to what the call owns. -/
theorem wpList_appendL (w : World) {ops : Array Oper} {rest : List Oper} {o : Oper} {a : Act} {Q : Exit → Act → World → Prop} (hgd : o.guard = none) (s x : Operand) (t : TypeId)
    (ho : o.op = .call { callee := .builtin .append, args := #[s, x], argTypes := #[t, t] })
    (B : Nat) (hinf : (P.info? 5).map (fun i => (i.zero, i.size, i.bytes)) = some (some (.int .u8 0), 1, 1)) (ht : P.underlying t = some (.slice 5))
    (v : Value) (l : List Int) (W : World) (hown : OwnsL w B v l) (hbel : Below B W w) (hs : a.eval s = v)
    (Bs : Nat) (u : Value) (m : List Int) (hx : a.eval x = u) (hsee : SeesL w Bs u m)
    (hB : B ≤ w.heap.size) (hroom : l.length + m.length ≤ 140737488355328)
    (h : ∀ v' w', OwnsL w' B v' (l ++ m) → Below B W w' → wpList P ops Q rest (a.put o.dst v') w') : wpList P ops Q (o :: rest) a w := by
  obtain ⟨A, c, rfl, -, -, h3, h4⟩ := hsee.at_
  refine wpList_appendAll w hgd s x t ho B 5 (.int .u8 0) 1 hinf rfl ht v l.length (bv l) W hown hbel hs Bs A m.length c (bv m) hx h4 h3 (fun _ _ => rfl) hB (by unfold maxLen; omega) (by omega) ?_
  intro v' w' h5 h6 _
  refine h v' w' ?_ h6
  unfold OwnsL
  rw [List.length_append]
  exact h5.alike fun k _ => bv_append l m k
end

/-- A new block of bytes, written out. -/
theorem sees_lit (w : World) (e : TypeId) (cs : Array Value) (l : List Int) (hl : cs = (l.map (Value.int .u8)).toArray) (B : Nat) (hB : w.heap.size < B) (hm : l.length ≤ maxLen) (g n c : Nat) (hg : g = w.heap.size) (hn : n = l.length) (hc : c = l.length) :
    SeesL (w.alloc (.cells cs e)) B (.slice (some ⟨g, 0, none⟩) n c) l := ⟨some ⟨g, 0, none⟩, c, by rw [hn], by omega, by omega, fun _ => ⟨g, 0, rfl, by omega, fun k hk => by
    rw [Nat.zero_add, World.cell?_alloc_at _ _ _ _ hg, hl]
    unfold bv
    simp [List.getD_eq_getElem?_getD, hk]⟩, fun h => by cases h⟩
theorem owns_lit (w : World) (e : TypeId) (he : e = 5) (cs : Array Value) (l : List Int) (hl : cs = (l.map (Value.int .u8)).toArray) (B : Nat) (hB : B ≤ w.heap.size) (hm : l.length ≤ maxLen) (g n c : Nat) (hg : g = w.heap.size) (hn : n = l.length) (hc : c = l.length) :
    OwnsL (w.alloc (.cells cs e)) B (.slice (some ⟨g, 0, none⟩) n c) l := by
  subst he hn hc hg
  have := World.ownsRow_lit (base := B) (e := 5) (size := 1) w cs l.length hB hm (by rw [hl]; simp)
  unfold OwnsL Owns
  have e : (List.range l.length).map (bv l) = cs.toList := by
    rw [hl]
    apply List.ext_getElem?
    intro i
    by_cases hi : i < l.length
    · simp [hi, bv, List.getD_eq_getElem?_getD]
    · rw [List.getElem?_eq_none (by simp; omega), List.getElem?_eq_none (by simp; omega)]
  rw [e]
  exact this

/-! ### Texts -/
def textL (l : List Int) : ByteArray := l.foldl (fun r n => r.push (UInt8.ofNat n.toNat)) ByteArray.empty
theorem textL_data (l : List Int) (b : ByteArray) : (l.foldl (fun r n => r.push (UInt8.ofNat n.toNat)) b).data.toList = b.data.toList ++ l.map fun n => UInt8.ofNat n.toNat := by
  induction l generalizing b with
  | nil => simp
  | cons x l ih => rw [List.foldl_cons, ih]; simp [ByteArray.push]
theorem textL_inj {l m : List Int} (hl : bytesL l) (hm : bytesL m) (h : textL l = textL m) : l = m := by
  have e : (textL l).data.toList = (textL m).data.toList := by rw [h]
  unfold textL at e
  rw [textL_data, textL_data] at e
  simp only [show (ByteArray.empty.data.toList : List UInt8) = [] from rfl, List.nil_append] at e
  clear h
  induction l generalizing m with
  | nil =>
    cases m with
    | nil => rfl
    | cons y m => simp at e
  | cons x l ih =>
    cases m with
    | nil => simp at e
    | cons y m =>
      simp only [List.map_cons, List.cons.injEq] at e
      have hx := hl x (by simp)
      have hy := hm y (by simp)
      have e1 := congrArg UInt8.toNat e.1
      simp only [UInt8.toNat_ofNat'] at e1
      have hxy : x = y := by omega
      rw [hxy, ih (fun z hz => hl z (List.mem_cons_of_mem _ hz)) (fun z hz => hm z (List.mem_cons_of_mem _ hz)) e.2]
theorem textL_iff {l m : List Int} (hl : bytesL l) (hm : bytesL m) : (textL l = textL m) ↔ l = m := ⟨textL_inj hl hm, fun h => by rw [h]⟩
theorem run_textL {w : World} {B : Nat} {v : Value} {l : List Int} (h : SeesL w B v l) : (convert 37 9 v).run Tryz.prog w = .ok (.string (textL l)) w := by
  obtain ⟨A, c, rfl, -, -, h3, h4⟩ := h.at_
  have := run_text (c := c) (z := fun k => l.getD k 0) h3 h4
  rw [this]
  unfold textOf textL
  have e := lst_self l
  unfold lst at e
  rw [e]
theorem run_textL_drew {w : World} {B : Nat} {v : Value} {l : List Int} (h : SeesL w B v l) : (convert 37 9 v).run Tryz.prog w.drew = .ok (.string (textL l)) w.drew := by
  obtain ⟨A, c, rfl, h1, h2, h3, h4⟩ := h.at_
  exact run_textL (w := w.drew) ⟨A, c, rfl, h1, h2, h3, h4⟩
end Go.Proofs.YtpdenmcacaajkaaGreat
