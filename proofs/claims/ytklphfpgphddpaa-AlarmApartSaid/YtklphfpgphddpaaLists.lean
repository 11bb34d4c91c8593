/- Lists of bytes in memory, and as texts. No condition. -/
import Derived.Test.YtklphfpgphddpaaBytes
import Derived.Test.YtklphfpgphddpaaText
namespace Go.Proofs.Ytklphfpgphddpaa
open Go.RowKit

/-- The cells of a list of bytes. -/
def bv (l : List Int) (k : Nat) : Value := .int .u8 (l.getD k 0)
def bytesL (l : List Int) : Prop := ∀ x ∈ l, 0 ≤ x ∧ x < 256
theorem bytesL.getD {l : List Int} (h : bytesL l) (k : Nat) : 0 ≤ l.getD k 0 ∧ l.getD k 0 < 256 := by
  by_cases hk : k < l.length
  · rw [List.getD_eq_getElem?_getD, List.getElem?_eq_getElem hk, Option.getD_some]
    exact h _ (List.getElem_mem _)
  · rw [List.getD_eq_getElem?_getD, List.getElem?_eq_none (by omega)]
    exact ⟨by decide, by decide⟩
/-- A list of its places' bytes. -/
def lst (z : Nat → Int) (n : Nat) : List Int := (List.range n).map z
theorem lst_length (z : Nat → Int) (n : Nat) : (lst z n).length = n := by simp [lst]
theorem lst_getD (z : Nat → Int) (n : Nat) {k : Nat} (h : k < n) : (lst z n).getD k 0 = z k := by
  simp [lst, List.getD_eq_getElem?_getD, h]
theorem lst_bytes {z : Nat → Int} {n : Nat} (h : ∀ k, k < n → 0 ≤ z k ∧ z k < 256) : bytesL (lst z n) := fun x hx => by
  obtain ⟨k, hk, rfl⟩ := List.mem_map.1 hx
  exact h k (List.mem_range.1 hk)
theorem lst_self (l : List Int) : lst (fun k => l.getD k 0) l.length = l := by
  apply List.ext_getElem?
  intro i
  by_cases hi : i < l.length
  · simp [lst, hi, List.getD_eq_getElem?_getD]
  · rw [List.getElem?_eq_none (by simp [lst]; omega), List.getElem?_eq_none (by omega)]

/-- What the call made: a slice of these bytes. -/
def OwnsL (w : World) (base : Nat) (v : Value) (l : List Int) : Prop := Owns w base 5 v l.length (bv l)
/-- A slice of these bytes, nil told. -/
structure SeesL (w : World) (B : Nat) (v : Value) (l : List Int) : Prop where
  at_ : ∃ A c, v = .slice A l.length c ∧ l.length ≤ c ∧ c ≤ maxLen ∧ Sees w B A l.length (bv l) ∧ (A = none → l.length = 0 ∧ c = 0)

section
variable {w w' : World} {B B' Bs : Nat} {v : Value} {l m : List Int}
theorem OwnsL.sees (h : OwnsL w Bs v l) : SeesL w w.heap.size v l := ⟨by
  obtain ⟨A, c, rfl, h1, h2, h3, h4⟩ := Owns.formN h
  exact ⟨A, c, rfl, h1, h2, h3, h4⟩⟩
theorem SeesL.below (h : SeesL w B v l) (hb : Below B w w') : SeesL w' B v l := ⟨by
  obtain ⟨A, c, rfl, h1, h2, h3, h4⟩ := h.at_
  exact ⟨A, c, rfl, h1, h2, h3.below hb, h4⟩⟩
theorem SeesL.more (h : SeesL w B v l) (hB : B ≤ B') : SeesL w B' v l := ⟨by
  obtain ⟨A, c, rfl, h1, h2, h3, h4⟩ := h.at_
  exact ⟨A, c, rfl, h1, h2, h3.more hB, h4⟩⟩
theorem SeesL.drew (h : SeesL w B v l) : SeesL w.drew B v l := ⟨by
  obtain ⟨A, c, rfl, h1, h2, h3, h4⟩ := h.at_
  exact ⟨A, c, rfl, h1, h2, h3, h4⟩⟩
theorem OwnsL.drew (h : OwnsL w Bs v l) : OwnsL w.drew Bs v l := h
theorem SeesL.nil : SeesL w B (.slice none 0 0) [] := ⟨none, 0, rfl, Nat.le_refl _, Nat.zero_le _, Sees.none_, fun _ => ⟨rfl, rfl⟩⟩
theorem OwnsL.nil : OwnsL w Bs (.slice none 0 0) [] := World.ownsRow_nil _ _ _ _
theorem OwnsL.base (h : OwnsL w Bs v l) (hB : B ≤ Bs) : OwnsL w B v l := by
  refine ⟨h.1, ?_⟩
  rcases h.2 with h | ⟨g, cap, cur, h1, h2, h3⟩
  · exact .inl h
  · exact .inr ⟨g, cap, cur, h1, by omega, h3⟩
theorem Owns.belowN {n : Nat} {e : TypeId} {V : Nat → Value} (h : Owns w B e v n V) (hb : Below B' w w') (hB : w.heap.size ≤ B') : Owns w' B e v n V :=
  World.ownsRow.kept (row := none) h ⟨hb.os, hb.tape, hb.output, hb.size, fun k hk _ => hb.block k (by omega)⟩ (by
    rcases h.2 with ⟨rfl, _⟩ | ⟨g, cap, cur, rfl, _⟩
    · exact .inl rfl
    · exact .inr (by simp [Value.ownBlock]))
theorem OwnsL.below (h : OwnsL w Bs v l) (hb : Below B' w w') (hB : w.heap.size ≤ B') : OwnsL w' Bs v l := Owns.belowN h hb hB
theorem OwnsL.alloc (h : OwnsL w Bs v l) (o : Obj) : OwnsL (w.alloc o) Bs v l := World.ownsRow.alloc h o
theorem bv_append (l m : List Int) (k : Nat) : (if k < l.length then bv l k else bv m (k - l.length)) = bv (l ++ m) k := by
  unfold bv
  simp only [List.getD_eq_getElem?_getD, List.getElem?_append]
  split <;> rfl
/-- What came in, as a list. -/
theorem InBytesN.list {A : Option Addr} {n c : Nat} {z : Nat → Int} (h : InBytesN w A n c z) : SeesL w w.heap.size (.slice A n c) (lst z n) ∧ bytesL (lst z n) := by
  obtain ⟨⟨hs, hz, hn, hc⟩, hnil, -⟩ := h
  refine ⟨⟨A, c, by rw [lst_length], by rw [lst_length]; exact hn, hc, ?_, by rw [lst_length]; exact hnil⟩, lst_bytes hz⟩
  rw [lst_length]
  exact hs.alike fun k hk => by rw [bv, lst_getD z n hk]
end

section
variable {P : Program}
/-- A list's bytes are appended to what the call owns. -/
theorem wpList_appendL (w : World) {ops : Array Oper} {rest : List Oper} {o : Oper} {a : Act} {Q : Exit → Act → World → Prop} (hgd : o.guard = none) (s x : Operand) (t : TypeId)
    (ho : o.op = .call { callee := .builtin .append, args := #[s, x], argTypes := #[t, t] })
    (B : Nat) (hinf : (P.info? 5).map (fun i => (i.zero, i.size, i.bytes)) = some (some (.int .u8 0), 1, 1)) (ht : P.underlying t = some (.slice 5))
    (v : Value) (l : List Int) (W : World) (hown : OwnsL w B v l) (hbel : Below B W w) (hs : a.eval s = v)
    (Bs : Nat) (u : Value) (m : List Int) (hx : a.eval x = u) (hsee : SeesL w Bs u m)
    (hB : B ≤ w.heap.size) (hroom : l.length + m.length ≤ 140737488355328)
    (h : ∀ v' w', OwnsL w' B v' (l ++ m) → Below B W w' → wpList P ops Q rest (a.put o.dst v') w') : wpList P ops Q (o :: rest) a w := by
  obtain ⟨A, c, rfl, -, -, h3, h4⟩ := hsee.at_
  refine wpList_appendAll w hgd s x t ho B 5 (.int .u8 0) 1 hinf rfl ht v l.length (bv l) W hown hbel hs Bs A m.length c (bv m) hx h4 h3 (fun _ _ => rfl) hB (by unfold maxLen; omega) (by omega) ?_
  intro v' w' h5 h6 _
  refine h v' w' ?_ h6
  unfold OwnsL
  rw [List.length_append]
  exact h5.alike fun k _ => bv_append l m k
end

/-- A new block of bytes, written out. -/
theorem sees_lit (w : World) (e : TypeId) (cs : Array Value) (l : List Int) (hl : cs = (l.map (Value.int .u8)).toArray) (B : Nat) (hB : w.heap.size < B) (hm : l.length ≤ maxLen) (g n c : Nat) (hg : g = w.heap.size) (hn : n = l.length) (hc : c = l.length) :
    SeesL (w.alloc (.cells cs e)) B (.slice (some ⟨g, 0, none⟩) n c) l := ⟨some ⟨g, 0, none⟩, c, by rw [hn], by omega, by omega, fun _ => ⟨g, 0, rfl, by omega, fun k hk => by
    rw [Nat.zero_add, World.cell?_alloc_at _ _ _ _ hg, hl]
    unfold bv
    simp [List.getD_eq_getElem?_getD, hk]⟩, fun h => by cases h⟩
theorem owns_lit (w : World) (e : TypeId) (he : e = 5) (cs : Array Value) (l : List Int) (hl : cs = (l.map (Value.int .u8)).toArray) (B : Nat) (hB : B ≤ w.heap.size) (hm : l.length ≤ maxLen) (g n c : Nat) (hg : g = w.heap.size) (hn : n = l.length) (hc : c = l.length) :
    OwnsL (w.alloc (.cells cs e)) B (.slice (some ⟨g, 0, none⟩) n c) l := by
  subst he hn hc hg
  have := World.ownsRow_lit (base := B) (e := 5) (size := 1) w cs l.length hB hm (by rw [hl]; simp)
  unfold OwnsL Owns
  have e : (List.range l.length).map (bv l) = cs.toList := by
    rw [hl]
    apply List.ext_getElem?
    intro i
    by_cases hi : i < l.length
    · simp [hi, bv, List.getD_eq_getElem?_getD]
    · rw [List.getElem?_eq_none (by simp; omega), List.getElem?_eq_none (by simp; omega)]
  rw [e]
  exact this

/-! ### Texts -/
def textL (l : List Int) : ByteArray := l.foldl (fun r n => r.push (UInt8.ofNat n.toNat)) ByteArray.empty
theorem textL_data (l : List Int) (b : ByteArray) : (l.foldl (fun r n => r.push (UInt8.ofNat n.toNat)) b).data.toList = b.data.toList ++ l.map fun n => UInt8.ofNat n.toNat := by
  induction l generalizing b with
  | nil => simp
  | cons x l ih => rw [List.foldl_cons, ih]; simp [ByteArray.push]
theorem textL_inj {l m : List Int} (hl : bytesL l) (hm : bytesL m) (h : textL l = textL m) : l = m := by
  have e : (textL l).data.toList = (textL m).data.toList := by rw [h]
  unfold textL at e
  rw [textL_data, textL_data] at e
  simp only [show (ByteArray.empty.data.toList : List UInt8) = [] from rfl, List.nil_append] at e
  clear h
  induction l generalizing m with
  | nil =>
    cases m with
    | nil => rfl
    | cons y m => simp at e
  | cons x l ih =>
    cases m with
    | nil => simp at e
    | cons y m =>
      simp only [List.map_cons, List.cons.injEq] at e
      have hx := hl x (by simp)
      have hy := hm y (by simp)
      have e1 := congrArg UInt8.toNat e.1
      simp only [UInt8.toNat_ofNat'] at e1
      have hxy : x = y := by omega
      rw [hxy, ih (fun z hz => hl z (List.mem_cons_of_mem _ hz)) (fun z hz => hm z (List.mem_cons_of_mem _ hz)) e.2]
theorem textL_iff {l m : List Int} (hl : bytesL l) (hm : bytesL m) : (textL l = textL m) ↔ l = m := ⟨textL_inj hl hm, fun h => by rw [h]⟩
theorem run_textL {w : World} {B : Nat} {v : Value} {l : List Int} (h : SeesL w B v l) : (convert 24 9 v).run Try.prog w = .ok (.string (textL l)) w := by
  obtain ⟨A, c, rfl, -, -, h3, h4⟩ := h.at_
  have := run_text (c := c) (z := fun k => l.getD k 0) h3 h4
  rw [this]
  unfold textOf textL
  have e := lst_self l
  unfold lst at e
  rw [e]
theorem run_textL_drew {w : World} {B : Nat} {v : Value} {l : List Int} (h : SeesL w B v l) : (convert 24 9 v).run Try.prog w.drew = .ok (.string (textL l)) w.drew := by
  obtain ⟨A, c, rfl, h1, h2, h3, h4⟩ := h.at_
  exact run_textL (w := w.drew) ⟨A, c, rfl, h1, h2, h3, h4⟩
end Go.Proofs.Ytklphfpgphddpaa
