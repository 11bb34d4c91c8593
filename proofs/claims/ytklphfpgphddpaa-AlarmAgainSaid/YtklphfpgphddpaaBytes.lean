/- 'append' of a whole slice of cells, nil let in; bytes that came in, nil told. No condition but sizes. -/
import Derived.Test.YtklphfpgphddpaaKit
import Derived.Test.YtklphfpgphddpaaOpen
import Derived.Laws.AppendOwnNone
import Derived.SizedLaws
namespace Go.Proofs.Ytklphfpgphddpaa
open Go.ChangeShapes Go.WideShapes Go.ChangeAt Go.RowKit

theorem range_join (n m : Nat) (V U : Nat → Value) : (List.range (n + m)).map (fun k => if k < n then V k else U (k - n)) = (List.range n).map V ++ (List.range m).map U := by
  apply List.ext_getElem?
  intro i
  rw [List.getElem?_append]
  simp only [List.getElem?_map, List.length_map, List.length_range]
  by_cases hi : i < n
  · rw [if_pos hi, List.getElem?_range hi, List.getElem?_range (show i < n + m by omega)]
    simp [hi]
  · rw [if_neg hi]
    by_cases hj : i - n < m
    · rw [List.getElem?_range hj, List.getElem?_range (show i < n + m by omega)]
      simp [hi]
    · rw [List.getElem?_eq_none (by simp; omega), List.getElem?_eq_none (by simp; omega)]
      rfl

theorem wpList_appendAll {P : Program} (w : World) {ops : Array Oper} {rest : List Oper} {o : Oper} {a : Act} {Q : Exit → Act → World → Prop} (hgd : o.guard = none) (s x : Operand) (t : TypeId)
    (ho : o.op = .call { callee := .builtin .append, args := #[s, x], argTypes := #[t, t] })
    (B : Nat) (e : TypeId) (z : Value) (bytes : Nat) (hinf : (P.info? e).map (fun i => (i.zero, i.size, i.bytes)) = some (some z, 1, bytes)) (hzs : z.cells.size = 1) (ht : P.underlying t = some (.slice e))
    (v : Value) (n : Nat) (V : Nat → Value) (W : World) (hown : Owns w B e v n V) (hbel : Below B W w) (hs : a.eval s = v)
    (Bs : Nat) (A : Option Addr) (m c : Nat) (U : Nat → Value) (hx : a.eval x = .slice A m c) (hnil : A = none → m = 0 ∧ c = 0) (hsee : Sees w Bs A m U) (hU : ∀ k, k < m → (U k).oneCell' = true)
    (hB : B ≤ w.heap.size) (h63 : n + m ≤ maxLen) (hroom : (n + m) * bytes ≤ 140737488355328)
    (h : ∀ v' w', Owns w' B e v' (n + m) (fun k => if k < n then V k else U (k - n)) → Below B W w' → (v' = .slice none 0 0 → v = .slice none 0 0 ∧ m = 0) → wpList P ops Q rest (a.put o.dst v') w') : wpList P ops Q (o :: rest) a w := by
  obtain ⟨i0, hi, hz0, hz1, hz2⟩ := info_parts hinf
  cases A with
  | none =>
    obtain ⟨rfl, rfl⟩ := hnil rfl
    refine wpList_append_own_none hgd s x t ho B e i0 1 ht hi v n _ hs hown hx ?_
    refine h v w ?_ hbel (fun h => ⟨h, rfl⟩)
    exact hown.alike fun k hk => by rw [if_pos hk]
  | some ad =>
    refine wpList_append_own _ hgd s x t ho B e i0 z 1 bytes ht hi hz0 hz1 hz2 hzs (by omega) v n _ hs hown ad m c ((List.range m).map U) hx (by simp) ?_ ?_ h63 hroom hB ?_
    · intro j u hj
      rw [List.getElem?_map] at hj
      by_cases hjm : j < m
      · rw [List.getElem?_range hjm] at hj
        simp at hj
        subst hj
        obtain ⟨b, off, he, _, hc⟩ := hsee (by omega)
        simp only [Option.some.injEq] at he
        subst he
        have := hc j hjm
        by_cases h1 : j = 0
        · subst h1; simpa [Addr.add] using this
        · simpa [Addr.add, h1] using this
      · rw [List.getElem?_eq_none (by simpa using hjm)] at hj
        cases hj
    · intro u hu
      obtain ⟨k, hk, rfl⟩ := List.mem_map.1 hu
      exact hU k (List.mem_range.1 hk)
    · intro v' w' h1 h2 h3
      refine h v' w' ?_ (hbel.grown h2 hB (fun g h => (World.ownsRow.lt hown g h).1)) (fun h => h3.1 h)
      unfold Owns
      rw [range_join]
      exact h1

theorem infoU8 : (Try.prog.info? 5).map (fun i => (i.zero, i.size, i.bytes)) = some (some (.int .u8 0), 1, 1) := by kernel_rfl

/-- Bytes that came in, nil told, and how many there may be. -/
structure InBytesN (w : World) (A : Option Addr) (n c : Nat) (z : Nat → Int) : Prop where
  bytes : InBytes w A n c z
  nil : A = none → n = 0 ∧ c = 0
  reach : n ≤ 140737488351232
section
variable {H : Type} {enc : TypeId × Value → H} {P : Program} {w : World} {base : Nat} {spare : Nat → Bool} {held : Bool}
theorem sees_bytesn {t e : TypeId} (ht : P.underlying t = some (.slice e)) (he : P.underlying e = some (.int .u8)) (hc : P.cellsOf e = 1) {A : Option Addr} {n c : Nat} {d : DataW H} {ps : List MemPlace}
    (h : DataW.Trod enc P w base spare held t (.slice A n c) d ps) (hb : P.bytesOf e = 1) (hsz : ∀ elems rest, d = .slice elems rest → (elems.length + rest.length) * P.bytesOf e ≤ reachBytes) : ∃ z, InBytesN w A n c z := by
  have h0 := h
  obtain ⟨z, hz⟩ := sees_bytes ht he hc h0
  obtain ⟨fuel, hf⟩ := h
  rcases open_ints ht he hc hf with ⟨hcs, _⟩ | ⟨x, l, cp, zs, hcs, _, hl, hm, hzl, hx, hcell, hwz⟩
  · simp [Value.cells] at hcs
    obtain ⟨rfl, rfl, rfl⟩ := hcs
    exact ⟨z, hz, fun _ => ⟨rfl, rfl⟩, by omega⟩
  · simp [Value.cells] at hcs
    obtain ⟨rfl, rfl, rfl⟩ := hcs
    simp only [Prod.mk.injEq] at hx
    have h2 := hsz _ _ hx.1
    have hnz : n ≤ zs.length := by rw [hzl]; split <;> omega
    have h3 : (zs.take n).length = n := by simp; omega
    rw [hb] at h2
    have h4 : (lits (H := H) .u8 (zs.take n)).length = n := by simp [lits]; omega
    rw [h4] at h2
    unfold reachBytes at h2
    exact ⟨z, hz, (fun h => by cases h), by omega⟩
end

end Go.Proofs.Ytklphfpgphddpaa
