/- What a law's walk is told of a slice of slices of bytes that came in. -/
import Derived.Test.YtbjojpcgigoenaaCrcC
import Derived.Deep.Matrix
namespace Go.Proofs.Ytbjojpcgigoenaa
open Go.ChangeShapes Go.WideShapes Go.ChangeAt Go.RowKit

structure InRows (w : World) (L : Option Addr) (m C : Nat) (A : Nat → Option Addr) (N c : Nat → Nat) (z : Nat → Nat → Int) : Prop where
  sees : Sees w w.heap.size L m fun i => .slice (A i) (N i) (c i)
  row : ∀ i, i < m → InBytesN w (A i) (N i) (c i) (z i)
  le : m ≤ C
  max : C ≤ maxLen

section
variable {H : Type} {P : Program}
theorem weights_among {e : TypeId} {d : DataW H} : ∀ {l : List (DataW H)}, d ∈ l → ∀ x ∈ d.weights P e, x ∈ DataW.weightsAll P e l
  | d' :: r, hd, x, hx => by
    rw [DataW.weightsAll, List.mem_append]
    rcases List.mem_cons.1 hd with h | h
    · exact .inl (h ▸ hx)
    · exact .inr (weights_among h x hx)
/-- What the form's reach says of a row in a list of rows. -/
theorem reach_inner {ts : List TypeId} {ds : List (DataW H)} (h : (DataW.weightsEach P ts ds).all (· ≤ reachBytes) = true) {j : Nat} {t e q : TypeId} {es rest es' rest' : List (DataW H)} (ht : ts[j]? = some t) (hd : ds[j]? = some (.slice es rest))
    (hu : P.underlying t = some (.slice e)) (hq : P.underlying e = some (.slice q)) (hx : DataW.slice es' rest' ∈ es) : (es'.length + rest'.length) * P.bytesOf q ≤ reachBytes := by
  have hin : (es'.length + rest'.length) * P.bytesOf q ∈ (DataW.slice es rest).weights P t := by
    simp only [DataW.weights, hu, List.mem_cons, List.mem_append]
    refine .inr (.inl (weights_among hx _ ?_))
    simp [DataW.weights, hq]
  exact of_decide_eq_true (List.all_eq_true.1 h _ (DataW.weights_mem_each ht hd _ hin))

variable {enc : TypeId × Value → H} {w : World} {base : Nat} {held : Bool}
theorem sees_rows {t e q : TypeId} (ht : P.underlying t = some (.slice e)) (he : P.underlying e = some (.slice q)) (hq : P.underlying q = some (.int .u8)) (ce : P.cellsOf e = 1) (cq : P.cellsOf q = 1) (hb : P.bytesOf q = 1) {L : Option Addr} {m C : Nat} {d : DataW H} {ps : List MemPlace}
    (h : DataW.Trod enc P w base (fun _ => true) held t (.slice L m C) d ps) (hsz : ∀ es rest es' rest', d = .slice es rest → DataW.slice es' rest' ∈ es → (es'.length + rest'.length) * P.bytesOf q ≤ reachBytes) : ∃ A N c z, InRows w L m C A N c z := by
  obtain ⟨fuel, hf⟩ := h
  rcases Go.Deep.open_int_rows ht he hq ce cq hf with ⟨hcs, _⟩ | ⟨a, len, cap, A, N, c, Z, hcs, _, hl, hm, hx, hr⟩
  · simp [Value.cells] at hcs
    obtain ⟨rfl, rfl, rfl⟩ := hcs
    exact ⟨fun _ => none, fun _ => 0, fun _ => 0, fun _ _ => 0, Sees.none_, fun i hi => absurd hi (by omega), Nat.le_refl _, Nat.zero_le _⟩
  · simp [Value.cells] at hcs
    obtain ⟨rfl, rfl, rfl⟩ := hcs
    simp only [Prod.mk.injEq] at hx
    refine ⟨A, N, c, fun i k => (Z i).getD k 0, fun h0 => ?_, fun i hi => ?_, hl, hm⟩
    · obtain ⟨b, off, rfl, hbb⟩ := addr_at (hr 0 (by omega)).1
      refine ⟨b, off, rfl, hbb, fun k hk => ?_⟩
      have := (hr k (by omega)).1
      by_cases h1 : k = 0
      · subst h1; simpa [Addr.add] using this
      · simpa [Addr.add, h1] using this
    · obtain ⟨_, hNc, hcm, hZ, hwf, hnil, hcell⟩ := hr i (by omega)
      refine ⟨⟨fun h0 => ?_, fun k hk => ?_, hNc, hcm⟩, fun hA => ?_, ?_⟩
      · cases hA : A i with
        | none => have := hnil hA; omega
        | some a' =>
          have hc := (hcell a' hA).2
          obtain ⟨b, off, rfl, hbb⟩ := addr_at (hc 0 (by omega))
          refine ⟨b, off, rfl, hbb, fun k hk => ?_⟩
          have := hc k (by omega)
          by_cases h1 : k = 0
          · subst h1; simpa [Addr.add] using this
          · simpa [Addr.add, h1] using this
      · have hw := hwf ((Z i)[k]'(by omega)) (List.getElem_mem _)
        have := bounds_u8 hw
        simp only [List.getD_eq_getElem?_getD, List.getElem?_eq_getElem (show k < (Z i).length by omega), Option.getD_some]
        omega
      · have := hnil hA
        omega
      · cases hA : A i with
        | none => have := hnil hA; omega
        | some a' =>
          have hin : DataW.slice (lits (H := H) .u8 ((Z i).take (N i))) (lits .u8 ((Z i).drop (N i))) ∈ (List.range m).map fun r => Go.Deep.intRow (H := H) .u8 (A r) (N r) (Z r) :=
            List.mem_map.2 ⟨i, List.mem_range.2 hi, by simp only [Go.Deep.intRow, hA]⟩
          have h2 := hsz _ _ _ _ hx.1 hin
          have h3 : (lits (H := H) .u8 ((Z i).take (N i))).length = N i := by simp [lits]; omega
          rw [hb, h3] at h2
          unfold reachBytes at h2
          omega
end
end Go.Proofs.Ytbjojpcgigoenaa
