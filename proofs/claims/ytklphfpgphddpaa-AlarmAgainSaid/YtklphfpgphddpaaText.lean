/- Bytes as a string, none let in; what the call owns, nil told. -/
import Derived.Test.YtklphfpgphddpaaKit
import Derived.Laws.BytesString
import Derived.Laws.Cells
namespace Go.Proofs.Ytklphfpgphddpaa
open Go.RowKit

theorem Owns.formN {w : World} {B n : Nat} {e : TypeId} {v : Value} {V : Nat → Value} (h : Owns w B e v n V) : ∃ A c, v = .slice A n c ∧ n ≤ c ∧ c ≤ maxLen ∧ Sees w w.heap.size A n V ∧ (A = none → n = 0 ∧ c = 0) := by
  obtain ⟨A, c, rfl, h1, h2, h3⟩ := Owns.form h
  refine ⟨A, c, rfl, h1, h2, h3, fun hA => ?_⟩
  subst hA
  rcases h.2 with ⟨h4, _⟩ | ⟨g, cap, cur, h4, _⟩
  · simp only [Value.slice.injEq] at h4
    exact ⟨h4.2.1, h4.2.2⟩
  · simp at h4

/-- Bytes as a string's bytes. -/
def textOf (z : Nat → Int) (n : Nat) : ByteArray := ((List.range n).map z).foldl (fun r n => r.push (UInt8.ofNat n.toNat)) ByteArray.empty
theorem textOf_congr {z z' : Nat → Int} {n : Nat} (h : ∀ k, k < n → z k = z' k) : textOf z n = textOf z' n := by
  unfold textOf
  rw [List.map_congr_left fun k hk => h k (List.mem_range.1 hk)]
theorem run_text {w : World} {B n c : Nat} {A : Option Addr} {z : Nat → Int} (h : Sees w B A n fun k => .int .u8 (z k)) (hnil : A = none → n = 0 ∧ c = 0) :
    (convert 24 9 (.slice A n c)).run Try.prog w = .ok (.string (textOf z n)) w := by
  cases A with
  | none =>
    obtain ⟨rfl, rfl⟩ := hnil rfl
    rw [run_convert_bytes_string w _ _ 5 _ _ _ Try.underlying24 Try.underlying5 Try.underlying9]
    rfl
  | some ad =>
    rw [run_convert_bytes_string w _ _ 5 _ _ _ Try.underlying24 Try.underlying5 Try.underlying9]
    refine run_bytesToString w _ _ _ ((List.range n).map z) ?_
    rw [run_loadCells w ad n (fun k => .int .u8 (z k)) (fun j hj => ?_)]
    · rw [List.map_map]; rfl
    · obtain ⟨b, off, he, -, hc⟩ := h (by omega)
      simp only [Option.some.injEq] at he
      subst he
      have := hc j hj
      by_cases h0 : j = 0
      · subst h0; simpa [Addr.add] using this
      · simpa [Addr.add, h0] using this
theorem run_text_later {w : World} {B n c : Nat} {A : Option Addr} {z : Nat → Int} (h : Sees w B A n fun k => .int .u8 (z k)) (hnil : A = none → n = 0 ∧ c = 0) :
    (convert 24 9 (.slice A n c)).run Try.prog w.drew = .ok (.string (textOf z n)) w.drew := run_text (w := w.drew) h hnil
end Go.Proofs.Ytklphfpgphddpaa
