/- The last four of a list. No condition. -/
import Derived.Test.YtiaidachigiajaaClE
namespace Go.Proofs.Ytiaidachigiajaa
open Go.RowKit

def last4 (l : List Int) : List Int := l.drop (l.length - 4)
theorem last4_keep (l : List Int) (x : Int) : keep4 (last4 l) x = last4 (l ++ [x]) := by
  unfold keep4 last4
  simp only [List.length_drop, List.length_append, List.length_singleton]
  by_cases h : 4 ≤ l.length
  · rw [if_pos (by omega), List.drop_drop, List.drop_append_of_le_length (by omega)]
    congr 2; omega
  · rw [if_neg (by omega), show l.length - 4 = 0 by omega, show l.length + 1 - 4 = 0 by omega]
    rfl
theorem last4_length (l : List Int) (h : 4 ≤ l.length) : (last4 l).length = 4 := by unfold last4; simp; omega
theorem last4_small {l : List Int} (h : small l) : small (last4 l) := fun x hx => h x (List.mem_of_mem_drop hx)
theorem take_snoc' (l : List Int) (k : Nat) (h : k < l.length) : l.take (k + 1) = l.take k ++ [l.getD k 0] := by
  rw [List.take_succ_eq_append_getElem h, List.getD_eq_getElem?_getD, List.getElem?_eq_getElem h]
  rfl
theorem small.snoc {l : List Int} {x : Int} (h : small l) (hx : -1099511627776 ≤ x ∧ x ≤ 1099511627776) : small (l ++ [x]) := fun y hy => by
  rcases List.mem_append.1 hy with hy | hy
  · exact h y hy
  · simp at hy; subst hy; exact hx
end Go.Proofs.Ytiaidachigiajaa
