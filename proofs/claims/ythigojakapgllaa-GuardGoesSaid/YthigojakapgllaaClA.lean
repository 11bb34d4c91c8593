/- Contracts of package clock's and the reference's small functions: rounding down, whether a turn may be, means of one and two. No condition but bounds. -/
import Derived.Test.YthigojakapgllaaInts
import Derived.Test.YthigojakapgllaaClMath
import Derived.IntWalk
namespace Go.Proofs.Ythigojakapgllaa
open Go.RowKit

theorem ret_int {k : IntKind} {a b : Int} (h : a = b) : Ending.returned (.int k a) = .returned (.int k b) := by rw [h]
theorem ret_bool {a b : Bool} (h : a = b) : Ending.returned (.bool a) = .returned (.bool b) := by rw [h]
/-- Numbers that may be. -/
def small (l : List Int) : Prop := ∀ x ∈ l, -1099511627776 ≤ x ∧ x ≤ 1099511627776
theorem small.getD {l : List Int} (h : small l) (k : Nat) : -1099511627776 ≤ l.getD k 0 ∧ l.getD k 0 ≤ 1099511627776 := by
  by_cases hk : k < l.length
  · rw [List.getD_eq_getElem?_getD, List.getElem?_eq_getElem hk, Option.getD_some]
    exact h _ (List.getElem_mem _)
  · rw [List.getD_eq_getElem?_getD, List.getElem?_eq_none (by omega)]
    exact ⟨by decide, by decide⟩
theorem SeesI.cell {w : World} {B : Nat} {A : Option Addr} {n c : Nat} {l : List Int} (h : SeesI w B (.slice A n c) l) (k : Nat) (hk : k < l.length) : ∃ b off, A = some ⟨b, off, none⟩ ∧ b < B ∧ w.cell? ⟨b, off + k, none⟩ = some (.int .i64 (l.getD k 0)) := by
  obtain ⟨A', c', e, -, -, h3, -⟩ := h.at_
  simp only [Value.slice.injEq] at e
  obtain ⟨rfl, rfl, rfl⟩ := e
  obtain ⟨b, off, hA, hb, hc⟩ := h3 (by omega)
  exact ⟨b, off, hA, hb, hc k hk⟩

/-- Whether a turn may be. -/
def wiB (m n : Int) : Bool := decide (-m ≤ n ∧ n ≤ m)
set_option maxHeartbeats 1000000 in
theorem reaches_cl (m n : Int) (w : World) (h : 0 ≤ m ∧ m ≤ 9223372036854775807) :
    Calls Try.prog 54 #[.int .i64 m, .int .i64 n] w fun e w' => e = .returned (.bool (wiB m n)) ∧ w' = w := by
  obtain ⟨h1, h2⟩ := h
  go_enter Try.func54, Try.ntmps54
  go_wp2
  · rename_i h
    go_ret
    exact ⟨ret_bool (by unfold wiB; simp [h]), rfl⟩
  · rename_i h
    go_ret
    exact ⟨ret_bool (by unfold wiB; simp; omega), rfl⟩
set_option maxHeartbeats 1000000 in
theorem less_cm (a b : Int) (w : World) :
    Calls Try.prog 69 #[.int .i64 a, .int .i64 b] w fun e w' => e = .returned (.bool (decide (a < b))) ∧ w' = w := by
  go_enter Try.func69, Try.ntmps69
  go_wp2
  go_ret
  exact ⟨rfl, rfl⟩
set_option maxRecDepth 100000 in
set_option maxHeartbeats 1000000 in
theorem len64_bt (x : Int) (w : World) (h : 0 ≤ x ∧ x < 256) :
    Calls Try.prog 73 #[.int .u64 x] w fun e w' => ∃ n : Int, e = .returned (.int .i64 n) ∧ w' = w := by
  obtain ⟨h1, h2⟩ := h
  have d1 : decide (4294967296 ≤ x) = false := by simp; omega
  go_enter Try.func73, Try.ntmps73
  go_wp2
  go_ret
  exact ⟨_, rfl, rfl⟩
set_option maxRecDepth 100000 in
set_option maxHeartbeats 1000000 in
theorem len_bt (x : Int) (w : World) (h : 0 ≤ x ∧ x < 256) :
    Calls Try.prog 62 #[.int .u64 x] w fun e w' => ∃ n : Int, e = .returned (.int .i64 n) ∧ w' = w := by
  go_enter Try.func62, Try.ntmps62
  go_wp2_with (go_at_call 73; refine (len64_bt x _ h).mono ?_; rintro e w' ⟨n, rfl, rfl⟩)
  go_ret
  exact ⟨_, rfl, rfl⟩
end Go.Proofs.Ythigojakapgllaa
