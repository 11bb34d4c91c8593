/- The contract of line.Energy over rows of small whole numbers. -/
import Derived.Test.YtpjdjabpdpoedaaLineH
namespace Go.Proofs.Ytpjdjabpdpoedaa
open Go.RowKit

/-- The sum of all squares, so far. -/
def en (a b : Nat → Int) : Nat → Int
  | 0 => 0
  | k + 1 => en a b k + (a k * a k + b k * b k)
theorem sq_le (x : Int) (h : -9 ≤ x ∧ x ≤ 9) : 0 ≤ x * x ∧ x * x ≤ 81 := by
  have h1 : (x * x).natAbs = x.natAbs * x.natAbs := Int.natAbs_mul x x
  have h2 : x.natAbs * x.natAbs ≤ 9 * 9 := Nat.mul_le_mul (by omega) (by omega)
  have h3 : 0 ≤ x * x := by
    rcases Int.le_total 0 x with h | h
    · exact Int.mul_nonneg h h
    · exact Int.mul_nonneg_of_nonpos_of_nonpos h h
  omega
theorem en_le (a b : Nat → Int) : ∀ k, (∀ j, j < k → (-9 ≤ a j ∧ a j ≤ 9) ∧ (-9 ≤ b j ∧ b j ≤ 9)) → 0 ≤ en a b k ∧ en a b k ≤ 162 * k
  | 0, _ => by simp [en]
  | k + 1, h => by
    have ih := en_le a b k fun j hj => h j (by omega)
    have e1 := sq_le (a k) (h k (by omega)).1
    have e2 := sq_le (b k) (h k (by omega)).2
    simp only [en]
    omega
theorem run_sq (w : World) (x : Int) (h : -9 ≤ x ∧ x ≤ 9) : (binOp .mul 40 (.float .f64 (floatOfInt .f64 x)) (.float .f64 (floatOfInt .f64 x))).run Try.prog w = .ok (.float .f64 (floatOfInt .f64 (x * x))) w :=
  run_float_arith w .mul _ _ _ _ _ (sq_fl x (by omega))
theorem run_add (w : World) (x y : Int) (h : x.natAbs < 2 ^ 52) (h' : y.natAbs < 2 ^ 52) : (binOp .add 40 (.float .f64 (floatOfInt .f64 x)) (.float .f64 (floatOfInt .f64 y))).run Try.prog w = .ok (.float .f64 (floatOfInt .f64 (x + y))) w :=
  run_float_arith w .add _ _ _ _ _ (add_fl x y h h')

set_option maxHeartbeats 1000000 in
theorem energy_any (A : Option Addr) (n c : Nat) (a b : Nat → Int) (w : World) (h : Sees w w.heap.size A n fun k => cx (a k) (b k)) (hab : ∀ j, j < n → (-9 ≤ a j ∧ a j ≤ 9) ∧ (-9 ≤ b j ∧ b j ≤ 9)) (hn : n ≤ 100000) :
    Calls Try.prog 17 #[.slice A n c] w fun e w' => e = .returned (.float .f64 (floatOfInt .f64 (en a b n))) ∧ w = w' := by
  go_enter Try.func17, Try.ntmps17
  go_wp2
  go_loop [3, 8] (fun x i => ∃ k : Nat, k ≤ n ∧ i = .int .i64 k ∧ x = .float .f64 (floatOfInt .f64 (en a b k))) (fun _ i => n - (intOf i).toNat)
  case atStart => exact ⟨0, by omega, rfl, by rw [show en a b 0 = 0 from rfl, show floatOfInt .f64 0 = 0 from fl_zero]⟩
  case round =>
    obtain ⟨k, hk, rfl, rfl⟩ := hrel
    by_cases hlt : k < n
    · obtain ⟨b0, off, rfl, -, hcell⟩ := h (by omega)
      have hx : w.cell? ⟨b0, off + k, none⟩ = some (.complex .f64 (floatOfInt .f64 (a k)) (floatOfInt .f64 (b k))) := hcell k hlt
      have e0 := en_le a b k fun j hj => hab j (by omega)
      have s1 := sq_le (a k) (hab k hlt).1
      have s2 := sq_le (b k) (hab k hlt).2
      have m1 := run_sq w (a k) (hab k hlt).1
      have m2 := run_sq w (b k) (hab k hlt).2
      have m3 := run_add w (a k * a k) (b k * b k) (by omega) (by omega)
      have m4 := run_add w (en a b k) (a k * a k + b k * b k) (by omega) (by omega)
      have HE := Lib.hid (show en a b (k + 1) = en a b k + (a k * a k + b k * b k) from rfl)
      clear hcell e0 s1 s2
      go_wp2
      go_round
      case rel => exact ⟨k + 1, by omega, by go_num, by rw [HE.out]⟩
      case measure => simp [intOf]; omega
    · obtain rfl : k = n := by omega
      go_wp2
      go_ret
      exact ⟨rfl, rfl⟩
end Go.Proofs.Ytpjdjabpdpoedaa
