/- The contracts of both sides' Next. -/
import Derived.Test.YtpkdfdlchidmlaaTbK
namespace Go.Proofs.Ytpkdfdlchidmlaa
open Go.RowKit
open Tb (D T)

def csV (r s m : Int) : Value := .agg #[.int .i64 r, .int .i64 s, .int .i64 m]
/-- The next slot, and round. -/
def nxS (n s : Int) : Int := if s + 1 < n then s + 1 else 0
def nxR (n r s : Int) : Int := if s + 1 < n then r else if r < 65535 then r + 1 else 0

theorem mask16 (a : Int) : bits BinOp.and IntKind.i64 a 65535 = (((a % 65536).toNat : Nat) : Int) := by
  show IntKind.i64.wrap ((BitVec.ofInt 64 a &&& BitVec.ofInt 64 65535).toNat : Int) = _
  rw [BitVec.toNat_and, show (BitVec.ofInt 64 65535).toNat = 2 ^ 16 - 1 by decide, Nat.and_two_pow_sub_one_eq_mod, BitVec.toNat_ofInt, IntKind.wrap_i64]
  omega

set_option maxHeartbeats 4000000 in
theorem next_tb (A : Option Addr) (n c : Nat) (dr wi lm r s m : Int) (w : World) (hn : 1 ≤ n ∧ n ≤ 8) (hs : 0 ≤ s ∧ s < n) (hr : 0 ≤ r ∧ r ≤ 65535) :
    Calls Try.prog 23 #[.agg #[.slice A n c, .int .i64 dr, .int .i64 wi, .int .i64 lm], csV r s m] w fun e w' => e = .returned (csV (nxR n r s) (nxS n s) m) ∧ Below w.heap.size w w' := by
  unfold csV nxR nxS
  have hcase : s + 1 < n ∨ (¬ s + 1 < n ∧ r < 65535) ∨ (¬ s + 1 < n ∧ ¬ r < 65535) := by omega
  rcases hcase with c1 | ⟨c1, c2⟩ | ⟨c1, c2⟩
  · rw [if_pos c1, if_pos c1]
    have q1 : s < (n : Int) - 1 := by omega
    go_enter Try.func23, Try.ntmps23
    go_wp2
    refine bodyPost_ret (v := .agg #[.int .i64 r, .int .i64 (s + 1), .int .i64 m]) ?_ rfl ⟨rfl, ?_⟩
    · rw [results_cell rfl]
      go_simp
    · (repeat' (first | (with_reducible exact Below.refl _ _) | (with_reducible refine Below.setCell ?_ ?_ _) | (with_reducible refine Below.alloc ?_ ?_ _) | exact Nat.le_refl _ | (simp; done) | (simp; omega)))
  · rw [if_neg c1, if_neg c1, if_pos c2]
    have q1 : ¬ s < (n : Int) - 1 := by omega
    go_enter Try.func23, Try.ntmps23
    go_wp2
    refine bodyPost_ret (v := .agg #[.int .i64 (r + 1), .int .i64 0, .int .i64 m]) ?_ rfl ⟨rfl, ?_⟩
    · rw [results_cell rfl]
      go_simp
    · (repeat' (first | (with_reducible exact Below.refl _ _) | (with_reducible refine Below.setCell ?_ ?_ _) | (with_reducible refine Below.alloc ?_ ?_ _) | exact Nat.le_refl _ | (simp; done) | (simp; omega)))
  · rw [if_neg c1, if_neg c1, if_neg c2]
    have q1 : ¬ s < (n : Int) - 1 := by omega
    go_enter Try.func23, Try.ntmps23
    go_wp2
    refine bodyPost_ret (v := .agg #[.int .i64 0, .int .i64 0, .int .i64 m]) ?_ rfl ⟨rfl, ?_⟩
    · rw [results_cell rfl]
      go_simp
    · (repeat' (first | (with_reducible exact Below.refl _ _) | (with_reducible refine Below.setCell ?_ ?_ _) | (with_reducible refine Below.alloc ?_ ?_ _) | exact Nat.le_refl _ | (simp; done) | (simp; omega)))
set_option maxHeartbeats 4000000 in
theorem next_rf (A : Option Addr) (n c : Nat) (dr wi lm r s m : Int) (w : World) (hn : 1 ≤ n ∧ n ≤ 8) (hs : 0 ≤ s ∧ s < n) (hr : 0 ≤ r ∧ r ≤ 65535) :
    Calls Try.prog 24 #[.agg #[.slice A n c, .int .i64 dr, .int .i64 wi, .int .i64 lm], csV r s m] w fun e w' => e = .returned (csV (nxR n r s) (nxS n s) m) ∧ Below w.heap.size w w' := by
  unfold csV nxR nxS
  by_cases c1 : s + 1 < n
  · rw [if_pos c1, if_pos c1]
    have q1 : ¬ (n : Int) ≤ s + 1 := by omega
    go_enter Try.func24, Try.ntmps24
    go_wp2
    refine bodyPost_ret (v := .agg #[.int .i64 r, .int .i64 (s + 1), .int .i64 m]) ?_ rfl ⟨rfl, ?_⟩
    · rw [results_cell rfl]
      go_simp
    · (repeat' (first | (with_reducible exact Below.refl _ _) | (with_reducible refine Below.setCell ?_ ?_ _) | (with_reducible refine Below.alloc ?_ ?_ _) | exact Nat.le_refl _ | (simp; done) | (simp; omega)))
  · rw [if_neg c1, if_neg c1]
    have q1 : (n : Int) ≤ s + 1 := by omega
    have hR : (if r < 65535 then r + 1 else 0) = bits BinOp.and IntKind.i64 (r + 1) 65535 := by rw [mask16]; split <;> omega
    rw [hR]
    clear hR
    go_enter Try.func24, Try.ntmps24
    go_wp2
    refine bodyPost_ret (v := .agg #[.int .i64 (bits BinOp.and IntKind.i64 (r + 1) 65535), .int .i64 0, .int .i64 m]) ?_ rfl ⟨rfl, ?_⟩
    · rw [results_cell rfl]
      go_simp
    · (repeat' (first | (with_reducible exact Below.refl _ _) | (with_reducible refine Below.setCell ?_ ?_ _) | (with_reducible refine Below.alloc ?_ ?_ _) | exact Nat.le_refl _ | (simp; done) | (simp; omega)))
end Go.Proofs.Ytpkdfdlchidmlaa
