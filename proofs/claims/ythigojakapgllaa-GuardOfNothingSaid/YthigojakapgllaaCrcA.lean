/- The contract of crc.step: a byte more. For a sum of fifteen digits and a byte. -/
import Derived.Test.YthigojakapgllaaKit
import Derived.Test.YthigojakapgllaaCrcMath
namespace Go.Proofs.Ythigojakapgllaa
open Go.RowKit

/-- The digit that falls out, xored with the bit. -/
theorem top_of (n c r : Nat) (hn : n < 32768) :
    bits BinOp.xor IntKind.i64 ((n : Int) / 16384) (bits BinOp.and IntKind.i64 ((c : Int) / 2 ^ r) 1) = if (n.testBit 14 != c.testBit r) then 1 else 0 := by
  have e1 : ((n : Int) / 16384) = ((n / 16384 : Nat) : Int) := by omega
  have e2 : bits BinOp.and IntKind.i64 ((c : Int) / 2 ^ r) 1 = ((c / 2 ^ r % 2 : Nat) : Int) := by
    have e : ((c : Int) / 2 ^ r) = ((c / 2 ^ r : Nat) : Int) := by
      rw [Int.natCast_ediv, Int.natCast_pow]; rfl
    rw [e]
    have hle : c / 2 ^ r ≤ c := Nat.div_le_self _ _
    show IntKind.i64.wrap ((BitVec.ofInt 64 ((c / 2 ^ r : Nat) : Int) &&& BitVec.ofInt 64 1).toNat : Int) = _
    rw [BitVec.toNat_and, show (BitVec.ofInt 64 1).toNat = 2 ^ 1 - 1 by decide, Nat.and_two_pow_sub_one_eq_mod, BitVec.toNat_ofInt, IntKind.wrap_i64]
    omega
  have h2 : c / 2 ^ r % 2 < 2 := Nat.mod_lt _ (by omega)
  rw [e1, e2, Cr.xor_small (by omega) (by omega), Nat.testBit_eq_decide_div_mod_eq, Nat.testBit_eq_decide_div_mod_eq]
  have h1 : n / 16384 < 2 := by omega
  have h3 : n / 2 ^ 14 % 2 = n / 16384 := by omega
  rw [h3]
  generalize n / 16384 = x at *
  generalize c / 2 ^ r % 2 = y at *
  have : x = 0 ∨ x = 1 := by omega
  have : y = 0 ∨ y = 1 := by omega
  rcases ‹x = 0 ∨ x = 1› with rfl | rfl <;> rcases ‹y = 0 ∨ y = 1› with rfl | rfl <;> decide
/-- The rest, times two. -/
theorem dbl_of (n : Nat) : bits BinOp.and IntKind.i64 ((n : Int) * 2) 32767 = ((2 * n % 32768 : Nat) : Int) := by
  rw [Cr.and_sd]
  unfold Cr.sd
  omega
theorem bit1_on {n : Nat} {b : Bool} (h : (n.testBit 14 != b) = true) : bits BinOp.xor IntKind.i64 (bits BinOp.and IntKind.i64 ((n : Int) * 2) 32767) 17817 = ((Cr.bit1 n b : Nat) : Int) := by
  rw [dbl_of n, Cr.bit1, if_pos h]
  exact Cr.xor_small (n := 17817) (by omega) (by omega)
theorem bit1_off {n : Nat} {b : Bool} (h : (n.testBit 14 != b) = false) : bits BinOp.and IntKind.i64 ((n : Int) * 2) 32767 = ((Cr.bit1 n b : Nat) : Int) := by
  rw [dbl_of n, Cr.bit1, if_neg (by rw [h]; decide)]

theorem step_any (n c : Nat) (w : World) (hn : n < 32768) :
    Calls Try.prog 56 #[.int .i64 n, .int .i64 c] w fun e w' => e = .returned (.int .i64 (Cr.byte1 n c : Nat)) ∧ w = w' := by
  go_enter Try.func56, Try.ntmps56
  go_wp2
  go_loop [0, 5, 6] (fun s i _ => ∃ j r : Nat, s = .int .i64 (Cr.byteTo n c j : Nat) ∧ ((r < 8 ∧ i = .int .i64 r ∧ j + r = 7) ∨ (r = 8 ∧ i = .int .i64 (-1) ∧ j = 8))) (fun _ i _ => ((intOf i) + 1).toNat)
  case atStart => exact ⟨0, 7, rfl, .inl ⟨by omega, rfl, rfl⟩⟩
  case round =>
    obtain ⟨j, r, rfl, hr⟩ := hrel
    rcases hr with ⟨hr8, rfl, hjr⟩ | ⟨rfl, rfl, rfl⟩
    · have hm := Cr.byteTo_lt hn c j
      have hj1 : j + r ≤ 7 := by omega
      have hj2 : 7 ≤ j + r := by omega
      have ht := top_of (Cr.byteTo n c j) c r hm
      have HS := Lib.hid (show Cr.byteTo n c (j + 1) = Cr.bit1 (Cr.byteTo n c j) (c.testBit r) by rw [Cr.byteTo, show 7 - j = r by omega])
      clear hjr
      have H1 := fun h => Lib.hid (bit1_on (n := Cr.byteTo n c j) (b := c.testBit r) h)
      have H2 := fun h => Lib.hid (bit1_off (n := Cr.byteTo n c j) (b := c.testBit r) h)
      have hbb : ((Cr.byteTo n c j).testBit 14 != c.testBit r) = true ∨ ((Cr.byteTo n c j).testBit 14 != c.testBit r) = false := by cases ((Cr.byteTo n c j).testBit 14 != c.testBit r) <;> simp
      rcases hbb with hb | hb
      case' inl =>
        have HV := Lib.hid (HS.out ▸ (H1 hb).out : _ = ((Cr.byteTo n c (j + 1) : Nat) : Int))
        rw [hb, if_pos rfl] at ht
      case' inr =>
        have HV := Lib.hid (HS.out ▸ (H2 hb).out : _ = ((Cr.byteTo n c (j + 1) : Nat) : Int))
        rw [hb, if_neg (by decide)] at ht
      all_goals
        clear H1 H2 HS hb
        generalize Cr.byteTo n c j = m at *
        rcases Nat.eq_zero_or_pos r with h0 | h0
        case' inl =>
          subst h0
          rw [Int.pow_zero, Int.ediv_one] at ht
        case' inr => obtain ⟨r, rfl⟩ : ∃ r', r = r' + 1 := ⟨r - 1, by omega⟩
        all_goals
          go_wp2
          go_round
          case rel => first | exact ⟨j + 1, r, by rw [HV.out], .inl ⟨by omega, by go_num, by omega⟩⟩ | exact ⟨j + 1, 8, by rw [HV.out], .inr ⟨rfl, rfl, by omega⟩⟩
          case measure => simp [intOf]; try omega
    · go_wp2
      go_ret
      exact ⟨rfl, rfl⟩
end Go.Proofs.Ythigojakapgllaa
