/- Texts CrcMath in one. For what each says in front of its theorems. -/
import Derived.Laws.BitsLemmas
import Derived.Laws.BitsAllLaws
import Derived.Test.YtfakibajipmkjaaGreatNB1
/-! ### CrcMath -/
namespace Go.Proofs.YtfakibajipmkjaaGreat
namespace Cr

/-- One bit more. -/
def bit1 (n : Nat) (b : Bool) : Nat := if (n.testBit 14 != b) then (2 * n % 32768) ^^^ 17817 else 2 * n % 32768

theorem bit1_lt (n : Nat) (b : Bool) : bit1 n b < 32768 := by
  unfold bit1
  split
  · exact Nat.xor_lt_two_pow (n := 15) (by omega) (by omega)
  · omega

theorem dbl_xor (m n : Nat) : 2 * (m ^^^ n) % 32768 = (2 * m % 32768) ^^^ (2 * n % 32768) := by
  apply Nat.eq_of_testBit_eq
  intro i
  rw [show 32768 = 2 ^ 15 from rfl]
  simp only [Nat.testBit_xor, Nat.testBit_mod_two_pow, show ∀ x, 2 * x = 2 ^ 1 * x from fun _ => rfl, Nat.testBit_two_pow_mul]
  by_cases h1 : i < 15 <;> by_cases h2 : i ≥ 1 <;> simp [h1, h2]

theorem xlc (a b c : Nat) : a ^^^ (b ^^^ c) = b ^^^ (a ^^^ c) := by rw [← Nat.xor_assoc, Nat.xor_comm a b, Nat.xor_assoc]
theorem x0 {a b : Nat} (h : a ^^^ b = 0) : a = b := by
  have := congrArg (· ^^^ b) h
  simpa [Nat.xor_assoc] using this
theorem xself (a b : Nat) : a ^^^ (a ^^^ b) = b := by rw [← Nat.xor_assoc, Nat.xor_self, Nat.zero_xor]
theorem bit1_xor (m n : Nat) (a b : Bool) : bit1 (m ^^^ n) (a ^^ b) = bit1 m a ^^^ bit1 n b := by
  unfold bit1
  rw [dbl_xor, Nat.testBit_xor]
  cases m.testBit 14 <;> cases n.testBit 14 <;> cases a <;> cases b <;> simp [Nat.xor_comm, xlc, xself]

theorem bit1_zero {x : Nat} (hx : x < 32768) (h : bit1 x false = 0) : x = 0 := by
  unfold bit1 at h
  by_cases ht : x.testBit 14 = true
  · rw [ht] at h
    simp only [bne_iff_ne, ne_eq, Bool.true_eq_false, not_false_eq_true, if_true] at h
    have : 2 * x % 32768 = 17817 := x0 h
    omega
  · simp only [Bool.not_eq_true] at ht
    rw [ht] at h
    simp at h
    have h2 : x / 2 ^ 14 % 2 ≠ 1 := by
      intro e
      rw [Nat.testBit_eq_decide_div_mod_eq] at ht
      simp [e] at ht
    omega

theorem xor_lt {m n : Nat} (hm : m < 32768) (hn : n < 32768) : m ^^^ n < 32768 := Nat.xor_lt_two_pow (n := 15) hm hn

theorem bit1_inj {m n : Nat} (b : Bool) (hm : m < 32768) (hn : n < 32768) (h : bit1 m b = bit1 n b) : m = n := by
  have := bit1_xor m n b b
  rw [h, Nat.xor_self, Bool.xor_self] at this
  exact x0 (bit1_zero (xor_lt hm hn) this)

/-- So many bits of a byte, the highest first. -/
def byteTo (n c : Nat) : Nat → Nat
  | 0 => n
  | j + 1 => bit1 (byteTo n c j) (c.testBit (7 - j))
def byte1 (n c : Nat) : Nat := byteTo n c 8

theorem byteTo_lt {n : Nat} (h : n < 32768) (c j : Nat) : byteTo n c j < 32768 := by
  cases j with
  | zero => exact h
  | succ j => exact bit1_lt _ _
theorem byte1_lt (n c : Nat) : byte1 n c < 32768 := bit1_lt _ _
theorem byteTo_xor (m n a b j : Nat) : byteTo (m ^^^ n) (a ^^^ b) j = byteTo m a j ^^^ byteTo n b j := by
  induction j with
  | zero => rfl
  | succ j ih => simp only [byteTo]; rw [ih, Nat.testBit_xor, bit1_xor]
theorem byteTo_inj {m n : Nat} (c j : Nat) (hm : m < 32768) (hn : n < 32768) (h : byteTo m c j = byteTo n c j) : m = n := by
  induction j with
  | zero => exact h
  | succ j ih => exact ih (bit1_inj _ (byteTo_lt hm c j) (byteTo_lt hn c j) h)
theorem byte1_xor (m n a b : Nat) : byte1 (m ^^^ n) (a ^^^ b) = byte1 m a ^^^ byte1 n b := byteTo_xor m n a b 8
theorem byte1_inj {m n : Nat} (c : Nat) (hm : m < 32768) (hn : n < 32768) (h : byte1 m c = byte1 n c) : m = n := byteTo_inj c 8 hm hn h
theorem byte1_nil : ∀ c : Fin 256, byte1 0 c.val = 0 → c.val = 0 := by decide +kernel
theorem byte1_byte {n a b : Nat} (ha : a < 256) (hb : b < 256) (h : byte1 n a = byte1 n b) : a = b := by
  have := byte1_xor n n a b
  rw [h, Nat.xor_self, Nat.xor_self] at this
  exact x0 (byte1_nil ⟨a ^^^ b, Nat.xor_lt_two_pow (n := 8) ha hb⟩ this)

/-- So many bytes. -/
def sumTo (n : Nat) (z : Nat → Int) : Nat → Nat
  | 0 => n
  | k + 1 => byte1 (sumTo n z k) (z k).toNat
theorem sumTo_lt {n : Nat} (h : n < 32768) (z : Nat → Int) (k : Nat) : sumTo n z k < 32768 := by
  cases k with
  | zero => exact h
  | succ k => exact byte1_lt _ _
theorem sumTo_alike (n : Nat) {z y : Nat → Int} (k : Nat) (h : ∀ j, j < k → z j = y j) : sumTo n z k = sumTo n y k := by
  induction k with
  | zero => rfl
  | succ k ih => simp only [sumTo]; rw [ih (fun j hj => h j (by omega)), h k (by omega)]
theorem sumTo_inj {m n : Nat} (z : Nat → Int) (k : Nat) (hm : m < 32768) (hn : n < 32768) (h : sumTo m z k = sumTo n z k) : m = n := by
  induction k with
  | zero => exact h
  | succ k ih => exact ih (byte1_inj _ (sumTo_lt hm z k) (sumTo_lt hn z k) h)
theorem sumTo_more (n : Nat) (z : Nat → Int) (a b : Nat) : sumTo n z (a + b) = sumTo (sumTo n z a) (fun k => z (a + k)) b := by
  induction b with
  | zero => rfl
  | succ b ih => show byte1 (sumTo n z (a + b)) (z (a + b)).toNat = _; rw [ih]; rfl
/-- Behind one byte that is another no sum is the same again. -/
theorem sumTo_turned {n : Nat} (hn : n < 32768) {z y : Nat → Int} (at_ k : Nat) (hk : at_ < k) (hz : 0 ≤ z at_ ∧ z at_ < 256) (hy : 0 ≤ y at_ ∧ y at_ < 256) (hd : z at_ ≠ y at_) (ho : ∀ j, j ≠ at_ → z j = y j) :
    sumTo n z k ≠ sumTo n y k := by
  intro h
  obtain ⟨b, rfl⟩ : ∃ b, k = (at_ + 1) + b := ⟨k - (at_ + 1), by omega⟩
  rw [sumTo_more n z (at_ + 1) b, sumTo_more n y (at_ + 1) b, sumTo_alike _ (z := fun k => z (at_ + 1 + k)) (y := fun k => y (at_ + 1 + k)) b (fun j _ => ho _ (by omega))] at h
  have h2 := sumTo_inj _ _ (sumTo_lt hn _ _) (sumTo_lt hn _ _) h
  simp only [sumTo] at h2
  rw [sumTo_alike n at_ (fun j hj => ho j (by omega))] at h2
  have := byte1_byte (by omega) (by omega) h2
  omega
theorem sumTo_xor (m n : Nat) (x y z : Nat → Int) (k : Nat) (h : ∀ j, j < k → (x j).toNat = (y j).toNat ^^^ (z j).toNat) :
    sumTo (m ^^^ n) x k = sumTo m y k ^^^ sumTo n z k := by
  induction k with
  | zero => rfl
  | succ k ih => simp only [sumTo]; rw [ih (fun j hj => h j (by omega)), h k (by omega), byte1_xor]
theorem sumTo_nought (z : Nat → Int) (k : Nat) (h : ∀ j, j < k → z j = 0) : sumTo 0 z k = 0 := by
  induction k with
  | zero => rfl
  | succ k ih => simp only [sumTo]; rw [ih (fun j hj => h j (by omega)), h k (by omega)]; decide

/-- So many rows. -/
def rowsTo (n : Nat) (z : Nat → Nat → Int) (N : Nat → Nat) : Nat → Nat
  | 0 => n
  | k + 1 => sumTo (rowsTo n z N k) (z k) (N k)
theorem rowsTo_lt {n : Nat} (h : n < 32768) (z : Nat → Nat → Int) (N : Nat → Nat) (k : Nat) : rowsTo n z N k < 32768 := by
  induction k with
  | zero => exact h
  | succ k ih => exact sumTo_lt ih _ _

/-- A seed's lowest fifteen digits. -/
def sd (a : Int) : Nat := (a % 32768).toNat
theorem sd_lt (a : Int) : sd a < 32768 := by unfold sd; omega
theorem sd_of {n : Nat} (h : n < 32768) : sd (n : Int) = n := by unfold sd; omega
theorem and_sd (a : Int) : bits BinOp.and IntKind.i64 a 32767 = (sd a : Int) := by
  show IntKind.i64.wrap ((BitVec.ofInt 64 a &&& BitVec.ofInt 64 32767).toNat : Int) = _
  rw [BitVec.toNat_and, show (BitVec.ofInt 64 32767).toNat = 2 ^ 15 - 1 by decide, Nat.and_two_pow_sub_one_eq_mod, BitVec.toNat_ofInt, IntKind.wrap_i64]
  unfold sd
  omega
theorem sd_i64 (a : Int) : sd a = ((BitVec.ofInt 64 a).toNat) % 2 ^ 15 := by
  unfold sd
  rw [BitVec.toNat_ofInt]
  omega
theorem i64_toNat (x : BitVec 64) : (BitVec.ofInt 64 (IntKind.i64.wrap (x.toNat : Int))).toNat = x.toNat := by
  rw [BitVec.toNat_ofInt, IntKind.wrap_i64]
  have := x.isLt
  omega
theorem sd_xor (a b : Int) : sd (bits BinOp.xor IntKind.i64 a b) = sd a ^^^ sd b := by
  rw [sd_i64, sd_i64, sd_i64]
  show (BitVec.ofInt 64 (IntKind.i64.wrap ((BitVec.ofInt 64 a ^^^ BitVec.ofInt 64 b).toNat : Int))).toNat % 2 ^ 15 = _
  rw [i64_toNat, BitVec.toNat_xor, Nat.xor_mod_two_pow]
theorem sd_or (a b : Int) : sd (bits BinOp.or IntKind.i64 a b) = sd a ||| sd b := by
  rw [sd_i64, sd_i64, sd_i64]
  show (BitVec.ofInt 64 (IntKind.i64.wrap ((BitVec.ofInt 64 a ||| BitVec.ofInt 64 b).toNat : Int))).toNat % 2 ^ 15 = _
  rw [i64_toNat, BitVec.toNat_or, Nat.or_mod_two_pow]
theorem xor_small {m n : Nat} (hm : m < 32768) (hn : n < 32768) : bits BinOp.xor IntKind.i64 (m : Int) (n : Int) = ((m ^^^ n : Nat) : Int) := by
  have hx := xor_lt hm hn
  show IntKind.i64.wrap ((BitVec.ofInt 64 (m : Int) ^^^ BitVec.ofInt 64 (n : Int)).toNat : Int) = _
  rw [BitVec.toNat_xor, BitVec.toNat_ofInt, BitVec.toNat_ofInt, show ((m : Int) % ((2 ^ 64 : Nat) : Int)).toNat = m by omega, show ((n : Int) % ((2 ^ 64 : Nat) : Int)).toNat = n by omega, IntKind.wrap_i64]
  omega
end Cr
end Go.Proofs.YtfakibajipmkjaaGreat
