/- Floats that stand for whole numbers of less than 53 binary digits: their sums, differences, squares and comparisons are those of the whole numbers. -/
import Derived.Laws.FloatArith
import Derived.Laws.ComplexArith
namespace Go.Proofs.Ytbjojpcgigoenaa
open Ieee

theorem pow52 : (2 : Nat) ^ 52 = 4503599627370496 := by decide
theorem dbl_last : double.leastPlace = -1074 := by decide
theorem dbl_bin : double.binade = 4503599627370496 := by decide
theorem dbl_inf : double.infRung = 2047 * 4503599627370496 := by decide
theorem dbl_sw : double.signWeight = 2048 * 4503599627370496 := by decide
theorem dbl_fb : double.fractionBits = 52 := rfl

/-- The rung of a whole number m that is not nought. -/
def rungOf (m : Nat) : Nat := (m.log2 + 1022) * 4503599627370496 + m * 2 ^ (52 - m.log2)

theorem log2_mul_pow (m j : Nat) (hm : m ≠ 0) : (m * 2 ^ j).log2 = m.log2 + j := by
  have hp := Nat.two_pow_pos j
  refine (Nat.log2_eq_iff (Nat.mul_ne_zero hm (Nat.ne_of_gt hp))).2 ⟨?_, ?_⟩
  · rw [Nat.pow_add]; exact Nat.mul_le_mul_right _ (Nat.log2_self_le hm)
  · rw [show m.log2 + j + 1 = m.log2 + 1 + j by omega, Nat.pow_add]
    exact Nat.mul_lt_mul_of_pos_right Nat.lt_log2_self hp

theorem mant (m : Nat) (hm : m ≠ 0) (hlt : m < 2 ^ 53) : m.log2 ≤ 52 ∧ 4503599627370496 ≤ m * 2 ^ (52 - m.log2) ∧ m * 2 ^ (52 - m.log2) < 2 * 4503599627370496 := by
  have hl : m.log2 < 53 := (Nat.log2_lt hm).2 hlt
  have h1 : 2 ^ m.log2 ≤ m := Nat.log2_self_le hm
  have h2 : m < 2 ^ (m.log2 + 1) := Nat.lt_log2_self
  have e : 2 ^ m.log2 * 2 ^ (52 - m.log2) = 4503599627370496 := by rw [← Nat.pow_add, show m.log2 + (52 - m.log2) = 52 by omega, pow52]
  have p := Nat.two_pow_pos (52 - m.log2)
  refine ⟨by omega, ?_, ?_⟩
  · rw [← e]; exact Nat.mul_le_mul_right _ h1
  · have := Nat.mul_lt_mul_of_pos_right h2 p
    rw [Nat.pow_succ, Nat.mul_comm (2 ^ m.log2) 2, Nat.mul_assoc, e] at this
    exact this

/-- However a whole number is laid out, its word is one. -/
theorem nearest_of (s : Bool) (m j : Nat) (hm : m ≠ 0) (hlt : m < 2 ^ 53) : double.nearest s (m * 2 ^ j) (-(j : Int)) = double.word s (rungOf m) := by
  obtain ⟨hl, g1, g2⟩ := mant m hm hlt
  have hne : m * 2 ^ j ≠ 0 := Nat.mul_ne_zero hm (Nat.ne_of_gt (Nat.two_pow_pos j))
  unfold Format.nearest
  rw [if_neg hne, log2_mul_pow m j hm, dbl_last, dbl_bin, dbl_inf, dbl_fb]
  have hlast : max (-(j : Int) + ((m.log2 + j : Nat) : Int) - (52 : Nat)) (-1074) = (m.log2 : Int) - 52 := by omega
  rw [hlast]
  have hk : Toward.even.cut s ((m * 2 ^ j) <<< (-(j : Int) - ((m.log2 : Int) - 52)).toNat) ((m.log2 : Int) - 52 - -(j : Int)).toNat = m * 2 ^ (52 - m.log2) := by
    by_cases hj : j ≤ 52 - m.log2
    · rw [show ((m.log2 : Int) - 52 - -(j : Int)).toNat = 0 by omega, show (-(j : Int) - ((m.log2 : Int) - 52)).toNat = 52 - m.log2 - j by omega]
      rw [Nat.shiftLeft_eq, Nat.mul_assoc, ← Nat.pow_add, show j + (52 - m.log2 - j) = 52 - m.log2 by omega]
      simp [Toward.cut, Nat.mod_one]
    · rw [show (-(j : Int) - ((m.log2 : Int) - 52)).toNat = 0 by omega, show ((m.log2 : Int) - 52 - -(j : Int)).toNat = j - (52 - m.log2) by omega]
      rw [Nat.shiftLeft_zero]
      unfold Toward.cut
      rw [log2_mul_pow m j hm, show min (j - (52 - m.log2)) (m.log2 + j + 2) = j - (52 - m.log2) by omega, Nat.shiftLeft_eq, Nat.one_mul]
      have hs : m * 2 ^ j = m * 2 ^ (52 - m.log2) * 2 ^ (j - (52 - m.log2)) := by rw [Nat.mul_assoc, ← Nat.pow_add, show 52 - m.log2 + (j - (52 - m.log2)) = j by omega]
      have hp := Nat.two_pow_pos (j - (52 - m.log2))
      rw [hs]
      dsimp only
      rw [Nat.mul_div_cancel _ hp, Nat.mul_mod_left]
      simp
  dsimp only
  rw [hk, show ((m.log2 : Int) - 52 - -1074).toNat = m.log2 + 1022 by omega]
  rw [Nat.min_eq_left (by omega)]
  rfl

theorem rung_facts (K Q X : Nat) (h1 : K ≤ X) (h2 : X < 2 * K) (hQ : Q + 2 ≤ 2047) :
    Q * K + X < 2047 * K ∧ ¬ Q * K + X < K ∧ (Q * K + X) / K = Q + 1 ∧ (Q * K + X) % K + K = X ∧ (Q * K + X) / (2048 * K) = 0 ∧ (Q * K + X) % (2048 * K) = Q * K + X ∧
    (2048 * K + (Q * K + X)) / (2048 * K) = 1 ∧ (2048 * K + (Q * K + X)) % (2048 * K) = Q * K + X := by
  obtain ⟨Y, rfl⟩ : ∃ Y, X = K + Y := ⟨X - K, by omega⟩
  have hY : Y < K := by omega
  have e : Q * K + (K + Y) = Y + K * (Q + 1) := by rw [Nat.mul_add, Nat.mul_comm K Q]; omega
  have hm : K * (Q + 1) ≤ K * 2046 := Nat.mul_le_mul_left _ (by omega)
  have hlt : Y + K * (Q + 1) < 2048 * K := by omega
  rw [e]
  refine ⟨by omega, ?_, ?_, ?_, Nat.div_eq_of_lt hlt, Nat.mod_eq_of_lt hlt, ?_, ?_⟩
  · have : K * 1 ≤ K * (Q + 1) := Nat.mul_le_mul_left _ (by omega)
    omega
  · rw [Nat.add_mul_div_left _ _ (by omega), Nat.div_eq_of_lt hY, Nat.zero_add]
  · rw [Nat.add_mul_mod_self_left, Nat.mod_eq_of_lt hY, Nat.add_comm]
  · rw [Nat.add_div_left _ (by omega), Nat.div_eq_of_lt hlt]
  · rw [Nat.add_mod_left, Nat.mod_eq_of_lt hlt]

theorem read_word (s : Bool) (m : Nat) (hm : m ≠ 0) (hlt : m < 2 ^ 53) : double.read (double.word s (rungOf m)) = .number s (m * 2 ^ (52 - m.log2)) (-((52 - m.log2 : Nat) : Int)) := by
  obtain ⟨hl, g1, g2⟩ := mant m hm hlt
  unfold Format.read Format.word rungOf
  rw [dbl_sw, dbl_bin, dbl_inf, dbl_last]
  obtain ⟨f1, f2, f3, f4, f5, f6, f7, f8⟩ := rung_facts 4503599627370496 (m.log2 + 1022) (m * 2 ^ (52 - m.log2)) g1 g2 (by omega)
  have e : ((m.log2 + 1022 + 1 - 1 : Nat) : Int) + -1074 = -((52 - m.log2 : Nat) : Int) := by omega
  generalize (4503599627370496 : Nat) = K at *
  generalize m * 2 ^ (52 - m.log2) = X at *
  cases s
  · simp only [Bool.false_eq_true, if_false]
    rw [f5, f6, if_neg f2, if_pos f1, f3, Nat.add_comm K, f4, Int.add_comm, e]
    rfl
  · simp only [if_true]
    rw [f7, f8, if_neg f2, if_pos f1, f3, Nat.add_comm K, f4, Int.add_comm, e]
    rfl

/-- A whole number as a word. -/
abbrev fl (a : Int) : Nat := floatOfInt .f64 a

theorem fl_zero : fl 0 = 0 := by decide +kernel
theorem fl_word (a : Int) (h0 : a ≠ 0) (h : a.natAbs < 2 ^ 53) : fl a = double.word (decide (a < 0)) (rungOf a.natAbs) := by
  have := nearest_of (decide (a < 0)) a.natAbs 0 (by omega) h
  rw [Nat.pow_zero, Nat.mul_one] at this
  exact this

theorem read_fl (a : Int) (h : a.natAbs < 2 ^ 53) : ∃ d : Nat, double.read (fl a) = .number (decide (a < 0)) (a.natAbs * 2 ^ d) (-(d : Int)) := by
  by_cases h0 : a = 0
  · subst h0
    exact ⟨1074, by rw [fl_zero]; decide +kernel⟩
  · exact ⟨52 - a.natAbs.log2, by rw [fl_word a h0 h, read_word _ _ (by omega) h]⟩

theorem fl_of (s : Bool) (a : Int) (j : Nat) (h : a.natAbs < 2 ^ 53) (hs : s = decide (a < 0)) : double.nearest s (a.natAbs * 2 ^ j) (-(j : Int)) = fl a := by
  subst hs
  by_cases h0 : a = 0
  · subst h0
    rw [fl_zero]
    simp [Format.nearest, Format.word]
  · rw [nearest_of _ _ _ (by omega) h, fl_word a h0 h]

theorem signed_eq (a : Int) (d k : Nat) : signed (decide (a < 0)) (a.natAbs * 2 ^ d) k = a * 2 ^ (d + k) := by
  unfold signed
  rw [Nat.shiftLeft_eq, Nat.mul_assoc, ← Nat.pow_add]
  by_cases h : a < 0
  · simp only [h, decide_true, if_true, Int.natCast_mul, Int.natCast_pow]
    rw [show ((a.natAbs : Nat) : Int) = -a by omega]
    simp [Int.neg_mul]
  · simp only [h, decide_false, Bool.false_eq_true, if_false, Int.natCast_mul, Int.natCast_pow]
    rw [show ((a.natAbs : Nat) : Int) = a by omega]
    simp

theorem mul_pow_lt (x y : Int) (D : Nat) : (x * 2 ^ D < y * 2 ^ D) ↔ x < y := by
  have hp : (0 : Int) < 2 ^ D := Int.pow_pos (by decide)
  exact ⟨fun h => Int.lt_of_mul_lt_mul_right h (Int.le_of_lt hp), fun h => Int.mul_lt_mul_of_pos_right h hp⟩

theorem natAbs_pow (c : Int) (D : Nat) : (c * 2 ^ D).natAbs = c.natAbs * 2 ^ D := by
  rw [Int.natAbs_mul, Int.natAbs_pow]; rfl

theorem sum_write (a b c : Int) (x y : Datum) (d1 d2 : Nat) (hx : x = .number (decide (a < 0)) (a.natAbs * 2 ^ d1) (-(d1 : Int))) (hy : y = .number (decide (b < 0)) (b.natAbs * 2 ^ d2) (-(d2 : Int)))
    (hc : c = a + b) (h : c.natAbs < 2 ^ 53) : (x.sum y).map double.write = some (fl c) := by
  subst hx; subst hy
  have hbase : min (-(d1 : Int)) (-(d2 : Int)) = -((max d1 d2 : Nat) : Int) := by omega
  simp only [Datum.sum, hbase]
  rw [show (-(d1 : Int) - -((max d1 d2 : Nat) : Int)).toNat = max d1 d2 - d1 by omega, show (-(d2 : Int) - -((max d1 d2 : Nat) : Int)).toNat = max d1 d2 - d2 by omega]
  rw [signed_eq, signed_eq, show d1 + (max d1 d2 - d1) = max d1 d2 by omega, show d2 + (max d1 d2 - d2) = max d1 d2 by omega, ← Int.add_mul, ← hc]
  generalize max d1 d2 = D
  have hp : (0 : Int) < 2 ^ D := Int.pow_pos (by decide)
  simp only [Option.map_some, Format.write, natAbs_pow]
  rw [fl_of _ c D h ?_]
  by_cases h0 : c = 0
  · rw [h0]
    simp only [Int.zero_mul, if_true]
    simp
    omega
  · have h1 : ¬ c * 2 ^ D = 0 := fun e => by rcases Int.mul_eq_zero.1 e with e | e <;> omega
    rw [if_neg h1]
    have := mul_pow_lt c 0 D
    simp only [Int.zero_mul] at this
    simp [this]

theorem add_fl (a b : Int) (ha : a.natAbs < 2 ^ 52) (hb : b.natAbs < 2 ^ 52) : floatBits .add .f64 (fl a) (fl b) = some (fl (a + b)) := by
  obtain ⟨d1, e1⟩ := read_fl a (by omega)
  obtain ⟨d2, e2⟩ := read_fl b (by omega)
  exact sum_write a b (a + b) _ _ d1 d2 e1 e2 rfl (by omega)

theorem sub_zero_fl (a : Int) (ha : a.natAbs < 2 ^ 52) : floatBits .sub .f64 0 (fl a) = some (fl (-a)) := by
  obtain ⟨d2, e2⟩ := read_fl a (by omega)
  by_cases h0 : a = 0
  · subst h0
    rw [fl_zero]
    decide +kernel
  · refine sum_write 0 (-a) (-a) (double.read 0) ((double.read (fl a)).opposite) 1074 d2 (by decide +kernel) ?_ (by omega) (by omega)
    rw [e2]
    simp only [Datum.opposite, Int.natAbs_neg]
    congr 1
    rw [Bool.eq_iff_iff]
    simp
    omega

theorem sq_fl (a : Int) (ha : a.natAbs < 2 ^ 26) : floatBits .mul .f64 (fl a) (fl a) = some (fl (a * a)) := by
  obtain ⟨d, e⟩ := read_fl a (by omega)
  show ((double.read (fl a)).product (double.read (fl a))).map double.write = _
  rw [e]
  simp only [Datum.product, Option.map_some, Format.write, Bool.xor_self]
  have hn : (a * a).natAbs = a.natAbs * a.natAbs := Int.natAbs_mul a a
  have hm : a.natAbs * a.natAbs < 2 ^ 53 := by
    have := Nat.mul_lt_mul'' ha ha
    omega
  have h2 : a.natAbs * 2 ^ d * (a.natAbs * 2 ^ d) = (a * a).natAbs * 2 ^ (d + d) := by
    rw [hn, Nat.pow_add]; ac_rfl
  rw [h2, show -(d : Int) + -(d : Int) = -((d + d : Nat) : Int) by omega]
  rw [fl_of false (a * a) (d + d) (by rw [hn]; exact hm)]
  have : ¬ a * a < 0 := Int.not_lt.2 (by
    rcases Int.le_total 0 a with h | h
    · exact Int.mul_nonneg h h
    · exact Int.mul_nonneg_of_nonpos_of_nonpos h h)
  simp [this]

theorem order_fl (a b : Int) (ha : a.natAbs < 2 ^ 53) (hb : b.natAbs < 2 ^ 53) : FloatKind.f64.format.order (fl a) (fl b) = some (compare a b) := by
  obtain ⟨d1, e1⟩ := read_fl a ha
  obtain ⟨d2, e2⟩ := read_fl b hb
  show (double.read (fl a)).order (double.read (fl b)) = _
  rw [e1, e2]
  have hbase : min (-(d1 : Int)) (-(d2 : Int)) = -((max d1 d2 : Nat) : Int) := by omega
  simp only [Datum.order, hbase]
  rw [show (-(d1 : Int) - -((max d1 d2 : Nat) : Int)).toNat = max d1 d2 - d1 by omega, show (-(d2 : Int) - -((max d1 d2 : Nat) : Int)).toNat = max d1 d2 - d2 by omega]
  rw [signed_eq, signed_eq, show d1 + (max d1 d2 - d1) = max d1 d2 by omega, show d2 + (max d1 d2 - d2) = max d1 d2 by omega]
  generalize max d1 d2 = D
  congr 1
  have k1 := mul_pow_lt a b D
  have k2 := mul_pow_lt b a D
  rw [show compare (a * 2 ^ D) (b * 2 ^ D) = compareOfLessAndEq (a * 2 ^ D) (b * 2 ^ D) from rfl, show compare a b = compareOfLessAndEq a b from rfl]
  unfold compareOfLessAndEq
  by_cases h1 : a < b
  · rw [if_pos (k1.2 h1), if_pos h1]
  · rw [if_neg (fun h => h1 (k1.1 h)), if_neg h1]
    by_cases h2 : a = b
    · rw [h2]
      simp
    · have h3 : ¬ a * 2 ^ D = b * 2 ^ D := fun e => by
        have h4 : b < a := by omega
        have := k2.2 h4
        omega
      rw [if_neg h3, if_neg h2]

theorem order_eq (a b : Int) (ha : a.natAbs < 2 ^ 53) (hb : b.natAbs < 2 ^ 53) : (FloatKind.f64.format.order (fl a) (fl b) == some .eq) = decide (a = b) := by
  rw [order_fl a b ha hb]
  rw [show compare a b = compareOfLessAndEq a b from rfl]
  unfold compareOfLessAndEq
  by_cases h1 : a < b
  · rw [if_pos h1]
    have : ¬ a = b := by omega
    simp [this]
  · rw [if_neg h1]
    by_cases h2 : a = b
    · simp [h2]
    · rw [if_neg h2]
      simp [h2]
end Go.Proofs.Ytbjojpcgigoenaa
