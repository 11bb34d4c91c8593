/- Texts Float, LineD, LineE, LineF, LineG in one. For what each says in front of its theorems. -/
import Derived.Laws.FloatArith
import Derived.Laws.ComplexArith
import Derived.StillTailTactics
import Derived.RegionTactic
import Derived.Laws.BytesString
import Derived.Laws.Cells
import Derived.Test.YtpdenmcacaajkaaGreatXB45
/-! ### Float -/
namespace Go.Proofs.YtpdenmcacaajkaaGreat
open Ieee

theorem pow52 : (2 : Nat) ^ 52 = 4503599627370496 := by decide
theorem dbl_last : double.leastPlace = -1074 := by decide
theorem dbl_bin : double.binade = 4503599627370496 := by decide
theorem dbl_inf : double.infRung = 2047 * 4503599627370496 := by decide
theorem dbl_sw : double.signWeight = 2048 * 4503599627370496 := by decide
theorem dbl_fb : double.fractionBits = 52 := rfl

/-- The rung of a whole number m that is not nought. -/
def rungOf (m : Nat) : Nat := (m.log2 + 1022) * 4503599627370496 + m * 2 ^ (52 - m.log2)

theorem log2_mul_pow (m j : Nat) (hm : m ≠ 0) : (m * 2 ^ j).log2 = m.log2 + j := by
  have hp := Nat.two_pow_pos j
  refine (Nat.log2_eq_iff (Nat.mul_ne_zero hm (Nat.ne_of_gt hp))).2 ⟨?_, ?_⟩
  · rw [Nat.pow_add]; exact Nat.mul_le_mul_right _ (Nat.log2_self_le hm)
  · rw [show m.log2 + j + 1 = m.log2 + 1 + j by omega, Nat.pow_add]
    exact Nat.mul_lt_mul_of_pos_right Nat.lt_log2_self hp

theorem mant (m : Nat) (hm : m ≠ 0) (hlt : m < 2 ^ 53) : m.log2 ≤ 52 ∧ 4503599627370496 ≤ m * 2 ^ (52 - m.log2) ∧ m * 2 ^ (52 - m.log2) < 2 * 4503599627370496 := by
  have hl : m.log2 < 53 := (Nat.log2_lt hm).2 hlt
  have h1 : 2 ^ m.log2 ≤ m := Nat.log2_self_le hm
  have h2 : m < 2 ^ (m.log2 + 1) := Nat.lt_log2_self
  have e : 2 ^ m.log2 * 2 ^ (52 - m.log2) = 4503599627370496 := by rw [← Nat.pow_add, show m.log2 + (52 - m.log2) = 52 by omega, pow52]
  have p := Nat.two_pow_pos (52 - m.log2)
  refine ⟨by omega, ?_, ?_⟩
  · rw [← e]; exact Nat.mul_le_mul_right _ h1
  · have := Nat.mul_lt_mul_of_pos_right h2 p
    rw [Nat.pow_succ, Nat.mul_comm (2 ^ m.log2) 2, Nat.mul_assoc, e] at this
    exact this

/-- However a whole number is laid out, its word is one. -/
theorem nearest_of (s : Bool) (m j : Nat) (hm : m ≠ 0) (hlt : m < 2 ^ 53) : double.nearest s (m * 2 ^ j) (-(j : Int)) = double.word s (rungOf m) := by
  obtain ⟨hl, g1, g2⟩ := mant m hm hlt
  have hne : m * 2 ^ j ≠ 0 := Nat.mul_ne_zero hm (Nat.ne_of_gt (Nat.two_pow_pos j))
  unfold Format.nearest
  rw [if_neg hne, log2_mul_pow m j hm, dbl_last, dbl_bin, dbl_inf, dbl_fb]
  have hlast : max (-(j : Int) + ((m.log2 + j : Nat) : Int) - (52 : Nat)) (-1074) = (m.log2 : Int) - 52 := by omega
  rw [hlast]
  have hk : Toward.even.cut s ((m * 2 ^ j) <<< (-(j : Int) - ((m.log2 : Int) - 52)).toNat) ((m.log2 : Int) - 52 - -(j : Int)).toNat = m * 2 ^ (52 - m.log2) := by
    by_cases hj : j ≤ 52 - m.log2
    · rw [show ((m.log2 : Int) - 52 - -(j : Int)).toNat = 0 by omega, show (-(j : Int) - ((m.log2 : Int) - 52)).toNat = 52 - m.log2 - j by omega]
      rw [Nat.shiftLeft_eq, Nat.mul_assoc, ← Nat.pow_add, show j + (52 - m.log2 - j) = 52 - m.log2 by omega]
      simp [Toward.cut, Nat.mod_one]
    · rw [show (-(j : Int) - ((m.log2 : Int) - 52)).toNat = 0 by omega, show ((m.log2 : Int) - 52 - -(j : Int)).toNat = j - (52 - m.log2) by omega]
      rw [Nat.shiftLeft_zero]
      unfold Toward.cut
      rw [log2_mul_pow m j hm, show min (j - (52 - m.log2)) (m.log2 + j + 2) = j - (52 - m.log2) by omega, Nat.shiftLeft_eq, Nat.one_mul]
      have hs : m * 2 ^ j = m * 2 ^ (52 - m.log2) * 2 ^ (j - (52 - m.log2)) := by rw [Nat.mul_assoc, ← Nat.pow_add, show 52 - m.log2 + (j - (52 - m.log2)) = j by omega]
      have hp := Nat.two_pow_pos (j - (52 - m.log2))
      rw [hs]
      dsimp only
      rw [Nat.mul_div_cancel _ hp, Nat.mul_mod_left]
      simp
  dsimp only
  rw [hk, show ((m.log2 : Int) - 52 - -1074).toNat = m.log2 + 1022 by omega]
  rw [Nat.min_eq_left (by omega)]
  rfl

theorem rung_facts (K Q X : Nat) (h1 : K ≤ X) (h2 : X < 2 * K) (hQ : Q + 2 ≤ 2047) :
    Q * K + X < 2047 * K ∧ ¬ Q * K + X < K ∧ (Q * K + X) / K = Q + 1 ∧ (Q * K + X) % K + K = X ∧ (Q * K + X) / (2048 * K) = 0 ∧ (Q * K + X) % (2048 * K) = Q * K + X ∧
    (2048 * K + (Q * K + X)) / (2048 * K) = 1 ∧ (2048 * K + (Q * K + X)) % (2048 * K) = Q * K + X := by
  obtain ⟨Y, rfl⟩ : ∃ Y, X = K + Y := ⟨X - K, by omega⟩
  have hY : Y < K := by omega
  have e : Q * K + (K + Y) = Y + K * (Q + 1) := by rw [Nat.mul_add, Nat.mul_comm K Q]; omega
  have hm : K * (Q + 1) ≤ K * 2046 := Nat.mul_le_mul_left _ (by omega)
  have hlt : Y + K * (Q + 1) < 2048 * K := by omega
  rw [e]
  refine ⟨by omega, ?_, ?_, ?_, Nat.div_eq_of_lt hlt, Nat.mod_eq_of_lt hlt, ?_, ?_⟩
  · have : K * 1 ≤ K * (Q + 1) := Nat.mul_le_mul_left _ (by omega)
    omega
  · rw [Nat.add_mul_div_left _ _ (by omega), Nat.div_eq_of_lt hY, Nat.zero_add]
  · rw [Nat.add_mul_mod_self_left, Nat.mod_eq_of_lt hY, Nat.add_comm]
  · rw [Nat.add_div_left _ (by omega), Nat.div_eq_of_lt hlt]
  · rw [Nat.add_mod_left, Nat.mod_eq_of_lt hlt]

theorem read_word (s : Bool) (m : Nat) (hm : m ≠ 0) (hlt : m < 2 ^ 53) : double.read (double.word s (rungOf m)) = .number s (m * 2 ^ (52 - m.log2)) (-((52 - m.log2 : Nat) : Int)) := by
  obtain ⟨hl, g1, g2⟩ := mant m hm hlt
  unfold Format.read Format.word rungOf
  rw [dbl_sw, dbl_bin, dbl_inf, dbl_last]
  obtain ⟨f1, f2, f3, f4, f5, f6, f7, f8⟩ := rung_facts 4503599627370496 (m.log2 + 1022) (m * 2 ^ (52 - m.log2)) g1 g2 (by omega)
  have e : ((m.log2 + 1022 + 1 - 1 : Nat) : Int) + -1074 = -((52 - m.log2 : Nat) : Int) := by omega
  generalize (4503599627370496 : Nat) = K at *
  generalize m * 2 ^ (52 - m.log2) = X at *
  cases s
  · simp only [Bool.false_eq_true, if_false]
    rw [f5, f6, if_neg f2, if_pos f1, f3, Nat.add_comm K, f4, Int.add_comm, e]
    rfl
  · simp only [if_true]
    rw [f7, f8, if_neg f2, if_pos f1, f3, Nat.add_comm K, f4, Int.add_comm, e]
    rfl

/-- A whole number as a word. -/
abbrev fl (a : Int) : Nat := floatOfInt .f64 a

theorem fl_zero : fl 0 = 0 := by decide +kernel
theorem fl_word (a : Int) (h0 : a ≠ 0) (h : a.natAbs < 2 ^ 53) : fl a = double.word (decide (a < 0)) (rungOf a.natAbs) := by
  have := nearest_of (decide (a < 0)) a.natAbs 0 (by omega) h
  rw [Nat.pow_zero, Nat.mul_one] at this
  exact this

theorem read_fl (a : Int) (h : a.natAbs < 2 ^ 53) : ∃ d : Nat, double.read (fl a) = .number (decide (a < 0)) (a.natAbs * 2 ^ d) (-(d : Int)) := by
  by_cases h0 : a = 0
  · subst h0
    exact ⟨1074, by rw [fl_zero]; decide +kernel⟩
  · exact ⟨52 - a.natAbs.log2, by rw [fl_word a h0 h, read_word _ _ (by omega) h]⟩

theorem fl_of (s : Bool) (a : Int) (j : Nat) (h : a.natAbs < 2 ^ 53) (hs : s = decide (a < 0)) : double.nearest s (a.natAbs * 2 ^ j) (-(j : Int)) = fl a := by
  subst hs
  by_cases h0 : a = 0
  · subst h0
    rw [fl_zero]
    simp [Format.nearest, Format.word]
  · rw [nearest_of _ _ _ (by omega) h, fl_word a h0 h]

theorem signed_eq (a : Int) (d k : Nat) : signed (decide (a < 0)) (a.natAbs * 2 ^ d) k = a * 2 ^ (d + k) := by
  unfold signed
  rw [Nat.shiftLeft_eq, Nat.mul_assoc, ← Nat.pow_add]
  by_cases h : a < 0
  · simp only [h, decide_true, if_true, Int.natCast_mul, Int.natCast_pow]
    rw [show ((a.natAbs : Nat) : Int) = -a by omega]
    simp [Int.neg_mul]
  · simp only [h, decide_false, Bool.false_eq_true, if_false, Int.natCast_mul, Int.natCast_pow]
    rw [show ((a.natAbs : Nat) : Int) = a by omega]
    simp

theorem mul_pow_lt (x y : Int) (D : Nat) : (x * 2 ^ D < y * 2 ^ D) ↔ x < y := by
  have hp : (0 : Int) < 2 ^ D := Int.pow_pos (by decide)
  exact ⟨fun h => Int.lt_of_mul_lt_mul_right h (Int.le_of_lt hp), fun h => Int.mul_lt_mul_of_pos_right h hp⟩

theorem natAbs_pow (c : Int) (D : Nat) : (c * 2 ^ D).natAbs = c.natAbs * 2 ^ D := by
  rw [Int.natAbs_mul, Int.natAbs_pow]; rfl

theorem sum_write (a b c : Int) (x y : Datum) (d1 d2 : Nat) (hx : x = .number (decide (a < 0)) (a.natAbs * 2 ^ d1) (-(d1 : Int))) (hy : y = .number (decide (b < 0)) (b.natAbs * 2 ^ d2) (-(d2 : Int)))
    (hc : c = a + b) (h : c.natAbs < 2 ^ 53) : (x.sum y).map double.write = some (fl c) := by
  subst hx; subst hy
  have hbase : min (-(d1 : Int)) (-(d2 : Int)) = -((max d1 d2 : Nat) : Int) := by omega
  simp only [Datum.sum, hbase]
  rw [show (-(d1 : Int) - -((max d1 d2 : Nat) : Int)).toNat = max d1 d2 - d1 by omega, show (-(d2 : Int) - -((max d1 d2 : Nat) : Int)).toNat = max d1 d2 - d2 by omega]
  rw [signed_eq, signed_eq, show d1 + (max d1 d2 - d1) = max d1 d2 by omega, show d2 + (max d1 d2 - d2) = max d1 d2 by omega, ← Int.add_mul, ← hc]
  generalize max d1 d2 = D
  have hp : (0 : Int) < 2 ^ D := Int.pow_pos (by decide)
  simp only [Option.map_some, Format.write, natAbs_pow]
  rw [fl_of _ c D h ?_]
  by_cases h0 : c = 0
  · rw [h0]
    simp only [Int.zero_mul, if_true]
    simp
    omega
  · have h1 : ¬ c * 2 ^ D = 0 := fun e => by rcases Int.mul_eq_zero.1 e with e | e <;> omega
    rw [if_neg h1]
    have := mul_pow_lt c 0 D
    simp only [Int.zero_mul] at this
    simp [this]

theorem add_fl (a b : Int) (ha : a.natAbs < 2 ^ 52) (hb : b.natAbs < 2 ^ 52) : floatBits .add .f64 (fl a) (fl b) = some (fl (a + b)) := by
  obtain ⟨d1, e1⟩ := read_fl a (by omega)
  obtain ⟨d2, e2⟩ := read_fl b (by omega)
  exact sum_write a b (a + b) _ _ d1 d2 e1 e2 rfl (by omega)

theorem sub_zero_fl (a : Int) (ha : a.natAbs < 2 ^ 52) : floatBits .sub .f64 0 (fl a) = some (fl (-a)) := by
  obtain ⟨d2, e2⟩ := read_fl a (by omega)
  by_cases h0 : a = 0
  · subst h0
    rw [fl_zero]
    decide +kernel
  · refine sum_write 0 (-a) (-a) (double.read 0) ((double.read (fl a)).opposite) 1074 d2 (by decide +kernel) ?_ (by omega) (by omega)
    rw [e2]
    simp only [Datum.opposite, Int.natAbs_neg]
    congr 1
    rw [Bool.eq_iff_iff]
    simp
    omega

theorem order_fl (a b : Int) (ha : a.natAbs < 2 ^ 53) (hb : b.natAbs < 2 ^ 53) : FloatKind.f64.format.order (fl a) (fl b) = some (compare a b) := by
  obtain ⟨d1, e1⟩ := read_fl a ha
  obtain ⟨d2, e2⟩ := read_fl b hb
  show (double.read (fl a)).order (double.read (fl b)) = _
  rw [e1, e2]
  have hbase : min (-(d1 : Int)) (-(d2 : Int)) = -((max d1 d2 : Nat) : Int) := by omega
  simp only [Datum.order, hbase]
  rw [show (-(d1 : Int) - -((max d1 d2 : Nat) : Int)).toNat = max d1 d2 - d1 by omega, show (-(d2 : Int) - -((max d1 d2 : Nat) : Int)).toNat = max d1 d2 - d2 by omega]
  rw [signed_eq, signed_eq, show d1 + (max d1 d2 - d1) = max d1 d2 by omega, show d2 + (max d1 d2 - d2) = max d1 d2 by omega]
  generalize max d1 d2 = D
  congr 1
  have k1 := mul_pow_lt a b D
  have k2 := mul_pow_lt b a D
  rw [show compare (a * 2 ^ D) (b * 2 ^ D) = compareOfLessAndEq (a * 2 ^ D) (b * 2 ^ D) from rfl, show compare a b = compareOfLessAndEq a b from rfl]
  unfold compareOfLessAndEq
  by_cases h1 : a < b
  · rw [if_pos (k1.2 h1), if_pos h1]
  · rw [if_neg (fun h => h1 (k1.1 h)), if_neg h1]
    by_cases h2 : a = b
    · rw [h2]
      simp
    · have h3 : ¬ a * 2 ^ D = b * 2 ^ D := fun e => by
        have h4 : b < a := by omega
        have := k2.2 h4
        omega
      rw [if_neg h3, if_neg h2]

theorem order_eq (a b : Int) (ha : a.natAbs < 2 ^ 53) (hb : b.natAbs < 2 ^ 53) : (FloatKind.f64.format.order (fl a) (fl b) == some .eq) = decide (a = b) := by
  rw [order_fl a b ha hb]
  rw [show compare a b = compareOfLessAndEq a b from rfl]
  unfold compareOfLessAndEq
  by_cases h1 : a < b
  · rw [if_pos h1]
    have : ¬ a = b := by omega
    simp [this]
  · rw [if_neg h1]
    by_cases h2 : a = b
    · simp [h2]
    · rw [if_neg h2]
      simp [h2]
end Go.Proofs.YtpdenmcacaajkaaGreat

/-! ### LineD -/
namespace Go.Proofs.YtpdenmcacaajkaaGreat
open Go.RowKit

/-- A sample of two whole numbers. -/
def cx (a b : Int) : Value := .complex .f64 (floatOfInt .f64 a) (floatOfInt .f64 b)
def pt (s : Bool) (a b : Int) : Int := if s then b else a

set_option maxRecDepth 100000 in
theorem level_cx (a b : Int) (s : Bool) (w : World) :
    Calls Tryz.prog 199 #[cx a b, .bool s] w fun e w' => e = .returned (.float .f64 (floatOfInt .f64 (pt s a b))) ∧ w = w' := by
  have h := level_any (floatOfInt .f64 a) (floatOfInt .f64 b) s w
  cases s
  · simp only [parts, Bool.false_eq_true, if_false] at h
    simp only [pt, Bool.false_eq_true, if_false, cx]
    exact h
  · simp only [parts, if_true] at h
    simp only [pt, if_true, cx]
    exact h

set_option maxRecDepth 100000 in
theorem fl_one : floatOfInt .f64 1 = 4607182418800017408 := by decide +kernel
set_option maxRecDepth 100000 in
theorem fl_minus : floatOfInt .f64 (-1) = 13830554455654793216 := by decide +kernel

set_option maxRecDepth 100000 in
theorem is_zero (q : Int) (h : q.natAbs < 2 ^ 53) : (FloatKind.f64.format.order (floatOfInt .f64 q) 0 == some .eq) = decide (q = 0) := by
  have := order_eq q 0 h (by decide)
  rwa [fl_zero] at this
set_option maxRecDepth 100000 in
theorem is_one (q : Int) (h : q.natAbs < 2 ^ 53) : (FloatKind.f64.format.order (floatOfInt .f64 q) 4607182418800017408 == some .eq) = decide (q = 1) := by
  have := order_eq q 1 h (by decide)
  rwa [fl, fl, fl_one] at this
set_option maxRecDepth 100000 in
theorem is_minus (q : Int) (h : q.natAbs < 2 ^ 53) : (FloatKind.f64.format.order (floatOfInt .f64 q) 13830554455654793216 == some .eq) = decide (q = -1) := by
  have := order_eq q (-1) h (by decide)
  rwa [fl, fl, fl_minus] at this

def allZ (q : Nat → Int) (k : Nat) : Bool := (List.range k).all fun i => q i == 0
def allU (q : Nat → Int) (k : Nat) : Bool := (List.range k).all fun i => q i == 1 || q i == -1
set_option maxRecDepth 100000 in
theorem allZ_succ (q : Nat → Int) (k : Nat) : allZ q (k + 1) = (allZ q k && q k == 0) := by simp [allZ, List.range_succ]
set_option maxRecDepth 100000 in
theorem allU_succ (q : Nat → Int) (k : Nat) : allU q (k + 1) = (allU q k && (q k == 1 || q k == -1)) := by simp [allU, List.range_succ]

/-- A byte out of eight levels, the highest first: of the i lowest of the places. -/
def packTo (q : Nat → Int) (j i : Nat) : Nat := (List.range i).foldl (fun x k => x ||| (if q (8 * j + k) = 1 then 128 / 2 ^ k else 0)) 0
def packed (q : Nat → Int) (j : Nat) : Int := (packTo q j 8 : Nat)
end Go.Proofs.YtpdenmcacaajkaaGreat

/-! ### LineE -/
namespace Go.Proofs.YtpdenmcacaajkaaGreat
open Go.RowKit

set_option maxRecDepth 100000 in
theorem infoByte : (Tryz.prog.info? 5).map (fun i => (i.zero, i.size, i.bytes)) = some (some (.int .u8 0), 1, 1) := by kernel_rfl

set_option maxRecDepth 100000 in
theorem packTo_lt (q : Nat → Int) (j i : Nat) : packTo q j i < 256 := by
  unfold packTo
  induction i with
  | zero => simp
  | succ i ih =>
    rw [List.range_succ, List.foldl_append]
    refine Nat.or_lt_two_pow (n := 8) ih ?_
    show (if q (8 * j + i) = 1 then 128 / 2 ^ i else 0) < 256
    split
    · exact Nat.lt_of_le_of_lt (Nat.div_le_self _ _) (by decide)
    · decide
set_option maxRecDepth 100000 in
theorem packTo_succ (q : Nat → Int) (j i : Nat) : packTo q j (i + 1) = packTo q j i ||| (if q (8 * j + i) = 1 then 128 / 2 ^ i else 0) := by
  unfold packTo
  rw [List.range_succ, List.foldl_append]
  rfl

/-- The bytes that are packed so far. -/
def packAt (q : Nat → Int) (k : Nat) (j : Nat) : Value := .int .u8 (packTo q j (min 8 (k - 8 * j)) : Nat)
set_option maxRecDepth 100000 in
theorem packAt_zero (q : Nat → Int) (j : Nat) : packAt q 0 j = .int .u8 0 := by simp [packAt, packTo]
set_option maxRecDepth 100000 in
theorem packAt_all (q : Nat → Int) (n j : Nat) (hj : 8 * j + 8 ≤ n) : packAt q n j = .int .u8 (packed q j) := by
  unfold packAt packed
  rw [show min 8 (n - 8 * j) = 8 by omega]
set_option maxRecDepth 100000 in
theorem packAt_other (q : Nat → Int) (k j : Nat) (hj : j ≠ k / 8) : packAt q (k + 1) j = packAt q k j := by
  unfold packAt
  rw [show min 8 (k + 1 - 8 * j) = min 8 (k - 8 * j) by omega]
set_option maxRecDepth 100000 in
theorem packAt_same (q : Nat → Int) (k : Nat) (hq : q k ≠ 1) (j : Nat) : packAt q (k + 1) j = packAt q k j := by
  by_cases hj : j = k / 8
  · subst hj
    unfold packAt
    rw [show min 8 (k + 1 - 8 * (k / 8)) = k % 8 + 1 by omega, show min 8 (k - 8 * (k / 8)) = k % 8 by omega, packTo_succ, show 8 * (k / 8) + k % 8 = k by omega, if_neg hq, Nat.or_zero]
  · exact packAt_other q k j hj
set_option maxRecDepth 100000 in
theorem packAt_or (q : Nat → Int) (k : Nat) (hq : q k = 1) : packAt q (k + 1) (k / 8) = .int .u8 (bits BinOp.or IntKind.u8 (packTo q (k / 8) (k % 8) : Nat) (128 / 2 ^ (k % 8))) := by
  unfold packAt
  rw [show min 8 (k + 1 - 8 * (k / 8)) = k % 8 + 1 by omega, packTo_succ, show 8 * (k / 8) + k % 8 = k by omega, if_pos hq]
  have h := packTo_lt q (k / 8) (k % 8)
  have h2 : 128 / 2 ^ (k % 8) < 256 := Nat.lt_of_le_of_lt (Nat.div_le_self _ _) (by decide)
  have := u8_or_nat _ _ h h2
  rw [← this]
  simp

set_option maxRecDepth 100000 in
set_option maxHeartbeats 400000 in
theorem pack_any (A : Option Addr) (n c : Nat) (a b : Nat → Int) (s : Bool) (w : World) (h : Sees w w.heap.size A n fun k => cx (a k) (b k)) (hq : ∀ k, k < n → (pt s (a k) (b k)).natAbs < 2 ^ 53) (h8 : n % 8 = 0) (_hn : n ≤ c) (_hc : c ≤ maxLen) (hr : n ≤ 140737488355328) :
    Calls Tryz.prog 200 #[.slice A n c, .bool s] w fun e w' =>
      ∃ v, e = .returned v ∧ Owns w' w.heap.size 5 v (n / 8) (fun j => .int .u8 (packed (fun k => pt s (a k) (b k)) j)) ∧ Below w.heap.size w w' := by
  obtain ⟨m, hm1, hm2⟩ : ∃ m, 8 * m ≤ n ∧ n ≤ 8 * m := ⟨n / 8, by omega, by omega⟩
  have H8 := Lib.hid h8
  clear h8
  have hmn : (n : Int) / 8 = m := by omega
  go_enter Tryz.func200, Tryz.ntmps200
  go_wp2_with (at_make; go_loud (refine wpList_zeros _ rfl _ _ 37 rfl w.heap.size w (Below.refl _ _) (Nat.le_refl _) 5 (.int .u8 0) 1 infoByte rfl Tryz.underlying37 _ _ _ _ m rfl rfl rfl rfl (by omega) (by unfold maxLen; omega) ?_))
  intro w1 ho1 hb1 hs1 _
  clear hmn
  go_wp2
  go_loopw [14] (fun i wr => ∃ k : Nat, k ≤ n ∧ i = .int .i64 k ∧ Owns wr w.heap.size 5 (.slice (some ⟨w.heap.size, 0, none⟩) m m) m (packAt (fun k => pt s (a k) (b k)) k) ∧ Below w.heap.size w wr) (fun i _ => n - (intOf i).toNat)
  case atStart => exact ⟨0, by omega, rfl, ho1.alike fun k _ => (packAt_zero _ k).symm, hb1⟩
  case round =>
    obtain ⟨k, hk, rfl, hown, hbel⟩ := hrel
    clear ho1 hb1
    by_cases hlt : k < n
    · obtain ⟨b0, off, rfl, hbb, hcell⟩ := h (by omega)
      have hx : wr.cell? ⟨b0, off + k, none⟩ = some (cx (a k) (b k)) := (hbel.cell hbb).trans (hcell k (by omega))
      have hqk := hq k hlt
      have hbyte := hown.cell (k := k / 8) (by omega)
      have hfr := hown.frozen (k / 8)
      have hst := is_one (pt s (a k) (b k)) hqk
      clear hcell
      by_cases h1 : pt s (a k) (b k) = 1
      · have H1 := Lib.hid h1
        rw [decide_eq_true h1] at hst
        clear h1
        have hb0 : packAt (fun k => pt s (a k) (b k)) k (k / 8) = .int .u8 (packTo (fun k => pt s (a k) (b k)) (k / 8) (k % 8) : Nat) := by
          unfold packAt
          rw [show min 8 (k - 8 * (k / 8)) = k % 8 by omega]
        rw [hb0] at hbyte
        have H2 := Lib.hid (packAt_or (fun k => pt s (a k) (b k)) k H1.out)
        clear hb0
        generalize packTo (fun k => pt s (a k) (b k)) (k / 8) (k % 8) = X at *
        have hk8 : k / 8 < m := by omega
        have hk9 : (k : Int) / 8 < m := by omega
        go_wp2_with (go_at_call 199; refine (level_cx (a k) (b k) s _).mono ?_; rintro e w' ⟨rfl, rfl⟩)
        go_region
        have ho2 := hown.set_ (k / 8) (.int .u8 (bits BinOp.or IntKind.u8 X (128 / 2 ^ (k % 8)))) H2.out (fun j _ hj => packAt_other _ k j hj)
        have hb2 := (hbel.setCell (p := ⟨w.heap.size, k / 8, none⟩) (Nat.le_refl _) (.int .u8 (bits BinOp.or IntKind.u8 X (128 / 2 ^ (k % 8))))).drew
        go_wp2
        go_roundw
        case rel => exact ⟨k + 1, by omega, by go_num, ho2, hb2⟩
        case measure => simp [intOf]; omega
      · have H1 := Lib.hid h1
        rw [decide_eq_false h1] at hst
        clear h1
        go_wp2_with (go_at_call 199; refine (level_cx (a k) (b k) s _).mono ?_; rintro e w' ⟨rfl, rfl⟩)
        go_roundw
        case rel => exact ⟨k + 1, by omega, by go_num, hown.alike fun j _ => (packAt_same _ k H1.out j).symm, hbel⟩
        case measure => simp [intOf]; omega
    · go_wp2
      go_ret
      have h8 := H8.out
      have e : k = n := by omega
      exact ⟨_, rfl, by rw [show n / 8 = m by omega]; exact hown.alike fun j hj => by rw [e]; exact packAt_all _ n j (by omega), hbel⟩
end Go.Proofs.YtpdenmcacaajkaaGreat

/-! ### LineF -/
namespace Go.Proofs.YtpdenmcacaajkaaGreat
open Go.RowKit

/-- What a channel's levels tell: silence, bytes, or noise. -/
def Told (w' : World) (B : Nat) (q : Nat → Int) (n : Nat) (K : Int) (v : Value) : Prop :=
  (allZ q n = true ∧ K = 0 ∧ v = .slice none 0 0) ∨ (allZ q n = false ∧ n % 8 = 0 ∧ allU q n = true ∧ K = 2 ∧ Owns w' B 5 v (n / 8) (fun j => .int .u8 (packed q j))) ∨
  (allZ q n = false ∧ (n % 8 ≠ 0 ∨ allU q n = false) ∧ K = 1 ∧ v = .slice none 0 0)
def SomeTold (w : World) (q : Nat → Int) (n : Nat) (e : Ending) (w' : World) : Prop := ∃ K v, e = .returned (.tuple #[.int .i64 K, v]) ∧ Told w' w.heap.size q n K v ∧ Below w.heap.size w w'

set_option maxRecDepth 100000 in
set_option maxHeartbeats 1000000 in
theorem tell_any (A : Option Addr) (n c : Nat) (a b : Nat → Int) (s : Bool) (w : World) (h : Sees w w.heap.size A n fun k => cx (a k) (b k)) (hq : ∀ k, k < n → (pt s (a k) (b k)).natAbs < 2 ^ 53) (hn : n ≤ c) (hc : c ≤ maxLen) (hr : n ≤ 140737488355328) :
    Calls Tryz.prog 191 #[.slice A n c, .bool s] w (SomeTold w (fun k => pt s (a k) (b k)) n) := by
  have hc' := hc
  unfold maxLen at hc'
  obtain ⟨E, hE⟩ : ∃ E : Bool, E = decide (n % 8 = 0) := ⟨_, rfl⟩
  have HE := Lib.hid hE
  have hE' : ((n : Int) % 8 == 0) = E := by
    rw [hE, Bool.eq_iff_iff]
    simp
    omega
  clear hE
  go_enter Tryz.func191, Tryz.ntmps191
  go_wp2
  clear hE'
  go_loop [6, 7, 17] (fun x y i => ∃ k : Nat, k ≤ n ∧ i = .int .i64 k ∧ x = .bool (allZ (fun k => pt s (a k) (b k)) k) ∧ y = .bool (E && allU (fun k => pt s (a k) (b k)) k)) (fun _ _ i => n - (intOf i).toNat)
  case atStart => exact ⟨0, by omega, rfl, rfl, by simp [allU]⟩
  case round =>
    obtain ⟨k, hk, rfl, rfl, rfl⟩ := hrel
    by_cases hlt : k < n
    · obtain ⟨b0, off, rfl, hbb, hcell⟩ := h (by omega)
      have hx : w.cell? ⟨b0, off + k, none⟩ = some (cx (a k) (b k)) := hcell k (by omega)
      have hqk := hq k hlt
      have h0 := is_zero (pt s (a k) (b k)) hqk
      have h1 := is_one (pt s (a k) (b k)) hqk
      have h2 := is_minus (pt s (a k) (b k)) hqk
      have HZ := Lib.hid (allZ_succ (fun k => pt s (a k) (b k)) k)
      have HU := Lib.hid (allU_succ (fun k => pt s (a k) (b k)) k)
      clear hcell
      have H0 := Lib.hid (show (pt s (a k) (b k) == 0) = decide (pt s (a k) (b k) = 0) by rw [Bool.eq_iff_iff]; simp)
      have H1 := Lib.hid (show (pt s (a k) (b k) == 1) = decide (pt s (a k) (b k) = 1) by rw [Bool.eq_iff_iff]; simp)
      have H2 := Lib.hid (show (pt s (a k) (b k) == -1) = decide (pt s (a k) (b k) = -1) by rw [Bool.eq_iff_iff]; simp)
      generalize decide (pt s (a k) (b k) = 0) = d0 at *
      generalize decide (pt s (a k) (b k) = 1) = d1 at *
      generalize decide (pt s (a k) (b k) = -1) = d2 at *
      generalize allZ (fun k => pt s (a k) (b k)) k = x at *
      have HY := Lib.hid (Bool.and_assoc E (allU (fun k => pt s (a k) (b k)) k) (d1 || d2))
      generalize (E && allU (fun k => pt s (a k) (b k)) k) = y at *
      cases x <;> cases y <;> cases d0 <;> cases d1 <;> cases d2
      all_goals
        go_wp2_with (go_at_call 199; refine (level_cx (a k) (b k) s _).mono ?_; rintro e w' ⟨rfl, rfl⟩)
        go_round
        case rel => exact ⟨k + 1, by omega, by go_num, by rw [HZ.out, H0.out]; rfl, by rw [HU.out, H1.out, H2.out, ← HY.out]; rfl⟩
        case measure => simp [intOf]; omega
    · obtain rfl : k = n := by omega
      have hE := HE.out
      cases hz : allZ (fun k => pt s (a k) (b k)) k
      · cases hu : (E && allU (fun k => pt s (a k) (b k)) k)
        · have HU := Lib.hid hu
          have HZ := Lib.hid hz
          clear hz hu hE
          go_wp2
          go_ret2
          refine ⟨1, _, rfl, .inr (.inr ⟨HZ.out, ?_, rfl, rfl⟩), Below.refl _ _⟩
          have h1 := HU.out
          rw [HE.out, Bool.and_eq_false_iff] at h1
          rcases h1 with h1 | h1
          · exact .inl (by simpa using h1)
          · exact .inr h1
        · have HU := Lib.hid hu
          have HZ := Lib.hid hz
          clear hz hu hE
          have h1 := HU.out
          rw [HE.out, Bool.and_eq_true] at h1
          obtain ⟨h8, h9⟩ := h1
          have h8' : k % 8 = 0 := by simpa using h8
          have H9 := Lib.hid h9
          have H8 := Lib.hid h8'
          clear h8 h9 h8'
          go_wp2_with (go_at_call 200; refine (pack_any A k c a b s w h hq H8.out hn hc hr).mono ?_; rintro e w' ⟨v, rfl, hov, hbv⟩)
          go_ret2
          exact ⟨2, v, rfl, .inr (.inl ⟨HZ.out, H8.out, H9.out, rfl, hov⟩), hbv⟩
      · have HZ := Lib.hid hz
        clear hz hE
        go_wp2
        go_ret2
        exact ⟨0, _, rfl, .inl ⟨HZ.out, rfl, rfl⟩, Below.refl _ _⟩

/-- What both channels tell. -/
def BothTold (w : World) (a b : Nat → Int) (n : Nat) (e : Ending) (w' : World) : Prop :=
  ∃ K v L u, e = .returned (.tuple #[.int .i64 K, v, .int .i64 L, u]) ∧ Told w' w.heap.size a n K v ∧ Told w' w.heap.size b n L u ∧ Below w.heap.size w w'

set_option maxRecDepth 100000 in
theorem Told.below {w w' : World} {B B' : Nat} {q : Nat → Int} {n : Nat} {K : Int} {v : Value} (h : Told w B q n K v) (hb : Below B' w w') (hB : w.heap.size ≤ B') : Told w' B q n K v := by
  rcases h with h | ⟨h1, h2, h3, h4, h5⟩ | h
  · exact .inl h
  · exact .inr (.inl ⟨h1, h2, h3, h4, World.ownsRow.kept (row := none) h5 ⟨hb.os, hb.tape, hb.output, hb.size, fun k hk _ => hb.block k (by omega)⟩ (by
      rcases h5.2 with ⟨rfl, _⟩ | ⟨g, cap, cur, rfl, _⟩
      · exact .inl rfl
      · exact .inr (by simp [Value.ownBlock]))⟩)
  · exact .inr (.inr h)
set_option maxRecDepth 100000 in
theorem Told.base {w : World} {B B' : Nat} {q : Nat → Int} {n : Nat} {K : Int} {v : Value} (h : Told w B q n K v) (hB : B' ≤ B) : Told w B' q n K v := by
  rcases h with h | ⟨h1, h2, h3, h4, h5⟩ | h
  · exact .inl h
  · refine .inr (.inl ⟨h1, h2, h3, h4, h5.1, ?_⟩)
    rcases h5.2 with h6 | ⟨g, cap, cur, h6, h7, h8⟩
    · exact .inl h6
    · exact .inr ⟨g, cap, cur, h6, by omega, h8⟩
  · exact .inr (.inr h)

set_option maxRecDepth 100000 in
theorem lread_any (A : Option Addr) (n c : Nat) (a b : Nat → Int) (w : World) (h : Sees w w.heap.size A n fun k => cx (a k) (b k)) (ha : ∀ k, k < n → (a k).natAbs < 2 ^ 53) (hb : ∀ k, k < n → (b k).natAbs < 2 ^ 53) (hn : n ≤ c) (hc : c ≤ maxLen) (hr : n ≤ 140737488355328) :
    Calls Tryz.prog 181 #[.slice A n c] w (BothTold w a b n) := by
  have T1 := tell_any A n c a b false w h (fun k hk => by simpa [pt] using ha k hk) hn hc hr
  go_enter Tryz.func181, Tryz.ntmps181
  go_wp2_with fail
  refine T1.mono ?_
  rintro e w1 ⟨K, v, rfl, ht, hb1⟩
  have T2 := tell_any A n c a b true w1 ((h.below hb1).more hb1.size) (fun k hk => by simpa [pt] using hb k hk) hn hc hr
  go_wp2_with fail
  refine T2.mono ?_
  rintro e w2 ⟨L, u, rfl, ht2, hb2⟩
  go_wp2
  refine bodyPost_ret (v := .tuple #[.int .i64 K, v, .int .i64 L, u]) (by simp [results, Tryz.results181, go_sem]) rfl ?_
  refine ⟨K, v, L, u, rfl, ?_, ?_, hb1.trans (hb2.mono hb1.size)⟩
  · simpa [pt] using ht.below hb2 (Nat.le_refl _)
  · simpa [pt] using ht2.base hb1.size
end Go.Proofs.YtpdenmcacaajkaaGreat

/-! ### LineG -/
namespace Go.Proofs.YtpdenmcacaajkaaGreat
open Go.RowKit

def lv (f : Bool) (z : Nat → Int) (k : Nat) : Int := if f then (if bitv (z (k / 8)) (k % 8) then 1 else -1) else 0
set_option maxRecDepth 100000 in
theorem drv_cx (f s : Bool) (z : Nat → Int) (k : Nat) : drv f s z k = cx (lv f z k) (lv s z k) := by
  have h1 : part f (lvl (bitv (z (k / 8)) (k % 8))) = floatOfInt .f64 (lv f z k) := by
    unfold part lvl lv
    cases f
    · exact fl_zero.symm
    · cases bitv (z (k / 8)) (k % 8)
      · exact fl_minus.symm
      · exact fl_one.symm
  have h2 : part s (lvl (bitv (z (k / 8)) (k % 8))) = floatOfInt .f64 (lv s z k) := by
    unfold part lvl lv
    cases s
    · exact fl_zero.symm
    · cases bitv (z (k / 8)) (k % 8)
      · exact fl_minus.symm
      · exact fl_one.symm
  unfold drv cx
  rw [h1, h2]
set_option maxRecDepth 100000 in
theorem drive_cx (A : Option Addr) (n c : Nat) (z : Nat → Int) (f s : Bool) (w : World) (h : Sees w w.heap.size A n fun k => .int .u8 (z k)) (hz : ∀ k, k < n → 0 ≤ z k ∧ z k < 256) (hn : n ≤ c) (hc : c ≤ maxLen) :
    Calls Tryz.prog 187 #[.slice A n c, .bool f, .bool s] w fun e w' =>
      ∃ v, e = .returned v ∧ Owns w' w.heap.size 239 v (8 * min n 50) (fun k => cx (lv f z k) (lv s z k)) ∧ Below w.heap.size w w' := by
  refine (drive_any A n c z f s w h hz hn hc).mono ?_
  rintro e w' ⟨v, rfl, ho, hb⟩
  exact ⟨v, rfl, ho.alike fun k _ => drv_cx f s z k, hb⟩

set_option maxRecDepth 100000 in
theorem allZ_iff (q : Nat → Int) (n : Nat) : allZ q n = true ↔ ∀ k, k < n → q k = 0 := by simp [allZ]
set_option maxRecDepth 100000 in
theorem allU_iff (q : Nat → Int) (n : Nat) : allU q n = true ↔ ∀ k, k < n → q k = 1 ∨ q k = -1 := by simp [allU]
set_option maxRecDepth 100000 in
theorem lv_unit (z : Nat → Int) (k : Nat) : lv true z k = 1 ∨ lv true z k = -1 := by
  unfold lv
  simp only [if_true]
  split
  · exact .inl rfl
  · exact .inr rfl
set_option maxRecDepth 100000 in
theorem lv_units (z : Nat → Int) (n : Nat) : allU (lv true z) n = true := (allU_iff _ _).2 fun k _ => lv_unit z k
set_option maxRecDepth 100000 in
theorem lv_loud (z : Nat → Int) (n : Nat) (hn : 0 < n) : allZ (lv true z) n = false := by
  rw [Bool.eq_false_iff]
  intro h
  have := (allZ_iff _ _).1 h 0 hn
  rcases lv_unit z 0 with h1 | h1 <;> omega

set_option maxRecDepth 100000 in
theorem byte_bits (x : Fin 256) : (List.range 8).foldl (fun a k => a ||| (if x.val.testBit (7 - k) = true then 128 / 2 ^ k else 0)) 0 = x.val := by
  revert x
  decide +kernel
set_option maxRecDepth 100000 in
theorem foldl_same {α β : Type} (f g : α → β → α) : ∀ (l : List β) (a : α), (∀ a k, k ∈ l → f a k = g a k) → l.foldl f a = l.foldl g a
  | [], _, _ => rfl
  | k :: l, a, h => by
    rw [List.foldl_cons, List.foldl_cons, h a k (List.mem_cons_self), foldl_same f g l (g a k) fun a' k' hk => h a' k' (List.mem_cons_of_mem _ hk)]
set_option maxRecDepth 100000 in
theorem packed_lv (z : Nat → Int) (j : Nat) (hz : 0 ≤ z j ∧ z j < 256) : packed (lv true z) j = z j := by
  obtain ⟨x, hx⟩ := Int.eq_ofNat_of_zero_le hz.1
  have hb : _ = x := byte_bits ⟨x, by omega⟩
  have he : packTo (lv true z) j 8 = x := by
    refine Eq.trans ?_ hb
    refine foldl_same _ _ _ _ fun a k hk => ?_
    have hk8 : k < 8 := List.mem_range.1 hk
    have hl : lv true z (8 * j + k) = if x.testBit (7 - k) = true then 1 else -1 := by
      unfold lv bitv
      rw [show (8 * j + k) / 8 = j by omega, show (8 * j + k) % 8 = k by omega, hx]
      rfl
    rw [hl]
    cases x.testBit (7 - k) <;> rfl
  unfold packed
  rw [he, hx]

end Go.Proofs.YtpdenmcacaajkaaGreat
