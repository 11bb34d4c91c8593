/- Members as eight bits. No condition but the bounds. -/
import Derived.Test.YtdlgojdcfklfpaaKit
namespace Go.Proofs.Ytdlgojdcfklfpaa
open Go.RowKit

/-- A bit more. -/
def ins (m k : Nat) : Nat := m ||| 2 ^ k
/-- A bit less. -/
def del (m k : Nat) : Nat := if m.testBit k then m - 2 ^ k else m
theorem ins_lt {m k : Nat} (hm : m < 256) (hk : k < 8) : ins m k < 256 := by
  have : ∀ (a : Fin 256) (b : Fin 8), ins a.val b.val < 256 := by decide +kernel
  exact this ⟨m, hm⟩ ⟨k, hk⟩
theorem del_lt {m k : Nat} (hm : m < 256) : del m k < 256 := by
  unfold del; split
  · exact Nat.lt_of_le_of_lt (Nat.sub_le _ _) hm
  · exact hm
theorem ins_has {m k : Nat} (hm : m < 256) (hk : k < 8) : (ins m k).testBit k = true := by
  have : ∀ (a : Fin 256) (b : Fin 8), (ins a.val b.val).testBit b.val = true := by decide +kernel
  exact this ⟨m, hm⟩ ⟨k, hk⟩
theorem del_has {m k : Nat} (hm : m < 256) (hk : k < 8) : (del m k).testBit k = false := by
  have : ∀ (a : Fin 256) (b : Fin 8), (del a.val b.val).testBit b.val = false := by decide +kernel
  exact this ⟨m, hm⟩ ⟨k, hk⟩
theorem ins_del {m k : Nat} (hm : m < 256) (hk : k < 8) : ins (del m k) k = ins m k := by
  have : ∀ (a : Fin 256) (b : Fin 8), ins (del a.val b.val) b.val = ins a.val b.val := by decide +kernel
  exact this ⟨m, hm⟩ ⟨k, hk⟩
theorem or_ins {m k : Nat} (hm : m < 256) (hk : k < 8) : bits BinOp.or IntKind.i64 (m : Nat) ((2 ^ k : Nat) : Int) = (ins m k : Nat) := by
  have : ∀ (a : Fin 256) (b : Fin 8), bits BinOp.or IntKind.i64 (a.val : Nat) ((2 ^ b.val : Nat) : Int) = (ins a.val b.val : Nat) := by decide +kernel
  exact this ⟨m, hm⟩ ⟨k, hk⟩
theorem andNot_del {m k : Nat} (hm : m < 256) (hk : k < 8) : bits BinOp.andNot IntKind.i64 (m : Nat) ((2 ^ k : Nat) : Int) = (del m k : Nat) := by
  have : ∀ (a : Fin 256) (b : Fin 8), bits BinOp.andNot IntKind.i64 (a.val : Nat) ((2 ^ b.val : Nat) : Int) = (del a.val b.val : Nat) := by decide +kernel
  exact this ⟨m, hm⟩ ⟨k, hk⟩
theorem or_nought {m : Nat} (hm : m < 256) : bits BinOp.or IntKind.i64 (m : Nat) 0 = (m : Nat) := by
  have : ∀ (a : Fin 256), bits BinOp.or IntKind.i64 (a.val : Nat) 0 = (a.val : Nat) := by decide +kernel
  exact this ⟨m, hm⟩
theorem andNot_nought {m : Nat} (hm : m < 256) : bits BinOp.andNot IntKind.i64 (m : Nat) 0 = (m : Nat) := by
  have : ∀ (a : Fin 256), bits BinOp.andNot IntKind.i64 (a.val : Nat) 0 = (a.val : Nat) := by decide +kernel
  exact this ⟨m, hm⟩
theorem and_nought {m : Nat} (hm : m < 256) : bits BinOp.and IntKind.i64 (m : Nat) 0 = 0 := by
  have : ∀ (a : Fin 256), bits BinOp.and IntKind.i64 (a.val : Nat) 0 = 0 := by decide +kernel
  exact this ⟨m, hm⟩
/-- One bit: is it there? -/
theorem and_bit {m k : Nat} (hm : m < 256) (hk : k < 8) : bits BinOp.and IntKind.i64 (m : Nat) ((2 ^ k : Nat) : Int) = if m.testBit k then ((2 ^ k : Nat) : Int) else 0 := by
  have : ∀ (a : Fin 256) (b : Fin 8), bits BinOp.and IntKind.i64 (a.val : Nat) ((2 ^ b.val : Nat) : Int) = if a.val.testBit b.val then ((2 ^ b.val : Nat) : Int) else 0 := by decide +kernel
  exact this ⟨m, hm⟩ ⟨k, hk⟩
theorem and_low (a : Int) : bits BinOp.and IntKind.i64 a 255 = ((a % 256).toNat : Nat) := by
  have h8 : (BitVec.ofInt 64 255).toNat = 2 ^ 8 - 1 := by decide
  show IntKind.i64.wrap (((BitVec.ofInt 64 a) &&& (BitVec.ofInt 64 255)).toNat : Int) = _
  rw [BitVec.toNat_and, h8, Nat.and_two_pow_sub_one_eq_mod, BitVec.toNat_ofInt, IntKind.wrap_i64]
  omega
theorem and_one64 (a : Int) : bits BinOp.and IntKind.i64 a 1 = a % 2 := by
  have h8 : (BitVec.ofInt 64 1).toNat = 2 ^ 1 - 1 := by decide
  show IntKind.i64.wrap (((BitVec.ofInt 64 a) &&& (BitVec.ofInt 64 1)).toNat : Int) = _
  rw [BitVec.toNat_and, h8, Nat.and_two_pow_sub_one_eq_mod, BitVec.toNat_ofInt, IntKind.wrap_i64]
  omega
theorem cast_pow (k : Nat) : ((2 ^ k : Nat) : Int) = (2 : Int) ^ k := by simp
theorem wrap_pow {k : Nat} (hk : k < 8) : wrap64 ((2 : Int) ^ k) = (2 : Int) ^ k := by
  have : ∀ (b : Fin 8), wrap64 ((2 : Int) ^ b.val) = (2 : Int) ^ b.val := by decide +kernel
  exact this ⟨k, hk⟩
/-- As a walk spells them. -/
theorem or_w {m k : Nat} (hm : m < 256) (hk : k < 8) : bits BinOp.or IntKind.i64 (m : Nat) (wrap64 ((2 : Int) ^ k)) = (ins m k : Nat) := by
  rw [wrap_pow hk, ← cast_pow]; exact or_ins hm hk
theorem andNot_w {m k : Nat} (hm : m < 256) (hk : k < 8) : bits BinOp.andNot IntKind.i64 (m : Nat) (wrap64 ((2 : Int) ^ k)) = (del m k : Nat) := by
  rw [wrap_pow hk, ← cast_pow]; exact andNot_del hm hk
theorem is_w (m k : Nat) : (bits BinOp.and IntKind.i64 ((m : Int) / (2 : Int) ^ k) 1 == 1) = m.testBit k := by
  rw [and_one64, ← cast_pow, ← Int.natCast_ediv, Nat.testBit_eq_decide_div_mod_eq]
  by_cases h : m / 2 ^ k % 2 = 1
  · rw [decide_eq_true h, beq_iff_eq]; omega
  · rw [decide_eq_false h, beq_eq_false_iff_ne]; omega
theorem low_lt (a : Int) : (a % 256).toNat < 256 := by omega

/-- Members, and both counts. -/
structure TS where
  m : Nat
  a : Nat
  f : Nat
deriving DecidableEq
def TS.join (s : TS) (n : Int) : TS := if 0 ≤ n ∧ n < 8 then { s with m := ins s.m n.toNat } else s
def TS.miss (s : TS) (n : Int) : TS := if 0 ≤ n ∧ n < 8 then { s with m := del s.m n.toNat } else s
def TS.right (s : TS) (n : Int) : TS := if 0 ≤ n ∧ n < 8 then ⟨ins s.m n.toNat, s.a + 1, s.f⟩ else s
def TS.wrong (s : TS) (n : Int) : TS := if 0 ≤ n ∧ n < 8 then ⟨del s.m n.toNat, s.a, s.f + 1⟩ else s
def TS.clear (s : TS) : TS := { s with a := 0, f := 0 }
def isB (m : Nat) (n : Int) : Bool := decide (0 ≤ n ∧ n < 8) && m.testBit n.toNat
end Go.Proofs.Ytdlgojdcfklfpaa
