/- Texts CrcMath, FrMath in one. For what each says in front of its theorems. -/
import Derived.Laws.BitsLemmas
import Derived.Laws.BitsAllLaws
/-! ### CrcMath -/
namespace Go.Proofs.YtpdenmcacaajkaaGreat
namespace Cr

/-- One bit more. -/
def bit1 (n : Nat) (b : Bool) : Nat := if (n.testBit 14 != b) then (2 * n % 32768) ^^^ 17817 else 2 * n % 32768

theorem bit1_lt (n : Nat) (b : Bool) : bit1 n b < 32768 := by
  unfold bit1
  split
  · exact Nat.xor_lt_two_pow (n := 15) (by omega) (by omega)
  · omega

theorem dbl_xor (m n : Nat) : 2 * (m ^^^ n) % 32768 = (2 * m % 32768) ^^^ (2 * n % 32768) := by
  apply Nat.eq_of_testBit_eq
  intro i
  rw [show 32768 = 2 ^ 15 from rfl]
  simp only [Nat.testBit_xor, Nat.testBit_mod_two_pow, show ∀ x, 2 * x = 2 ^ 1 * x from fun _ => rfl, Nat.testBit_two_pow_mul]
  by_cases h1 : i < 15 <;> by_cases h2 : i ≥ 1 <;> simp [h1, h2]

theorem xlc (a b c : Nat) : a ^^^ (b ^^^ c) = b ^^^ (a ^^^ c) := by rw [← Nat.xor_assoc, Nat.xor_comm a b, Nat.xor_assoc]
theorem x0 {a b : Nat} (h : a ^^^ b = 0) : a = b := by
  have := congrArg (· ^^^ b) h
  simpa [Nat.xor_assoc] using this
theorem xself (a b : Nat) : a ^^^ (a ^^^ b) = b := by rw [← Nat.xor_assoc, Nat.xor_self, Nat.zero_xor]
theorem bit1_xor (m n : Nat) (a b : Bool) : bit1 (m ^^^ n) (a ^^ b) = bit1 m a ^^^ bit1 n b := by
  unfold bit1
  rw [dbl_xor, Nat.testBit_xor]
  cases m.testBit 14 <;> cases n.testBit 14 <;> cases a <;> cases b <;> simp [Nat.xor_comm, xlc, xself]

theorem bit1_zero {x : Nat} (hx : x < 32768) (h : bit1 x false = 0) : x = 0 := by
  unfold bit1 at h
  by_cases ht : x.testBit 14 = true
  · rw [ht] at h
    simp only [bne_iff_ne, ne_eq, Bool.true_eq_false, not_false_eq_true, if_true] at h
    have : 2 * x % 32768 = 17817 := x0 h
    omega
  · simp only [Bool.not_eq_true] at ht
    rw [ht] at h
    simp at h
    have h2 : x / 2 ^ 14 % 2 ≠ 1 := by
      intro e
      rw [Nat.testBit_eq_decide_div_mod_eq] at ht
      simp [e] at ht
    omega

theorem xor_lt {m n : Nat} (hm : m < 32768) (hn : n < 32768) : m ^^^ n < 32768 := Nat.xor_lt_two_pow (n := 15) hm hn

theorem bit1_inj {m n : Nat} (b : Bool) (hm : m < 32768) (hn : n < 32768) (h : bit1 m b = bit1 n b) : m = n := by
  have := bit1_xor m n b b
  rw [h, Nat.xor_self, Bool.xor_self] at this
  exact x0 (bit1_zero (xor_lt hm hn) this)

/-- So many bits of a byte, the highest first. -/
def byteTo (n c : Nat) : Nat → Nat
  | 0 => n
  | j + 1 => bit1 (byteTo n c j) (c.testBit (7 - j))
def byte1 (n c : Nat) : Nat := byteTo n c 8

theorem byteTo_lt {n : Nat} (h : n < 32768) (c j : Nat) : byteTo n c j < 32768 := by
  cases j with
  | zero => exact h
  | succ j => exact bit1_lt _ _
theorem byte1_lt (n c : Nat) : byte1 n c < 32768 := bit1_lt _ _
theorem byteTo_xor (m n a b j : Nat) : byteTo (m ^^^ n) (a ^^^ b) j = byteTo m a j ^^^ byteTo n b j := by
  induction j with
  | zero => rfl
  | succ j ih => simp only [byteTo]; rw [ih, Nat.testBit_xor, bit1_xor]
theorem byteTo_inj {m n : Nat} (c j : Nat) (hm : m < 32768) (hn : n < 32768) (h : byteTo m c j = byteTo n c j) : m = n := by
  induction j with
  | zero => exact h
  | succ j ih => exact ih (bit1_inj _ (byteTo_lt hm c j) (byteTo_lt hn c j) h)
theorem byte1_xor (m n a b : Nat) : byte1 (m ^^^ n) (a ^^^ b) = byte1 m a ^^^ byte1 n b := byteTo_xor m n a b 8
theorem byte1_inj {m n : Nat} (c : Nat) (hm : m < 32768) (hn : n < 32768) (h : byte1 m c = byte1 n c) : m = n := byteTo_inj c 8 hm hn h
theorem byte1_nil : ∀ c : Fin 256, byte1 0 c.val = 0 → c.val = 0 := by decide +kernel
theorem byte1_byte {n a b : Nat} (ha : a < 256) (hb : b < 256) (h : byte1 n a = byte1 n b) : a = b := by
  have := byte1_xor n n a b
  rw [h, Nat.xor_self, Nat.xor_self] at this
  exact x0 (byte1_nil ⟨a ^^^ b, Nat.xor_lt_two_pow (n := 8) ha hb⟩ this)

/-- So many bytes. -/
def sumTo (n : Nat) (z : Nat → Int) : Nat → Nat
  | 0 => n
  | k + 1 => byte1 (sumTo n z k) (z k).toNat
theorem sumTo_lt {n : Nat} (h : n < 32768) (z : Nat → Int) (k : Nat) : sumTo n z k < 32768 := by
  cases k with
  | zero => exact h
  | succ k => exact byte1_lt _ _
theorem sumTo_alike (n : Nat) {z y : Nat → Int} (k : Nat) (h : ∀ j, j < k → z j = y j) : sumTo n z k = sumTo n y k := by
  induction k with
  | zero => rfl
  | succ k ih => simp only [sumTo]; rw [ih (fun j hj => h j (by omega)), h k (by omega)]
theorem sumTo_inj {m n : Nat} (z : Nat → Int) (k : Nat) (hm : m < 32768) (hn : n < 32768) (h : sumTo m z k = sumTo n z k) : m = n := by
  induction k with
  | zero => exact h
  | succ k ih => exact ih (byte1_inj _ (sumTo_lt hm z k) (sumTo_lt hn z k) h)
theorem sumTo_more (n : Nat) (z : Nat → Int) (a b : Nat) : sumTo n z (a + b) = sumTo (sumTo n z a) (fun k => z (a + k)) b := by
  induction b with
  | zero => rfl
  | succ b ih => show byte1 (sumTo n z (a + b)) (z (a + b)).toNat = _; rw [ih]; rfl
/-- Behind one byte that is another no sum is the same again. -/
theorem sumTo_turned {n : Nat} (hn : n < 32768) {z y : Nat → Int} (at_ k : Nat) (hk : at_ < k) (hz : 0 ≤ z at_ ∧ z at_ < 256) (hy : 0 ≤ y at_ ∧ y at_ < 256) (hd : z at_ ≠ y at_) (ho : ∀ j, j ≠ at_ → z j = y j) :
    sumTo n z k ≠ sumTo n y k := by
  intro h
  obtain ⟨b, rfl⟩ : ∃ b, k = (at_ + 1) + b := ⟨k - (at_ + 1), by omega⟩
  rw [sumTo_more n z (at_ + 1) b, sumTo_more n y (at_ + 1) b, sumTo_alike _ (z := fun k => z (at_ + 1 + k)) (y := fun k => y (at_ + 1 + k)) b (fun j _ => ho _ (by omega))] at h
  have h2 := sumTo_inj _ _ (sumTo_lt hn _ _) (sumTo_lt hn _ _) h
  simp only [sumTo] at h2
  rw [sumTo_alike n at_ (fun j hj => ho j (by omega))] at h2
  have := byte1_byte (by omega) (by omega) h2
  omega
theorem sumTo_xor (m n : Nat) (x y z : Nat → Int) (k : Nat) (h : ∀ j, j < k → (x j).toNat = (y j).toNat ^^^ (z j).toNat) :
    sumTo (m ^^^ n) x k = sumTo m y k ^^^ sumTo n z k := by
  induction k with
  | zero => rfl
  | succ k ih => simp only [sumTo]; rw [ih (fun j hj => h j (by omega)), h k (by omega), byte1_xor]
theorem sumTo_nought (z : Nat → Int) (k : Nat) (h : ∀ j, j < k → z j = 0) : sumTo 0 z k = 0 := by
  induction k with
  | zero => rfl
  | succ k ih => simp only [sumTo]; rw [ih (fun j hj => h j (by omega)), h k (by omega)]; decide

/-- So many rows. -/
def rowsTo (n : Nat) (z : Nat → Nat → Int) (N : Nat → Nat) : Nat → Nat
  | 0 => n
  | k + 1 => sumTo (rowsTo n z N k) (z k) (N k)
theorem rowsTo_lt {n : Nat} (h : n < 32768) (z : Nat → Nat → Int) (N : Nat → Nat) (k : Nat) : rowsTo n z N k < 32768 := by
  induction k with
  | zero => exact h
  | succ k ih => exact sumTo_lt ih _ _

/-- A seed's lowest fifteen digits. -/
def sd (a : Int) : Nat := (a % 32768).toNat
theorem sd_lt (a : Int) : sd a < 32768 := by unfold sd; omega
theorem sd_of {n : Nat} (h : n < 32768) : sd (n : Int) = n := by unfold sd; omega
theorem and_sd (a : Int) : bits BinOp.and IntKind.i64 a 32767 = (sd a : Int) := by
  show IntKind.i64.wrap ((BitVec.ofInt 64 a &&& BitVec.ofInt 64 32767).toNat : Int) = _
  rw [BitVec.toNat_and, show (BitVec.ofInt 64 32767).toNat = 2 ^ 15 - 1 by decide, Nat.and_two_pow_sub_one_eq_mod, BitVec.toNat_ofInt, IntKind.wrap_i64]
  unfold sd
  omega
theorem sd_i64 (a : Int) : sd a = ((BitVec.ofInt 64 a).toNat) % 2 ^ 15 := by
  unfold sd
  rw [BitVec.toNat_ofInt]
  omega
theorem i64_toNat (x : BitVec 64) : (BitVec.ofInt 64 (IntKind.i64.wrap (x.toNat : Int))).toNat = x.toNat := by
  rw [BitVec.toNat_ofInt, IntKind.wrap_i64]
  have := x.isLt
  omega
theorem sd_xor (a b : Int) : sd (bits BinOp.xor IntKind.i64 a b) = sd a ^^^ sd b := by
  rw [sd_i64, sd_i64, sd_i64]
  show (BitVec.ofInt 64 (IntKind.i64.wrap ((BitVec.ofInt 64 a ^^^ BitVec.ofInt 64 b).toNat : Int))).toNat % 2 ^ 15 = _
  rw [i64_toNat, BitVec.toNat_xor, Nat.xor_mod_two_pow]
theorem sd_or (a b : Int) : sd (bits BinOp.or IntKind.i64 a b) = sd a ||| sd b := by
  rw [sd_i64, sd_i64, sd_i64]
  show (BitVec.ofInt 64 (IntKind.i64.wrap ((BitVec.ofInt 64 a ||| BitVec.ofInt 64 b).toNat : Int))).toNat % 2 ^ 15 = _
  rw [i64_toNat, BitVec.toNat_or, Nat.or_mod_two_pow]
theorem xor_small {m n : Nat} (hm : m < 32768) (hn : n < 32768) : bits BinOp.xor IntKind.i64 (m : Int) (n : Int) = ((m ^^^ n : Nat) : Int) := by
  have hx := xor_lt hm hn
  show IntKind.i64.wrap ((BitVec.ofInt 64 (m : Int) ^^^ BitVec.ofInt 64 (n : Int)).toNat : Int) = _
  rw [BitVec.toNat_xor, BitVec.toNat_ofInt, BitVec.toNat_ofInt, show ((m : Int) % ((2 ^ 64 : Nat) : Int)).toNat = m by omega, show ((n : Int) % ((2 ^ 64 : Nat) : Int)).toNat = n by omega, IntKind.wrap_i64]
  omega
end Cr
end Go.Proofs.YtpdenmcacaajkaaGreat

/-! ### FrMath -/
namespace Go.Proofs.YtpdenmcacaajkaaGreat
namespace Fr

/-- The sum of a list of bytes. -/
def sumL (s : Nat) (l : List Int) : Nat := l.foldl (fun n c => Cr.byte1 n c.toNat) s
theorem sumL_append (s : Nat) (l m : List Int) : sumL s (l ++ m) = sumL (sumL s l) m := List.foldl_append
theorem sumL_lt {s : Nat} (h : s < 32768) (l : List Int) : sumL s l < 32768 := by
  induction l generalizing s with
  | nil => exact h
  | cons x l ih => exact ih (Cr.byte1_lt _ _)
theorem sumL_inj {m n : Nat} (l : List Int) (hm : m < 32768) (hn : n < 32768) (h : sumL m l = sumL n l) : m = n := by
  induction l generalizing m n with
  | nil => exact h
  | cons x l ih => exact Cr.byte1_inj _ hm hn (ih (Cr.byte1_lt _ _) (Cr.byte1_lt _ _) h)
theorem sumTo_sumL (s : Nat) (l : List Int) : ∀ k, k ≤ l.length → Cr.sumTo s (fun j => l.getD j 0) k = sumL s (l.take k)
  | 0, _ => rfl
  | k + 1, h => by
    have hk : k < l.length := by omega
    rw [Cr.sumTo, sumTo_sumL s l k (by omega), List.take_succ_eq_append_getElem hk, sumL_append]
    simp [sumL, List.getD_eq_getElem?_getD, hk]
theorem sum_all (s : Nat) (l : List Int) : Cr.sumTo s (fun j => l.getD j 0) l.length = sumL s l := by
  rw [sumTo_sumL s l _ (Nat.le_refl _), List.take_length]

/-- Bytes. -/
def okL (l : List Int) : Prop := ∀ x ∈ l, 0 ≤ x ∧ x < 256
theorem okL.append {l m : List Int} (h : okL l) (h' : okL m) : okL (l ++ m) := fun x hx => by
  rcases List.mem_append.1 hx with hx | hx
  · exact h x hx
  · exact h' x hx
theorem okL.take {l : List Int} (h : okL l) (k : Nat) : okL (l.take k) := fun x hx => h x (List.mem_of_mem_take hx)
theorem okL.drop {l : List Int} (h : okL l) (k : Nat) : okL (l.drop k) := fun x hx => h x (List.mem_of_mem_drop hx)
theorem okL.getD {l : List Int} (h : okL l) (k : Nat) : 0 ≤ l.getD k 0 ∧ l.getD k 0 < 256 := by
  by_cases hk : k < l.length
  · rw [List.getD_eq_getElem?_getD, List.getElem?_eq_getElem hk, Option.getD_some]
    exact h _ (List.getElem_mem _)
  · rw [List.getD_eq_getElem?_getD, List.getElem?_eq_none (by omega)]
    exact ⟨by decide, by decide⟩
/-- One byte that is another makes another sum. -/
theorem sum_turned {s : Nat} (p q : List Int) (x y : Int) (hx : 0 ≤ x ∧ x < 256) (hy : 0 ≤ y ∧ y < 256) (h : x ≠ y) : sumL s (p ++ x :: q) ≠ sumL s (p ++ y :: q) := by
  intro e
  rw [sumL_append, sumL_append] at e
  have e2 : sumL (Cr.byte1 (sumL s p) x.toNat) q = sumL (Cr.byte1 (sumL s p) y.toNat) q := e
  have := Cr.byte1_byte (by omega) (by omega) (sumL_inj q (Cr.byte1_lt _ _) (Cr.byte1_lt _ _) e2)
  omega

/-- A number in two bytes. -/
def two (n : Nat) : List Int := [((n / 256 : Nat) : Int), ((n % 256 : Nat) : Int)]
theorem two_ok {n : Nat} (h : n < 65536) : okL (two n) := fun x hx => by
  rcases List.mem_cons.1 hx with rfl | hx
  · omega
  · rcases List.mem_cons.1 hx with rfl | hx
    · omega
    · cases hx
theorem two_inj {m n : Nat} (h : two m = two n) : m = n := by
  simp only [two, List.cons.injEq, and_true] at h
  omega

/-- A state: the round, the slot, the members. -/
structure St where
  r : Int
  s : Int
  m : Int
def St.may (s : St) : Bool := decide (0 ≤ s.r) && decide (s.r ≤ 65535) && decide (0 ≤ s.s) && decide (s.s < 8) && decide (0 ≤ s.m) && decide (s.m ≤ 255)
theorem St.may_iff (s : St) : s.may = true ↔ (0 ≤ s.r ∧ s.r ≤ 65535) ∧ (0 ≤ s.s ∧ s.s < 8) ∧ 0 ≤ s.m ∧ s.m ≤ 255 := by
  simp [St.may, and_assoc]
def St.bytes (s : St) : List Int := [s.r / 256, s.r % 256, s.s, s.m]
theorem St.bytes_ok {s : St} (h : s.may = true) : okL s.bytes := fun x hx => by
  have := s.may_iff.1 h
  simp only [St.bytes, List.mem_cons, List.not_mem_nil, or_false] at hx
  omega
theorem St.bytes_inj {s t : St} (h : s.bytes = t.bytes) : s = t := by
  obtain ⟨a, b, c⟩ := s
  obtain ⟨x, y, z⟩ := t
  simp only [St.bytes, List.cons.injEq, and_true] at h
  obtain ⟨h1, h2, rfl, rfl⟩ := h
  have : a = x := by omega
  rw [this]
def St.seed (s : St) : Nat := if s.may then sumL 32767 s.bytes else 0
theorem St.seed_lt (s : St) : s.seed < 32768 := by
  unfold St.seed
  split
  · exact sumL_lt (by decide) _
  · decide

/-- A frame. -/
structure F where
  k : Int
  st : St
  d : List Int
def F.is (f : F) : Bool := decide (1 ≤ f.k) && decide (f.k ≤ 3) && f.st.may && decide (f.d.length ≤ 8)
theorem F.is_iff (f : F) : f.is = true ↔ (1 ≤ f.k ∧ f.k ≤ 3) ∧ f.st.may = true ∧ f.d.length ≤ 8 := by
  simp [F.is, and_assoc]
def F.seed (f : F) : Nat := if f.k = 1 then f.st.seed else 0
theorem F.seed_lt (f : F) : f.seed < 32768 := by
  unfold F.seed
  split
  · exact St.seed_lt _
  · decide
/-- What comes ahead of the bytes. -/
def F.head (f : F) : List Int := (if f.k = 1 then [f.k] else f.k :: f.st.bytes) ++ [(f.d.length : Int)]
def F.body (f : F) : List Int := f.head ++ f.d
def F.bytes (f : F) : List Int := f.body ++ two (sumL f.seed f.body)
def F.hl (f : F) : Nat := if f.k = 1 then 2 else 6
theorem F.head_length (f : F) : f.head.length = f.hl := by
  unfold F.head F.hl
  split <;> simp [St.bytes]
theorem F.body_length (f : F) : f.body.length = f.hl + f.d.length := by rw [F.body, List.length_append, F.head_length]
theorem F.bytes_length (f : F) : f.bytes.length = f.hl + f.d.length + 2 := by rw [F.bytes, List.length_append, F.body_length]; rfl
theorem F.head_ok {f : F} (h : f.is = true) : okL f.head := fun x hx => by
  obtain ⟨hk, hs, hd⟩ := f.is_iff.1 h
  have hb := St.bytes_ok hs
  unfold F.head at hx
  rcases List.mem_append.1 hx with hx | hx
  · split at hx
    · rw [List.mem_singleton] at hx; omega
    · rcases List.mem_cons.1 hx with rfl | hx
      · omega
      · exact hb x hx
  · rw [List.mem_singleton] at hx; omega
theorem F.body_ok {f : F} (h : f.is = true) (hd : okL f.d) : okL f.body := (F.head_ok h).append hd
theorem F.bytes_ok {f : F} (h : f.is = true) (hd : okL f.d) : okL f.bytes := (F.body_ok h hd).append (two_ok (Nat.lt_trans (sumL_lt f.seed_lt _) (by decide)))

/-- What is read of a list of bytes, by a state: the kind, the told state, how many bytes, where they begin. -/
def kd (l : List Int) : Int := l.getD 0 0
def at_ (l : List Int) : Nat := if kd l = 1 then 1 else 5
def stOf (l : List Int) (own : St) : St := if kd l = 1 then own else ⟨l.getD 1 0 * 256 + l.getD 2 0, l.getD 3 0, l.getD 4 0⟩
def cnt (l : List Int) : Int := l.getD (at_ l) 0
def sdOf (l : List Int) (own : St) : Nat := if kd l = 1 then own.seed else 0
def formB (l : List Int) (own : St) : Bool :=
  decide (4 ≤ l.length) && own.may && decide (1 ≤ kd l) && decide (kd l ≤ 3) && (kd l == 1 || decide (8 ≤ l.length)) && (stOf l own).may && decide (cnt l ≤ 8) && decide ((l.length : Int) = at_ l + 1 + cnt l + 2)
def sumB (l : List Int) (own : St) : Bool := two (sumL (sdOf l own) (l.take (l.length - 2))) == l.drop (l.length - 2)
def rd (l : List Int) (own : St) : F := ⟨kd l, stOf l own, (l.drop (at_ l + 1)).take (cnt l).toNat⟩
def err (l : List Int) (own : St) : Int := if formB l own then (if sumB l own then 0 else 3) else 2
def zero : F := ⟨0, ⟨0, 0, 0⟩, []⟩
def res (l : List Int) (own : St) : F := if formB l own && sumB l own then rd l own else zero

theorem cut_tail (p t : List Int) (ht : t.length = 2) : (p ++ t).take ((p ++ t).length - 2) = p ∧ (p ++ t).drop ((p ++ t).length - 2) = t := by
  have : (p ++ t).length - 2 = p.length := by rw [List.length_append]; omega
  rw [this, List.take_left, List.drop_left]
  exact ⟨rfl, rfl⟩

theorem read_normal (d t : List Int) (own : St) (hd : d.length ≤ 8) (ht : t.length = 2) (ho : own.may = true) :
    formB (1 :: (d.length : Int) :: (d ++ t)) own = true ∧ rd (1 :: (d.length : Int) :: (d ++ t)) own = ⟨1, own, d⟩ ∧ sumB (1 :: (d.length : Int) :: (d ++ t)) own = (two (sumL own.seed (1 :: (d.length : Int) :: d)) == t) := by
  obtain ⟨h1, h2⟩ := cut_tail (1 :: (d.length : Int) :: d) t ht
  refine ⟨?_, ?_, ?_⟩
  · simp only [formB, kd, at_, cnt, stOf, List.getD_cons_zero, if_true, List.getD_cons_succ, ho, List.length_cons, List.length_append, Bool.and_eq_true, decide_eq_true_eq, Bool.or_eq_true, beq_iff_eq, true_or, and_true]
    omega
  · simp only [rd, kd, at_, cnt, stOf, List.getD_cons_zero, if_true, List.getD_cons_succ, Int.toNat_natCast, Nat.reduceAdd, List.drop_succ_cons, List.drop_zero, List.take_left]
  · show (two (sumL (sdOf (1 :: (d.length : Int) :: (d ++ t)) own) ((1 :: (d.length : Int) :: d ++ t).take _)) == (1 :: (d.length : Int) :: d ++ t).drop _) = _
    simp only [List.cons_append] at h1 h2 ⊢
    rw [h1, h2]
    simp [sdOf, kd]

theorem read_told (k : Int) (hk : 2 ≤ k ∧ k ≤ 3) (st : St) (hst : st.may = true) (d t : List Int) (own : St) (hd : d.length ≤ 8) (ht : t.length = 2) (ho : own.may = true) :
    formB (k :: (st.bytes ++ (d.length : Int) :: (d ++ t))) own = true ∧ rd (k :: (st.bytes ++ (d.length : Int) :: (d ++ t))) own = ⟨k, st, d⟩ ∧ sumB (k :: (st.bytes ++ (d.length : Int) :: (d ++ t))) own = (two (sumL 0 (k :: (st.bytes ++ (d.length : Int) :: d))) == t) := by
  obtain ⟨h1, h2⟩ := cut_tail (k :: (st.bytes ++ (d.length : Int) :: d)) t ht
  have hk1 : ¬ k = 1 := by omega
  have hk2 : (k == 1) = false := by simpa using hk1
  have hb := st.may_iff.1 hst
  have hst2 : (⟨st.r / 256 * 256 + st.r % 256, st.s, st.m⟩ : St) = st := by
    have : st.r / 256 * 256 + st.r % 256 = st.r := by omega
    rw [this]
  refine ⟨?_, ?_, ?_⟩
  · simp only [formB, kd, at_, cnt, stOf, St.bytes, List.cons_append, List.nil_append, List.getD_cons_zero, if_neg hk1, List.getD_cons_succ, hst2, hst, ho, hk2, List.length_cons, List.length_append, Bool.and_eq_true, decide_eq_true_eq, Bool.or_eq_true, Bool.false_eq_true, false_or, and_true]
    omega
  · simp only [rd, kd, at_, cnt, stOf, St.bytes, List.cons_append, List.nil_append, List.getD_cons_zero, if_neg hk1, List.getD_cons_succ, hst2, Int.toNat_natCast, Nat.reduceAdd, List.drop_succ_cons, List.drop_zero, List.take_left]
  · have e : k :: (st.bytes ++ (d.length : Int) :: (d ++ t)) = k :: (st.bytes ++ (d.length : Int) :: d) ++ t := by simp
    unfold sumB
    rw [e, h1, h2]
    simp [sdOf, kd, hk1]

theorem F.bytes_normal {f : F} (h : f.k = 1) : f.bytes = 1 :: (f.d.length : Int) :: (f.d ++ two (sumL f.st.seed (1 :: (f.d.length : Int) :: f.d))) := by
  simp [F.bytes, F.body, F.head, F.seed, h]
theorem F.bytes_told {f : F} (h : f.k ≠ 1) : f.bytes = f.k :: (f.st.bytes ++ (f.d.length : Int) :: (f.d ++ two (sumL 0 (f.k :: (f.st.bytes ++ (f.d.length : Int) :: f.d))))) := by
  simp [F.bytes, F.body, F.head, F.seed, h]

/-- What is written is read again: a Normal frame by a state of its seed, the others by any. -/
theorem back {f : F} (h : f.is = true) (own : St) (ho : own.may = true) :
    formB f.bytes own = true ∧ rd f.bytes own = ⟨f.k, if f.k = 1 then own else f.st, f.d⟩ ∧ (sumB f.bytes own = true ↔ (f.k = 1 → own.seed = f.st.seed)) := by
  obtain ⟨hk, hs, hd⟩ := f.is_iff.1 h
  by_cases h1 : f.k = 1
  · obtain ⟨a, b, c⟩ := read_normal f.d (two (sumL f.st.seed (1 :: (f.d.length : Int) :: f.d))) own hd rfl ho
    rw [F.bytes_normal h1, a, b, c, if_pos h1, h1]
    refine ⟨rfl, rfl, ?_⟩
    rw [beq_iff_eq]
    exact ⟨fun e _ => sumL_inj _ own.seed_lt f.st.seed_lt (two_inj e), fun e => by rw [e rfl]⟩
  · obtain ⟨a, b, c⟩ := read_told f.k (by omega) f.st hs f.d (two (sumL 0 (f.k :: (f.st.bytes ++ (f.d.length : Int) :: f.d)))) own hd rfl ho
    rw [F.bytes_told h1, a, b, c, if_neg h1]
    exact ⟨rfl, rfl, by simp [h1]⟩

theorem list_two : ∀ {l : List Int}, l.length = 2 → ∃ x y, l = [x, y]
  | [x, y], _ => ⟨x, y, rfl⟩
theorem tail_two (x : Nat) (rest : List Int) (h : rest.length = x + 2) : rest.take (rest.length - 2) = rest.take x := by rw [show rest.length - 2 = x by omega]
/-- What is read is written as it was. -/
theorem once {l : List Int} (hl : okL l) {own : St} (h : formB l own = true) (hs : sumB l own = true) : (rd l own).is = true ∧ (rd l own).bytes = l ∧ okL (rd l own).d := by
  simp only [formB, Bool.and_eq_true, decide_eq_true_eq, Bool.or_eq_true, beq_iff_eq] at h
  obtain ⟨⟨⟨⟨⟨⟨⟨h4, ho⟩, k1⟩, k3⟩, h8⟩, hst⟩, hc8⟩, hlen⟩ := h
  have hc0 : 0 ≤ cnt l := (hl.getD _).1
  have hdl : (rd l own).d.length = (cnt l).toNat := by
    simp only [rd, List.length_take, List.length_drop]
    omega
  have hsb := eq_of_beq hs
  have hL : l.take (l.length - 2) ++ two (sumL (sdOf l own) (l.take (l.length - 2))) = l := by rw [hsb, List.take_append_drop]
  have hbody : (rd l own).body = l.take (l.length - 2) := by
    clear hL hsb hs
    by_cases hk : kd l = 1
    · match l, hl, h4, hk, hc0, hlen, hdl with
      | a :: b :: rest, hl, h4, hk, hc0, hlen, hdl =>
        have ha : a = 1 := hk
        subst ha
        have hb : cnt (1 :: b :: rest) = b := rfl
        have hat : at_ (1 :: b :: rest) = 1 := rfl
        rw [hb] at hc0
        rw [hb, hat] at hlen
        simp only [List.length_cons] at hlen
        have hd : (rd (1 :: b :: rest) own).d = rest.take b.toNat := rfl
        have hd2 : (rest.take b.toNat).length = b.toNat := by rw [List.length_take]; omega
        show F.head _ ++ F.d _ = _
        rw [F.head, hd, hd2, show (rd (1 :: b :: rest) own).k = 1 from rfl, if_pos rfl, Int.toNat_of_nonneg hc0, show (1 :: b :: rest).length - 2 = (rest.length - 2) + 2 by simp only [List.length_cons]; omega, tail_two b.toNat rest (by omega) |>.symm]
        rfl
    · have h8' : 8 ≤ l.length := h8.resolve_left hk
      match l, hl, h8', hk, hc0, hlen, hdl with
      | a :: b :: c :: d :: e :: g :: rest, hl, h8', hk, hc0, hlen, hdl =>
        have ha : ¬ a = 1 := hk
        have hat : at_ (a :: b :: c :: d :: e :: g :: rest) = 5 := if_neg hk
        have hb : cnt (a :: b :: c :: d :: e :: g :: rest) = g := by rw [cnt, hat]; rfl
        rw [hb] at hc0
        rw [hb, hat] at hlen
        simp only [List.length_cons] at hlen
        have hd : (rd (a :: b :: c :: d :: e :: g :: rest) own).d = rest.take g.toNat := by simp only [rd, hb, hat]; rfl
        have hd2 : (rest.take g.toNat).length = g.toNat := by rw [List.length_take]; omega
        have hb1 := hl b (by simp)
        have hb2 := hl c (by simp)
        have hst2 : (rd (a :: b :: c :: d :: e :: g :: rest) own).st = ⟨b * 256 + c, d, e⟩ := by simp only [rd, stOf, if_neg hk]; rfl
        show F.head _ ++ F.d _ = _
        rw [F.head, hd, hd2, show (rd (a :: b :: c :: d :: e :: g :: rest) own).k = a from rfl, if_neg ha, hst2, Int.toNat_of_nonneg hc0, show (a :: b :: c :: d :: e :: g :: rest).length - 2 = (rest.length - 2) + 6 by simp only [List.length_cons]; omega, tail_two g.toNat rest (by omega) |>.symm]
        simp only [St.bytes]
        rw [show (b * 256 + c) / 256 = b by omega, show (b * 256 + c) % 256 = c by omega]
        rfl
  refine ⟨(F.is_iff _).2 ⟨⟨k1, k3⟩, hst, by omega⟩, ?_, (hl.drop _).take _⟩
  unfold F.bytes
  rw [hbody]
  have : (rd l own).seed = sdOf l own := by
    unfold F.seed sdOf rd stOf
    by_cases hk : kd l = 1 <;> simp [hk]
  rw [this, hL]
theorem getD_app {l m : List Int} {i : Nat} (h : i < l.length) : (l ++ m).getD i 0 = l.getD i 0 := by
  rw [List.getD_eq_getElem?_getD, List.getD_eq_getElem?_getD, List.getElem?_append_left h]
/-- No more and no less. -/
theorem just {l m : List Int} {own own' : St} (h : formB l own = true) (h' : formB (l ++ m) own' = true) : m = [] := by
  simp only [formB, Bool.and_eq_true, decide_eq_true_eq, Bool.or_eq_true, beq_iff_eq] at h h'
  obtain ⟨⟨⟨⟨⟨⟨⟨h4, -⟩, -⟩, -⟩, h8⟩, -⟩, -⟩, hlen⟩ := h
  obtain ⟨-, hlen'⟩ := h'
  have hk : kd (l ++ m) = kd l := getD_app (by omega)
  have hat : at_ (l ++ m) = at_ l := by rw [at_, at_, hk]
  have hc : cnt (l ++ m) = cnt l := by
    rw [cnt, cnt, hat]
    refine getD_app ?_
    unfold at_
    split
    · omega
    · rename_i hne
      have := h8.resolve_left hne
      omega
  rw [hat, hc, List.length_append] at hlen'
  exact List.length_eq_zero_iff.1 (by omega)
theorem cut_none {l : List Int} {own own' : St} (h : formB l own = true) {k : Nat} (hk : k < l.length) : formB (l.take k) own' = false := by
  rw [Bool.eq_false_iff]
  intro h2
  have h' : formB (l.take k ++ l.drop k) own = true := by rw [List.take_append_drop]; exact h
  have := congrArg List.length (just h2 h')
  rw [List.length_drop] at this
  simp at this
  omega
theorem more_none {l : List Int} {own own' : St} (h : formB l own = true) (x : Int) : formB (l ++ [x]) own' = false := by
  rw [Bool.eq_false_iff]
  intro h2
  cases just h h2

/-- The form hangs on the head and the length alone. -/
theorem form_alike {l l' : List Int} (own : St) (hlen : l'.length = l.length) (h : ∀ i, i ≤ at_ l → l'.getD i 0 = l.getD i 0) : formB l' own = formB l own := by
  have hk : kd l' = kd l := h 0 (Nat.zero_le _)
  have hat : at_ l' = at_ l := by rw [at_, at_, hk]
  have hc : cnt l' = cnt l := by rw [cnt, cnt, hat]; exact h _ (Nat.le_refl _)
  have hst : stOf l' own = stOf l own := by
    unfold stOf
    rw [hk]
    split
    · rfl
    · rename_i hne
      have : at_ l = 5 := if_neg hne
      rw [h 1 (by omega), h 2 (by omega), h 3 (by omega), h 4 (by omega)]
  unfold formB
  rw [hlen, hk, hat, hc, hst]

theorem getD_set_ne {l : List Int} {i j : Nat} {x : Int} (h : i ≠ j) : (l.set i x).getD j 0 = l.getD j 0 := by
  rw [List.getD_eq_getElem?_getD, List.getD_eq_getElem?_getD, List.getElem?_set_ne h]
theorem F.at_bytes (f : F) : at_ f.bytes + 1 = f.hl := by
  by_cases h1 : f.k = 1
  · have : kd f.bytes = 1 := by rw [F.bytes_normal h1]; rfl
    rw [at_, if_pos this, F.hl, if_pos h1]
  · have : kd f.bytes = f.k := by rw [F.bytes_told h1]; rfl
    rw [at_, this, if_neg h1, F.hl, if_neg h1]
theorem set_app_left {p q : List Int} {i : Nat} (h : i < p.length) (x : Int) : (p ++ q).set i x = p.set i x ++ q := List.set_append_left _ _ h
theorem set_app_right {p q : List Int} {i : Nat} (h : p.length ≤ i) (x : Int) : (p ++ q).set i x = p ++ q.set (i - p.length) x := List.set_append_right _ _ h
/-- A byte behind the head that is another: of the form, but of another sum. -/
theorem turned {f : F} (h : f.is = true) (hd : okL f.d) (own : St) (ho : own.may = true) (hown : f.k = 1 → own.seed = f.st.seed) {i : Nat} (hi : f.hl ≤ i) (hi2 : i < f.bytes.length) (x : Int) (hx : 0 ≤ x ∧ x < 256) (hne : x ≠ f.bytes.getD i 0) :
    formB (f.bytes.set i x) own = true ∧ sumB (f.bytes.set i x) own = false := by
  obtain ⟨hF, -, hS⟩ := back h own ho
  obtain ⟨hk, hs, hd8⟩ := f.is_iff.1 h
  have hat := F.at_bytes f
  have hform : formB (f.bytes.set i x) own = true := by
    rw [form_alike own (by simp) fun j hj => getD_set_ne (by omega)]
    exact hF
  refine ⟨hform, ?_⟩
  have hkd : kd (f.bytes.set i x) = kd f.bytes := getD_set_ne (by omega)
  have hsd : sdOf (f.bytes.set i x) own = sdOf f.bytes own := by unfold sdOf; rw [hkd]
  have hsum : sumB f.bytes own = true := hS.2 hown
  have hb : f.bytes = f.body ++ two (sumL f.seed f.body) := rfl
  have hsd2 : sdOf f.bytes own = f.seed := by
    have hkb : kd f.bytes = f.k := by
      by_cases h1 : f.k = 1
      · rw [F.bytes_normal h1, h1]; rfl
      · rw [F.bytes_told h1]; rfl
    unfold sdOf F.seed
    rw [hkb]
    split
    · rename_i h1; exact hown h1
    · rfl
  rw [Bool.eq_false_iff]
  intro h2
  unfold sumB at h2
  rw [hsd, hsd2, beq_iff_eq] at h2
  have hlen := F.bytes_length f
  have hbl := F.body_length f
  by_cases hib : i < f.body.length
  · rw [hb, set_app_left hib] at h2
    obtain ⟨e1, e2⟩ := cut_tail (f.body.set i x) (two (sumL f.seed f.body)) rfl
    rw [e1, e2] at h2
    have e3 := two_inj h2
    have hbi : f.bytes.getD i 0 = f.body[i] := by
      rw [hb, getD_app hib, List.getD_eq_getElem?_getD, List.getElem?_eq_getElem hib, Option.getD_some]
    have hpq : f.body = f.body.take i ++ f.body[i] :: f.body.drop (i + 1) := by simp
    have hpq2 : f.body.set i x = f.body.take i ++ x :: f.body.drop (i + 1) := by
      rw [List.set_eq_take_append_cons_drop, if_pos hib]
    have hby := F.body_ok h hd
    refine sum_turned (s := f.seed) (f.body.take i) (f.body.drop (i + 1)) x f.body[i] hx (hby _ (List.getElem_mem _)) (by rw [← hbi]; exact hne) ?_
    rw [← hpq2, ← hpq]
    exact e3
  · rw [hb, set_app_right (by omega)] at h2
    obtain ⟨e1, e2⟩ := cut_tail f.body ((two (sumL f.seed f.body)).set (i - f.body.length) x) (by simp [two])
    rw [e1, e2] at h2
    refine hne ?_
    rw [hb, List.getD_eq_getElem?_getD, List.getElem?_append_right (by omega)]
    have hi3 : i - f.body.length < (two (sumL f.seed f.body)).length := by simp [two]; omega
    have e4 := congrArg (fun l => l[i - f.body.length]?) h2
    simp only [List.getElem?_set_self hi3] at e4
    rw [e4]
    rfl

/-- Seeds of states that differ in one of their last two bytes. -/
theorem seed_members {s : St} (h : s.may = true) {x : Int} (hx : 0 ≤ x ∧ x ≤ 255) : (St.mk s.r s.s x).seed = s.seed ↔ x = s.m := by
  have hs := s.may_iff.1 h
  have h2 : (St.mk s.r s.s x).may = true := (St.may_iff _).2 ⟨hs.1, hs.2.1, hx.1, hx.2⟩
  unfold St.seed
  rw [if_pos h, if_pos h2]
  constructor
  · intro e
    apply Decidable.byContradiction
    intro hne
    exact sum_turned (s := 32767) [s.r / 256, s.r % 256, s.s] [] x s.m (by omega) (by omega) hne e
  · rintro rfl; rfl
theorem seed_slot {s : St} (h : s.may = true) {x : Int} (hx : 0 ≤ x ∧ x < 8) : (St.mk s.r x s.m).seed = s.seed ↔ x = s.s := by
  have hs := s.may_iff.1 h
  have h2 : (St.mk s.r x s.m).may = true := (St.may_iff _).2 ⟨hs.1, hx, hs.2.2⟩
  unfold St.seed
  rw [if_pos h, if_pos h2]
  constructor
  · intro e
    apply Decidable.byContradiction
    intro hne
    exact sum_turned (s := 32767) [s.r / 256, s.r % 256] [s.m] x s.s (by omega) (by omega) hne e
  · rintro rfl; rfl
end Fr
end Go.Proofs.YtpdenmcacaajkaaGreat
