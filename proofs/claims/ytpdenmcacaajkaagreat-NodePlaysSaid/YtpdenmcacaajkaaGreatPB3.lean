/- Texts CrcA, CrcB, CrcC, FrA, FrB, FrD in one. For what each says in front of its theorems. -/
import Derived.Deep.RegionHeld3
import Derived.Deep.RegionLaw
import Derived.RegionTactic
import Derived.Test.YtpdenmcacaajkaaGreatPB1
import Derived.Test.YtpdenmcacaajkaaGreatPB2
/-! ### CrcA -/
namespace Go.Proofs.YtpdenmcacaajkaaGreat
open Go.RowKit

/-- The digit that falls out, xored with the bit. -/
theorem top_of (n c r : Nat) (hn : n < 32768) :
    bits BinOp.xor IntKind.i64 ((n : Int) / 16384) (bits BinOp.and IntKind.i64 ((c : Int) / 2 ^ r) 1) = if (n.testBit 14 != c.testBit r) then 1 else 0 := by
  have e1 : ((n : Int) / 16384) = ((n / 16384 : Nat) : Int) := by omega
  have e2 : bits BinOp.and IntKind.i64 ((c : Int) / 2 ^ r) 1 = ((c / 2 ^ r % 2 : Nat) : Int) := by
    have e : ((c : Int) / 2 ^ r) = ((c / 2 ^ r : Nat) : Int) := by
      rw [Int.natCast_ediv, Int.natCast_pow]; rfl
    rw [e]
    have hle : c / 2 ^ r ≤ c := Nat.div_le_self _ _
    show IntKind.i64.wrap ((BitVec.ofInt 64 ((c / 2 ^ r : Nat) : Int) &&& BitVec.ofInt 64 1).toNat : Int) = _
    rw [BitVec.toNat_and, show (BitVec.ofInt 64 1).toNat = 2 ^ 1 - 1 by decide, Nat.and_two_pow_sub_one_eq_mod, BitVec.toNat_ofInt, IntKind.wrap_i64]
    omega
  have h2 : c / 2 ^ r % 2 < 2 := Nat.mod_lt _ (by omega)
  rw [e1, e2, Cr.xor_small (by omega) (by omega), Nat.testBit_eq_decide_div_mod_eq, Nat.testBit_eq_decide_div_mod_eq]
  have h1 : n / 16384 < 2 := by omega
  have h3 : n / 2 ^ 14 % 2 = n / 16384 := by omega
  rw [h3]
  generalize n / 16384 = x at *
  generalize c / 2 ^ r % 2 = y at *
  have : x = 0 ∨ x = 1 := by omega
  have : y = 0 ∨ y = 1 := by omega
  rcases ‹x = 0 ∨ x = 1› with rfl | rfl <;> rcases ‹y = 0 ∨ y = 1› with rfl | rfl <;> decide
/-- The rest, times two. -/
theorem dbl_of (n : Nat) : bits BinOp.and IntKind.i64 ((n : Int) * 2) 32767 = ((2 * n % 32768 : Nat) : Int) := by
  rw [Cr.and_sd]
  unfold Cr.sd
  omega
theorem bit1_on {n : Nat} {b : Bool} (h : (n.testBit 14 != b) = true) : bits BinOp.xor IntKind.i64 (bits BinOp.and IntKind.i64 ((n : Int) * 2) 32767) 17817 = ((Cr.bit1 n b : Nat) : Int) := by
  rw [dbl_of n, Cr.bit1, if_pos h]
  exact Cr.xor_small (n := 17817) (by omega) (by omega)
theorem bit1_off {n : Nat} {b : Bool} (h : (n.testBit 14 != b) = false) : bits BinOp.and IntKind.i64 ((n : Int) * 2) 32767 = ((Cr.bit1 n b : Nat) : Int) := by
  rw [dbl_of n, Cr.bit1, if_neg (by rw [h]; decide)]

theorem step_any (n c : Nat) (w : World) (hn : n < 32768) :
    Calls Tryz.prog 164 #[.int .i64 n, .int .i64 c] w fun e w' => e = .returned (.int .i64 (Cr.byte1 n c : Nat)) ∧ w = w' := by
  go_enter Tryz.func164, Tryz.ntmps164
  go_wp2
  go_loop [0, 5, 6] (fun s i _ => ∃ j r : Nat, s = .int .i64 (Cr.byteTo n c j : Nat) ∧ ((r < 8 ∧ i = .int .i64 r ∧ j + r = 7) ∨ (r = 8 ∧ i = .int .i64 (-1) ∧ j = 8))) (fun _ i _ => ((intOf i) + 1).toNat)
  case atStart => exact ⟨0, 7, rfl, .inl ⟨by omega, rfl, rfl⟩⟩
  case round =>
    obtain ⟨j, r, rfl, hr⟩ := hrel
    rcases hr with ⟨hr8, rfl, hjr⟩ | ⟨rfl, rfl, rfl⟩
    · have hm := Cr.byteTo_lt hn c j
      have hj1 : j + r ≤ 7 := by omega
      have hj2 : 7 ≤ j + r := by omega
      have ht := top_of (Cr.byteTo n c j) c r hm
      have HS := Lib.hid (show Cr.byteTo n c (j + 1) = Cr.bit1 (Cr.byteTo n c j) (c.testBit r) by rw [Cr.byteTo, show 7 - j = r by omega])
      clear hjr
      have H1 := fun h => Lib.hid (bit1_on (n := Cr.byteTo n c j) (b := c.testBit r) h)
      have H2 := fun h => Lib.hid (bit1_off (n := Cr.byteTo n c j) (b := c.testBit r) h)
      have hbb : ((Cr.byteTo n c j).testBit 14 != c.testBit r) = true ∨ ((Cr.byteTo n c j).testBit 14 != c.testBit r) = false := by cases ((Cr.byteTo n c j).testBit 14 != c.testBit r) <;> simp
      rcases hbb with hb | hb
      case' inl =>
        have HV := Lib.hid (HS.out ▸ (H1 hb).out : _ = ((Cr.byteTo n c (j + 1) : Nat) : Int))
        rw [hb, if_pos rfl] at ht
      case' inr =>
        have HV := Lib.hid (HS.out ▸ (H2 hb).out : _ = ((Cr.byteTo n c (j + 1) : Nat) : Int))
        rw [hb, if_neg (by decide)] at ht
      all_goals
        clear H1 H2 HS hb
        generalize Cr.byteTo n c j = m at *
        rcases Nat.eq_zero_or_pos r with h0 | h0
        case' inl =>
          subst h0
          rw [Int.pow_zero, Int.ediv_one] at ht
        case' inr => obtain ⟨r, rfl⟩ : ∃ r', r = r' + 1 := ⟨r - 1, by omega⟩
        all_goals
          go_wp2
          go_round
          case rel => first | exact ⟨j + 1, r, by rw [HV.out], .inl ⟨by omega, by go_num, by omega⟩⟩ | exact ⟨j + 1, 8, by rw [HV.out], .inr ⟨rfl, rfl, by omega⟩⟩
          case measure => simp [intOf]; try omega
    · go_wp2
      go_ret
      exact ⟨rfl, rfl⟩
end Go.Proofs.YtpdenmcacaajkaaGreat

/-! ### CrcB -/
namespace Go.Proofs.YtpdenmcacaajkaaGreat
open Go.RowKit

theorem sum_any (L : Option Addr) (m C B : Nat) (A : Nat → Option Addr) (N c : Nat → Nat) (z : Nat → Nat → Int) (a : Int) (w : World)
    (h : Sees w B L m fun i => .slice (A i) (N i) (c i)) (hrow : ∀ i, i < m → Sees w B (A i) (N i) fun k => .int .u8 (z i k)) (hz : ∀ i k, i < m → k < N i → 0 ≤ z i k ∧ z i k < 256) (hm : m ≤ maxLen) (hN : ∀ i, i < m → N i ≤ maxLen) :
    Calls Tryz.prog 144 #[.int .i64 a, .slice L m C] w fun e w' => e = .returned (.int .i64 (Cr.rowsTo (Cr.sd a) z N m : Nat)) ∧ w = w' := by
  unfold maxLen at hm hN
  have hsd := Cr.sd_lt a
  have hand := Cr.and_sd a
  go_enter Tryz.func144, Tryz.ntmps144
  go_wp2
  clear hand
  go_loop [5, 14] (fun s i => ∃ k : Nat, k ≤ m ∧ i = .int .i64 k ∧ s = .int .i64 (Cr.rowsTo (Cr.sd a) z N k : Nat)) (fun _ i => m - (intOf i).toNat)
  case atStart => exact ⟨0, by omega, rfl, rfl⟩
  case round =>
    obtain ⟨i, hi, rfl, rfl⟩ := hrel
    by_cases hlt : i < m
    · obtain ⟨b0, off, rfl, hbb, hcell⟩ := h (by omega)
      have hx : w.cell? ⟨b0, off + i, none⟩ = some (.slice (A i) (N i) (c i)) := hcell i hlt
      have hni := hN i hlt
      have hs := hrow i hlt
      have hzi := fun k => hz i k hlt
      have hn := Cr.rowsTo_lt hsd z N i
      have HS := Lib.hid (show Cr.rowsTo (Cr.sd a) z N (i + 1) = Cr.sumTo (Cr.rowsTo (Cr.sd a) z N i) (z i) (N i) from rfl)
      generalize Cr.rowsTo (Cr.sd a) z N i = n at *
      clear hcell
      go_wp2
      go_loop [5, 20] (fun s j => ∃ k : Nat, k ≤ N i ∧ j = .int .i64 k ∧ s = .int .i64 (Cr.sumTo n (z i) k : Nat)) (fun _ j => N i - (intOf j).toNat)
      case atStart => exact ⟨0, by omega, rfl, rfl⟩
      case round =>
        obtain ⟨k, hk, rfl, rfl⟩ := hrel
        by_cases hlk : k < N i
        · obtain ⟨b1, off1, hA, hbb1, hcell1⟩ := hs (by omega)
          rw [hA]
          have hy : w.cell? ⟨b1, off1 + k, none⟩ = some (.int .u8 (z i k)) := hcell1 k hlk
          have hzk := hzi k hlk
          obtain ⟨x, hxz⟩ := Int.eq_ofNat_of_zero_le hzk.1
          have HK := Lib.hid (show Cr.sumTo n (z i) (k + 1) = Cr.byte1 (Cr.sumTo n (z i) k) x by rw [Cr.sumTo, hxz]; rfl)
          rw [hxz] at hy
          have hx2 : x < 256 := by omega
          have hl := Cr.sumTo_lt hn (z i) k
          clear hcell1 hA hxz hzk hx
          go_wp2_with (go_at_call 164; refine (step_any _ x _ hl).mono ?_; rintro e w' ⟨rfl, rfl⟩)
          go_round
          case rel => exact ⟨k + 1, by omega, by go_num, by rw [HK.out]⟩
          case measure => simp [intOf]; omega
        · obtain rfl : k = N i := by omega
          go_wp2
          go_round
          case rel => exact ⟨i + 1, by omega, by go_num, by rw [HS.out]⟩
          case measure => simp [intOf]; omega
    · obtain rfl : i = m := by omega
      go_wp2
      go_ret
      exact ⟨rfl, rfl⟩

theorem u8_bit (x r : Nat) (hx : x < 256) : bits BinOp.and IntKind.u8 ((x : Int) / 2 ^ r) 1 = bits BinOp.and IntKind.i64 ((x : Int) / 2 ^ r) 1 := by
  have e : ((x : Int) / 2 ^ r) = ((x / 2 ^ r : Nat) : Int) := by
    rw [Int.natCast_ediv, Int.natCast_pow]; rfl
  have hle : x / 2 ^ r ≤ x := Nat.div_le_self _ _
  rw [e]
  generalize x / 2 ^ r = y at *
  have h1 : bits BinOp.and IntKind.i64 (y : Int) 1 = ((y % 2 : Nat) : Int) := by
    show IntKind.i64.wrap ((BitVec.ofInt 64 (y : Int) &&& BitVec.ofInt 64 1).toNat : Int) = _
    rw [BitVec.toNat_and, show (BitVec.ofInt 64 1).toNat = 2 ^ 1 - 1 by decide, Nat.and_two_pow_sub_one_eq_mod, BitVec.toNat_ofInt, IntKind.wrap_i64]
    omega
  have h2 : bits BinOp.and IntKind.u8 (y : Int) 1 = ((y % 2 : Nat) : Int) := by
    have := u8_and_nat y 1 (by omega) (by omega)
    rw [show ((1 : Nat) : Int) = 1 from rfl] at this
    rw [this, Nat.and_one_is_mod]
  rw [h1, h2]
theorem u8_bit_le (x r : Nat) (hx : x < 256) : 0 ≤ bits BinOp.and IntKind.u8 ((x : Int) / 2 ^ r) 1 ∧ bits BinOp.and IntKind.u8 ((x : Int) / 2 ^ r) 1 ≤ 1 := by
  have e : ((x : Int) / 2 ^ r) = ((x / 2 ^ r : Nat) : Int) := by
    rw [Int.natCast_ediv, Int.natCast_pow]; rfl
  have hle : x / 2 ^ r ≤ x := Nat.div_le_self _ _
  rw [e]
  generalize x / 2 ^ r = y at *
  have := u8_and_nat y 1 (by omega) (by omega)
  rw [show ((1 : Nat) : Int) = 1 from rfl] at this
  rw [this, Nat.and_one_is_mod]
  omega

set_option maxHeartbeats 400000 in
theorem refSum_any (A : Option Addr) (n c B : Nat) (z : Nat → Int) (a : Int) (w : World) (h : Sees w B A n fun k => .int .u8 (z k)) (hz : ∀ k, k < n → 0 ≤ z k ∧ z k < 256) (hn : n ≤ maxLen) :
    Calls Tryz.prog 147 #[.int .i64 a, .slice A n c] w fun e w' => e = .returned (.int .i64 (Cr.sumTo (Cr.sd a) z n : Nat)) ∧ w = w' := by
  unfold maxLen at hn
  have hsd := Cr.sd_lt a
  have hand := Cr.and_sd a
  go_enter Tryz.func147, Tryz.ntmps147
  go_wp2
  clear hand
  go_loop [5, 6] (fun s i => ∃ k : Nat, k ≤ n ∧ i = .int .i64 k ∧ s = .int .i64 (Cr.sumTo (Cr.sd a) z k : Nat)) (fun _ i => n - (intOf i).toNat)
  case atStart => exact ⟨0, by omega, rfl, rfl⟩
  case round =>
    obtain ⟨k, hk, rfl, rfl⟩ := hrel
    by_cases hlt : k < n
    · obtain ⟨b1, off1, rfl, hbb1, hcell1⟩ := h (by omega)
      have hy : w.cell? ⟨b1, off1 + k, none⟩ = some (.int .u8 (z k)) := hcell1 k hlt
      have hzk := hz k hlt
      obtain ⟨x, hxz⟩ := Int.eq_ofNat_of_zero_le hzk.1
      have HK := Lib.hid (show Cr.sumTo (Cr.sd a) z (k + 1) = Cr.byte1 (Cr.sumTo (Cr.sd a) z k) x by rw [Cr.sumTo, hxz]; rfl)
      rw [hxz] at hy
      have hx2 : x < 256 := by omega
      have hl := Cr.sumTo_lt hsd z k
      have q2 : decide (k < n) = true := by simp; omega
      have q3 : (k : Int) < n := by omega
      generalize Cr.sumTo (Cr.sd a) z k = s at *
      clear hcell1 hxz hzk
      go_wp2
      go_loop [5, 7, 8] (fun v i _ => ∃ j r : Nat, v = .int .i64 (Cr.byteTo s x j : Nat) ∧ ((r < 8 ∧ i = .int .i64 r ∧ j + r = 7) ∨ (r = 8 ∧ i = .int .i64 (-1) ∧ j = 8))) (fun _ i _ => ((intOf i) + 1).toNat)
      case atStart => exact ⟨0, 7, rfl, .inl ⟨by omega, rfl, rfl⟩⟩
      case round =>
        obtain ⟨j, r, rfl, hr⟩ := hrel
        rcases hr with ⟨hr8, rfl, hjr⟩ | ⟨rfl, rfl, rfl⟩
        · have hm := Cr.byteTo_lt hl x j
          have hj1 : j + r ≤ 7 := by omega
          have hj2 : 7 ≤ j + r := by omega
          have ht := top_of (Cr.byteTo s x j) x r hm
          rw [← u8_bit x r hx2] at ht
          obtain ⟨h80, h81⟩ := u8_bit_le x r hx2
          have HS := Lib.hid (show Cr.byteTo s x (j + 1) = Cr.bit1 (Cr.byteTo s x j) (x.testBit r) by rw [Cr.byteTo, show 7 - j = r by omega])
          clear hjr
          have H1 := fun h => Lib.hid (bit1_on (n := Cr.byteTo s x j) (b := x.testBit r) h)
          have H2 := fun h => Lib.hid (bit1_off (n := Cr.byteTo s x j) (b := x.testBit r) h)
          have hbb : ((Cr.byteTo s x j).testBit 14 != x.testBit r) = true ∨ ((Cr.byteTo s x j).testBit 14 != x.testBit r) = false := by cases ((Cr.byteTo s x j).testBit 14 != x.testBit r) <;> simp
          rcases hbb with hb | hb
          case' inl =>
            have HV := Lib.hid (HS.out ▸ (H1 hb).out : _ = ((Cr.byteTo s x (j + 1) : Nat) : Int))
            rw [hb, if_pos rfl] at ht
          case' inr =>
            have HV := Lib.hid (HS.out ▸ (H2 hb).out : _ = ((Cr.byteTo s x (j + 1) : Nat) : Int))
            rw [hb, if_neg (by decide)] at ht
          all_goals
            clear H1 H2 HS hb
            generalize Cr.byteTo s x j = m at *
            rcases Nat.eq_zero_or_pos r with h0 | h0
            case' inl =>
              subst h0
              rw [Int.pow_zero, Int.ediv_one] at ht h80 h81
            case' inr => obtain ⟨r, rfl⟩ : ∃ r', r = r' + 1 := ⟨r - 1, by omega⟩
            all_goals
              go_wp2
              go_round
              case rel => first | exact ⟨j + 1, r, by rw [HV.out], .inl ⟨by omega, by go_num, by omega⟩⟩ | exact ⟨j + 1, 8, by rw [HV.out], .inr ⟨rfl, rfl, by omega⟩⟩
              case measure => simp [intOf]; try omega
        · go_wp2
          go_round
          case rel => exact ⟨k + 1, by omega, by go_num, by rw [HK.out]; rfl⟩
          case measure => simp [intOf]; omega
    · obtain rfl : k = n := by omega
      go_wp2
      go_ret
      exact ⟨rfl, rfl⟩

/-- One row in a new list, and its sum. -/
theorem sees_only (w : World) (B : Nat) (e : TypeId) (u : Value) (hB : w.heap.size < B) (V : Nat → Value) (hV : V 0 = u) : Sees (w.alloc (.cells #[u] e)) B (some ⟨w.heap.size, 0, none⟩) 1 V := fun _ =>
  ⟨_, _, rfl, hB, fun k hk => by
    obtain rfl : k = 0 := by omega
    rw [World.cell?_alloc_at _ _ _ _ rfl, hV]
    rfl⟩
theorem sum_one (A : Option Addr) (n c : Nat) (z : Nat → Int) (a : Int) (w : World) (e : TypeId) (g : Nat) (hg : g = w.heap.size) (h : Sees w w.heap.size A n fun k => .int .u8 (z k)) (hz : ∀ k, k < n → 0 ≤ z k ∧ z k < 256) (hn : n ≤ maxLen) :
    Calls Tryz.prog 144 #[.int .i64 a, .slice (some ⟨g, 0, none⟩) 1 1] (w.alloc (.cells #[.slice A n c] e)) fun e' w' => e' = .returned (.int .i64 (Cr.sumTo (Cr.sd a) z n : Nat)) ∧ w.alloc (.cells #[.slice A n c] e) = w' := by
  subst hg
  exact sum_any _ 1 1 (w.heap.size + 1) (fun _ => A) (fun _ => n) (fun _ => c) (fun _ => z) a _ (sees_only w _ e _ (by omega) _ rfl) (fun i _ => (h.below ((Below.refl _ _).alloc (Nat.le_refl _) _)).more (by omega)) (fun i k _ hk => hz k hk) (by unfold maxLen; omega) (fun _ _ => hn)

theorem sum_at (A : Option Addr) (n c : Nat) (z : Nat → Int) (a : Int) (W : World) (B g : Nat) (hc : W.cell? ⟨g, 0, none⟩ = some (.slice A n c)) (hB : B ≤ W.heap.size) (h : Sees W B A n fun k => .int .u8 (z k)) (hz : ∀ k, k < n → 0 ≤ z k ∧ z k < 256) (hn : n ≤ maxLen) :
    Calls Tryz.prog 144 #[.int .i64 a, .slice (some ⟨g, 0, none⟩) 1 1] W fun e' w' => e' = .returned (.int .i64 (Cr.sumTo (Cr.sd a) z n : Nat)) ∧ W = w' := by
  refine sum_any _ 1 1 W.heap.size (fun _ => A) (fun _ => n) (fun _ => c) (fun _ => z) a W (fun _ => ⟨g, 0, rfl, World.block_lt_of_cell? W _ hc, fun k hk => ?_⟩) (fun i _ => h.more hB) (fun i k _ hk => hz k hk) (by unfold maxLen; omega) (fun _ _ => hn)
  obtain rfl : k = 0 := by omega
  exact hc
end Go.Proofs.YtpdenmcacaajkaaGreat

/-! ### CrcC -/
namespace Go.Proofs.YtpdenmcacaajkaaGreat
open Go.ChangeShapes Go.WideShapes Go.ChangeAt Go.RowKit

def twoOf {α : Type} (x y : α) (i : Nat) : α := if i = 0 then x else y
theorem sees_pair (w : World) (B : Nat) (e : TypeId) (A0 A1 : Option Addr) (n0 n1 c0 c1 : Nat) (hB : w.heap.size < B) :
    Sees (w.alloc (.cells #[.slice A0 n0 c0, .slice A1 n1 c1] e)) B (some ⟨w.heap.size, 0, none⟩) 2 fun i => .slice (twoOf A0 A1 i) (twoOf n0 n1 i) (twoOf c0 c1 i) := fun _ =>
  ⟨_, _, rfl, hB, fun k hk => by
    rw [World.cell?_alloc_at _ _ _ _ rfl]
    have : k = 0 ∨ k = 1 := by omega
    rcases this with rfl | rfl <;> rfl⟩
theorem sum_pair (A0 A1 : Option Addr) (n0 n1 c0 c1 : Nat) (z0 z1 : Nat → Int) (a : Int) (w : World) (e : TypeId) (g : Nat) (hg : g = w.heap.size) (h0 : Sees w w.heap.size A0 n0 fun k => .int .u8 (z0 k)) (h1 : Sees w w.heap.size A1 n1 fun k => .int .u8 (z1 k))
    (hz0 : ∀ k, k < n0 → 0 ≤ z0 k ∧ z0 k < 256) (hz1 : ∀ k, k < n1 → 0 ≤ z1 k ∧ z1 k < 256) (hn0 : n0 ≤ maxLen) (hn1 : n1 ≤ maxLen) :
    Calls Tryz.prog 144 #[.int .i64 a, .slice (some ⟨g, 0, none⟩) 2 2] (w.alloc (.cells #[.slice A0 n0 c0, .slice A1 n1 c1] e)) fun e' w' => e' = .returned (.int .i64 (Cr.sumTo (Cr.sumTo (Cr.sd a) z0 n0) z1 n1 : Nat)) ∧ w.alloc (.cells #[.slice A0 n0 c0, .slice A1 n1 c1] e) = w' := by
  subst hg
  have hb : Below w.heap.size w (w.alloc (.cells #[.slice A0 n0 c0, .slice A1 n1 c1] e)) := (Below.refl _ _).alloc (Nat.le_refl _) _
  refine sum_any _ 2 2 (w.heap.size + 1) (twoOf A0 A1) (twoOf n0 n1) (twoOf c0 c1) (twoOf z0 z1) a _ (sees_pair w _ e A0 A1 n0 n1 c0 c1 (by omega)) ?_ ?_ (by unfold maxLen; omega) ?_
  · intro i hi
    have : i = 0 ∨ i = 1 := by omega
    rcases this with rfl | rfl
    · exact (h0.below hb).more (by omega)
    · exact (h1.below hb).more (by omega)
  · intro i k hi hk
    have : i = 0 ∨ i = 1 := by omega
    rcases this with rfl | rfl
    · exact hz0 k hk
    · exact hz1 k hk
  · intro i hi
    have : i = 0 ∨ i = 1 := by omega
    rcases this with rfl | rfl
    · exact hn0
    · exact hn1
theorem sum_none (a : Int) (w : World) : Calls Tryz.prog 144 #[.int .i64 a, .slice none 0 0] w fun e' w' => e' = .returned (.int .i64 (Cr.sd a : Nat)) ∧ w = w' :=
  sum_any none 0 0 0 (fun _ => none) (fun _ => 0) (fun _ => 0) (fun _ _ => 0) a w Sees.none_ (fun i hi => absurd hi (by omega)) (fun i k hi => absurd hi (by omega)) (by unfold maxLen; omega) (fun i hi => absurd hi (by omega))
end Go.Proofs.YtpdenmcacaajkaaGreat

/-! ### FrA -/
namespace Go.Proofs.YtpdenmcacaajkaaGreat
open Go.RowKit
open Fr (St F)

def stV (s : St) : Value := .agg #[.int .i64 s.r, .int .i64 s.s, .int .i64 s.m]
def frV (f : F) (v : Value) : Value := .agg #[.int .i64 f.k, .int .i64 f.st.r, .int .i64 f.st.s, .int .i64 f.st.m, v]

theorem may_ref (s : St) (w : World) : Calls Tryz.prog 146 #[stV s] w fun e w' => e = .returned (.bool s.may) ∧ Below w.heap.size w w' := by
  obtain ⟨r, s, m⟩ := s
  unfold stV
  go_enter Tryz.func146, Tryz.ntmps146
  go_wp2
  all_goals
    go_ret
    exact ⟨by simp [St.may, *] <;> omega, (Below.refl _ _).alloc (Nat.le_refl _) _⟩

theorem state_ref (s : St) (hs : s.may = true) (w : World) :
    Calls Tryz.prog 116 #[stV s] w fun e w' => ∃ v, e = .returned v ∧ OwnsL w' w.heap.size v s.bytes ∧ Below w.heap.size w w' := by
  obtain ⟨⟨h1, h2⟩, ⟨h3, h4⟩, h5, h6⟩ := s.may_iff.1 hs
  obtain ⟨r, s, m⟩ := s
  simp only at h1 h2 h3 h4 h5 h6
  unfold stV
  clear hs
  go_enter Tryz.func116, Tryz.ntmps116
  go_wp2
  go_ret
  exact ⟨_, rfl, owns_lit _ _ rfl _ [r / 256, r % 256, s, m] rfl _ (by simp) (by simp [maxLen]) _ _ _ (by simp) rfl rfl, ((Below.refl _ _).alloc (Nat.le_refl _) _).alloc (by simp) _⟩

/-- What a block that was there bears, behind a call. -/
theorem bcell {W w1 : World} {B : Nat} (hb : Below B W w1) : ∀ b o, b < B → w1.cell? ⟨b, o, none⟩ = W.cell? ⟨b, o, none⟩ := fun b o h => hb.cell (p := ⟨b, o, none⟩) h

/-- A new block of five cells, and what reads it behind calls. -/
structure Box5 (w w0 : World) (x0 x1 x2 x3 x4 : Value) : Prop where
  size : w0.heap.size = w.heap.size + 1
  below : Below w.heap.size w w0
  cell : ∀ W, Below w0.heap.size w0 W → w.heap.size < W.heap.size ∧ W.cell? ⟨w.heap.size, 0, none⟩ = some x0 ∧ W.cell? ⟨w.heap.size, 1, none⟩ = some x1 ∧ W.cell? ⟨w.heap.size, 2, none⟩ = some x2 ∧ W.cell? ⟨w.heap.size, 3, none⟩ = some x3 ∧ W.cell? ⟨w.heap.size, 4, none⟩ = some x4
theorem box5 (w : World) (x0 x1 x2 x3 x4 : Value) (t : TypeId) : Box5 w (w.alloc (.cells #[x0, x1, x2, x3, x4] t)) x0 x1 x2 x3 x4 := by
  refine ⟨by simp, (Below.refl _ _).alloc (Nat.le_refl _) _, fun W hb => ?_⟩
  have hz := hb.size
  have hc := bcell hb
  simp only [World.size_alloc] at hz
  refine ⟨by omega, ?_, ?_, ?_, ?_, ?_⟩ <;> (rw [hc _ _ (by simp), World.cell?_alloc_at _ _ _ _ rfl]; rfl)
structure Box3 (w w0 : World) (x0 x1 x2 : Value) : Prop where
  size : w0.heap.size = w.heap.size + 1
  below : Below w.heap.size w w0
  cell : ∀ W, Below w0.heap.size w0 W → w.heap.size < W.heap.size ∧ W.cell? ⟨w.heap.size, 0, none⟩ = some x0 ∧ W.cell? ⟨w.heap.size, 1, none⟩ = some x1 ∧ W.cell? ⟨w.heap.size, 2, none⟩ = some x2
theorem box3 (w : World) (x0 x1 x2 : Value) (t : TypeId) : Box3 w (w.alloc (.cells #[x0, x1, x2] t)) x0 x1 x2 := by
  refine ⟨by simp, (Below.refl _ _).alloc (Nat.le_refl _) _, fun W hb => ?_⟩
  have hz := hb.size
  have hc := bcell hb
  simp only [World.size_alloc] at hz
  refine ⟨by omega, ?_, ?_, ?_⟩ <;> (rw [hc _ _ (by simp), World.cell?_alloc_at _ _ _ _ rfl]; rfl)

theorem is_ref (f : F) (v : Value) (w : World) (B : Nat) (hv : SeesL w B v f.d) :
    Calls Tryz.prog 114 #[frV f v] w fun e w' => e = .returned (.bool f.is) ∧ Below w.heap.size w w' := by
  obtain ⟨A, c, rfl, h1, h2, -, -⟩ := hv.at_
  unfold maxLen at h2
  obtain ⟨k, ⟨r, s, m⟩, d⟩ := f
  simp only at h1
  have hm := fun W => may_ref ⟨r, s, m⟩ W
  have hr : ∀ b : Bool, b = (⟨r, s, m⟩ : St).may → F.is ⟨k, ⟨r, s, m⟩, d⟩ = (decide (1 ≤ k) && decide (k ≤ 3) && b && decide (d.length ≤ 8)) := fun b hb => by rw [hb]; rfl
  generalize (⟨r, s, m⟩ : St).may = b at *
  rw [hr b rfl]
  clear hr
  unfold frV
  generalize d.length = n at *
  by_cases h0 : 1 ≤ k <;> by_cases h3 : k ≤ 3 <;> cases b
  all_goals try (exfalso; omega)
  all_goals
    go_enter Tryz.func114, Tryz.ntmps114
    go_wp2_with (go_at_call 146; refine (hm _).mono ?_; rintro e w1 ⟨rfl, hb⟩; have hc := bcell hb; have hb := ((Below.refl w.heap.size w).alloc (Nat.le_refl _) _).trans (hb.mono (by simp)))
    go_ret
    first
      | exact ⟨by simp [*] <;> omega, hb⟩
      | exact ⟨by simp [*] <;> omega, (Below.refl _ _).alloc (Nat.le_refl _) _⟩

theorem seed_ref (s : St) (w : World) : Calls Tryz.prog 115 #[stV s] w fun e w' => e = .returned (.int .i64 (s.seed : Nat)) ∧ Below w.heap.size w w' := by
  have hm := fun W => may_ref s W
  have hst := fun h W => state_ref s h W
  have hsd : s.may = true → s.seed = Fr.sumL 32767 s.bytes := fun h => by rw [St.seed, if_pos h]
  have hsd0 : s.may = false → s.seed = 0 := fun h => by rw [St.seed, if_neg (by rw [h]; decide)]
  have hok : s.may = true → ∀ k, 0 ≤ s.bytes.getD k 0 ∧ s.bytes.getD k 0 < 256 := fun h k => (St.bytes_ok h).getD k
  have hsum := fun A c W B (h : Sees W B A s.bytes.length (bv s.bytes)) hz => refSum_any A s.bytes.length c B (fun k => s.bytes.getD k 0) 32767 W h hz (by simp [St.bytes, maxLen])
  have h32 : Cr.sd 32767 = 32767 := by decide
  simp only [Fr.sum_all, h32] at hsum
  cases hb : s.may
  · rw [hb] at hm
    rw [hsd0 hb]
    clear hst hsd hsd0 hok hsum h32 hb
    have hm := fun W => Lib.hid (hm W)
    unfold stV at hm ⊢
    go_enter Tryz.func115, Tryz.ntmps115
    go_wp2_with (go_at_call 146; refine (hm _).out.mono ?_; rintro e w1 ⟨rfl, hb⟩; have hb := ((Below.refl w.heap.size w).alloc (Nat.le_refl _) _).trans (hb.mono (by simp)))
    go_ret
    exact ⟨rfl, hb⟩
  · rw [hb] at hm
    have hm := fun W => Lib.hid (hm W)
    have hst := fun W => Lib.hid (hst hb W)
    have hok := Lib.hid (hok hb)
    have hsum := fun A c W B h hz => Lib.hid (hsum A c W B h hz)
    rw [hsd hb]
    generalize s.bytes = l at *
    clear hsd hsd0 h32 hb
    unfold stV at hm hst ⊢
    go_enter Tryz.func115, Tryz.ntmps115
    go_wp2_with (go_at_call 146; refine (hm _).out.mono ?_; rintro e w1 ⟨rfl, hb⟩; have hc := bcell hb; have hz := hb.size; simp only [World.size_alloc] at hz; have hb := ((Below.refl w.heap.size w).alloc (Nat.le_refl _) _).trans (hb.mono (by simp)))
    clear hm
    refine (hst _).out.mono ?_
    rintro e w2 ⟨v, rfl, ho, hb2⟩
    have hb := hb.trans (hb2.mono hb.size)
    obtain ⟨A, c, rfl, -, -, g, -⟩ := ho.sees.at_
    clear ho hst hc hb2
    go_wp2_with fail
    refine (hsum A c w2 _ g (fun k _ => hok.out k)).out.mono ?_
    rintro e w3 ⟨rfl, rfl⟩
    go_wp2
    go_ret
    exact ⟨rfl, hb⟩
end Go.Proofs.YtpdenmcacaajkaaGreat

/-! ### FrB -/
namespace Go.Proofs.YtpdenmcacaajkaaGreat
open Go.RowKit
open Fr (St F)

theorem owns_empty (w : World) (e : TypeId) (he : e = 5) (B g : Nat) (hB : B ≤ w.heap.size) (hg : g = w.heap.size) : OwnsL (w.alloc (.cells #[] e)) B (.slice (some ⟨g, 0, none⟩) 0 0) [] := by
  subst he hg
  exact World.ownsRow_made w #[] 0 hB (by unfold maxLen; omega) rfl

theorem sealed_ref (v : Value) (l : List Int) (n : Nat) (w : World) (hv : SeesL w w.heap.size v l) (hl : bytesL l) (hlen : l.length ≤ 100000) (hn : n < 32768) :
    Calls Tryz.prog 117 #[v, .int .i64 n] w fun e w' => ∃ v', e = .returned v' ∧ OwnsL w' w.heap.size v' (l ++ Fr.two (Fr.sumL n l)) ∧ Below w.heap.size w w' := by
  have hS := Fr.sumL_lt hn l
  obtain ⟨A, c, hvA, h1, h2, h3, h4⟩ := hv.at_
  have hsum := refSum_any A l.length c w.heap.size (fun k => l.getD k 0) n w h3 (fun k _ => hl.getD k) (by unfold maxLen; omega)
  rw [Fr.sum_all, Cr.sd_of hn] at hsum
  have hsum := Lib.hid hsum
  have hv := Lib.hid hv
  generalize hSS : Fr.sumL n l = S at *
  have q1 : S ≤ 32767 := by omega
  clear h4 h3 hSS hS hl
  subst hvA
  go_enter Tryz.func117, Tryz.ntmps117
  go_wp2_with fail
  refine hsum.out.mono ?_
  rintro e w1 ⟨rfl, rfl⟩
  clear hsum
  go_wp2_with (at_builtin; refine wpList_appendL _ rfl (.tmp 9) (.tmp 10) 37 rfl w.heap.size infoU8 Tryz.underlying37 _ [] w (owns_empty w _ rfl _ _ (Nat.le_refl _) rfl) ((Below.refl _ _).alloc (Nat.le_refl _) _) rfl _ _ l rfl (hv.out.below ((Below.refl _ _).alloc (Nat.le_refl _) _)) (by simp) (by simp only [List.length_nil]; omega) ?_)
  intro v' w1 ho hb
  go_wp2_with (at_builtin; go_loud (refine wpList_appendL _ rfl (.tmp 11) (.tmp 17) 37 rfl w.heap.size infoU8 Tryz.underlying37 v' l w (ho.alloc _) (hb.alloc hb.size _) rfl _ _ (Fr.two S) rfl (sees_lit w1 _ _ _ (by simp [Fr.two]) _ (Nat.lt_succ_self _) (by simp [Fr.two, maxLen]) _ _ _ rfl rfl rfl) (by simp; have := hb.size; omega) (by simp [Fr.two]; omega) ?_))
  intro v2 w2 ho2 hb2
  go_wp2
  go_ret
  exact ⟨_, rfl, ho2, hb2⟩

/-- 'append' of a list, as one step of a region that draws its order. -/
theorem step_appendL {P : Program} (w : World) {ops : Array Oper} {o : Oper} {a : Act} {K : Act → World → Prop} {Q : Exit → Act → World → Prop} {E : Prop} (hgd : o.guard = none) (s x : Operand) (t : TypeId)
    (ho : o.op = .call { callee := .builtin .append, args := #[s, x], argTypes := #[t, t] })
    (B : Nat) (hinf : (P.info? 5).map (fun i => (i.zero, i.size, i.bytes)) = some (some (.int .u8 0), 1, 1)) (ht : P.underlying t = some (.slice 5))
    (v : Value) (l : List Int) (W : World) (hown : OwnsL w B v l) (hbel : Below B W w) (hs : a.eval s = v)
    (Bs : Nat) (u : Value) (m : List Int) (hx : a.eval x = u) (hsee : SeesL w Bs u m)
    (hB : B ≤ w.heap.size) (hroom : l.length + m.length ≤ 140737488355328)
    (h : ∀ v' w', OwnsL w' B v' (l ++ m) → Below B W w' → w.grownBy w' v.ownBlock → K (a.put o.dst v') w') : if Region.wanted o (yielded ops a.tmps) = true then Oper.wp P o a w K Q else E := by
  have hw : Region.wanted o (yielded ops a.tmps) = true := by simp [Region.wanted, hgd]
  rw [if_pos hw]
  obtain ⟨A, c, rfl, -, -, h3, h4⟩ := hsee.at_
  cases A with
  | none =>
    obtain ⟨hm, rfl⟩ := h4 rfl
    have hm' : m = [] := List.length_eq_zero_iff.1 hm
    subst hm'
    obtain ⟨i0, hi, hz0, hz1, hz2⟩ := info_parts hinf
    have hrun := run_append_owned_none (P := P) (w := w) B t o.type 5 i0 1 ht hi v l.length _ hown
    unfold Oper.wp
    simp only [List.length_nil] at hx
    simp [execOp, ho, resolve, invoke, builtin, hs, hx, hrun, Result.andThen]
    refine h v w ?_ hbel (World.grownBy.refl _ _)
    rw [List.append_nil]
    exact hown
  | some ad =>
    obtain ⟨i0, hi, hz0, hz1, hz2⟩ := info_parts hinf
    refine wp_append_own _ s x t ho B 5 i0 (.int .u8 0) 1 1 ht hi hz0 hz1 hz2 rfl (by omega) v l.length _ hs hown ad m.length c ((List.range m.length).map (bv m)) hx (by simp) ?_ ?_ (by unfold maxLen; omega) (by omega) hB ?_
    · intro j u hj
      rw [List.getElem?_map] at hj
      by_cases hjm : j < m.length
      · rw [List.getElem?_range hjm] at hj
        simp at hj
        subst hj
        obtain ⟨b, off, he, _, hc⟩ := h3 (by omega)
        simp only [Option.some.injEq] at he
        subst he
        have := hc j hjm
        by_cases h1 : j = 0
        · subst h1; simpa [Addr.add] using this
        · simpa [Addr.add, h1] using this
      · rw [List.getElem?_eq_none (by simpa using hjm)] at hj
        cases hj
    · intro u hu
      obtain ⟨k, hk, rfl⟩ := List.mem_map.1 hu
      rfl
    · intro v' w' h1 h2 h3
      refine h v' w' ?_ (hbel.grown h2 hB (fun g h => (World.ownsRow.lt hown g h).1)) h2
      unfold OwnsL Owns
      rw [List.length_append]
      have e : (List.range (l.length + m.length)).map (bv (l ++ m)) = (List.range l.length).map (bv l) ++ (List.range m.length).map (bv m) := by
        rw [← range_join]
        exact List.map_congr_left fun k _ => (bv_append l m k).symm
      rw [e]
      exact h1

/-- What is written of a frame, and the error. -/
def encR (f : F) : List Int := if f.is then f.bytes else []
def encE (f : F) : Int := if f.is then 0 else 1
def Enc (w : World) (f : F) (e : Ending) (w' : World) : Prop := ∃ v, e = .returned (.tuple #[v, .int .i64 (encE f)]) ∧ OwnsL w' w.heap.size v (encR f) ∧ Below w.heap.size w w'
end Go.Proofs.YtpdenmcacaajkaaGreat

/-! ### FrD -/
namespace Go.Proofs.YtpdenmcacaajkaaGreat
open Go.RowKit
open Fr (St F)

/-- What is read of bytes by a state. -/
def Dec (w : World) (l : List Int) (own : St) (e : Ending) (w' : World) : Prop := ∃ v, e = .returned (.tuple #[frV (Fr.res l own) v, .int .i64 (Fr.err l own)]) ∧ OwnsL w' w.heap.size v (Fr.res l own).d ∧ Below w.heap.size w w'
theorem dec_form {l : List Int} {own : St} (h : Fr.formB l own = false) {w w' : World} {e : Ending} (he : e = .returned (.tuple #[.agg #[.int .i64 0, .int .i64 0, .int .i64 0, .int .i64 0, .slice none 0 0], .int .i64 2])) (hb : Below w.heap.size w w') : Dec w l own e w' := by
  have h1 : Fr.res l own = Fr.zero := by simp [Fr.res, h]
  have h2 : Fr.err l own = 2 := by simp [Fr.err, h]
  unfold Dec
  rw [h1, h2]
  exact ⟨.slice none 0 0, he, OwnsL.nil, hb⟩
theorem dec_sum {l : List Int} {own : St} (h : Fr.formB l own = true) (hs : Fr.sumB l own = false) {w w' : World} {e : Ending} (he : e = .returned (.tuple #[.agg #[.int .i64 0, .int .i64 0, .int .i64 0, .int .i64 0, .slice none 0 0], .int .i64 3])) (hb : Below w.heap.size w w') : Dec w l own e w' := by
  have h1 : Fr.res l own = Fr.zero := by simp [Fr.res, h, hs]
  have h2 : Fr.err l own = 3 := by simp [Fr.err, h, hs]
  unfold Dec
  rw [h1, h2]
  exact ⟨.slice none 0 0, he, OwnsL.nil, hb⟩
theorem dec_ok {l : List Int} {own : St} (h : Fr.formB l own = true) (hs : Fr.sumB l own = true) {w w' : World} {e : Ending} {v : Value} (he : e = .returned (.tuple #[frV (Fr.rd l own) v, .int .i64 0])) (ho : OwnsL w' w.heap.size v (Fr.rd l own).d) (hb : Below w.heap.size w w') : Dec w l own e w' := by
  have h1 : Fr.res l own = Fr.rd l own := by simp [Fr.res, h, hs]
  have h2 : Fr.err l own = 0 := by simp [Fr.err, h, hs]
  unfold Dec
  rw [h1, h2]
  exact ⟨v, he, ho, hb⟩
theorem sumB_iff (l : List Int) (own : St) : (Fr.sumB l own = true) ↔ l.take (l.length - 2) ++ Fr.two (Fr.sumL (Fr.sdOf l own) (l.take (l.length - 2))) = l := by
  unfold Fr.sumB
  rw [beq_iff_eq]
  constructor
  · intro h
    rw [h, List.take_append_drop]
  · intro h
    have h2 : l.take (l.length - 2) ++ Fr.two (Fr.sumL (Fr.sdOf l own) (l.take (l.length - 2))) = l.take (l.length - 2) ++ l.drop (l.length - 2) := by rw [h, List.take_append_drop]
    exact List.append_cancel_left h2

end Go.Proofs.YtpdenmcacaajkaaGreat
