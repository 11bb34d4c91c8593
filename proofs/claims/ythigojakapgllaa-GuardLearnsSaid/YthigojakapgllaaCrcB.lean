/- The contracts of crc.Sum over rows of bytes, of matronref2.Sum. No condition but sizes. -/
import Derived.Test.YthigojakapgllaaCrcA
namespace Go.Proofs.Ythigojakapgllaa
open Go.RowKit

theorem sum_any (L : Option Addr) (m C B : Nat) (A : Nat → Option Addr) (N c : Nat → Nat) (z : Nat → Nat → Int) (a : Int) (w : World)
    (h : Sees w B L m fun i => .slice (A i) (N i) (c i)) (hrow : ∀ i, i < m → Sees w B (A i) (N i) fun k => .int .u8 (z i k)) (hz : ∀ i k, i < m → k < N i → 0 ≤ z i k ∧ z i k < 256) (hm : m ≤ maxLen) (hN : ∀ i, i < m → N i ≤ maxLen) :
    Calls Try.prog 51 #[.int .i64 a, .slice L m C] w fun e w' => e = .returned (.int .i64 (Cr.rowsTo (Cr.sd a) z N m : Nat)) ∧ w = w' := by
  unfold maxLen at hm hN
  have hsd := Cr.sd_lt a
  have hand := Cr.and_sd a
  go_enter Try.func51, Try.ntmps51
  go_wp2
  clear hand
  go_loop [5, 14] (fun s i => ∃ k : Nat, k ≤ m ∧ i = .int .i64 k ∧ s = .int .i64 (Cr.rowsTo (Cr.sd a) z N k : Nat)) (fun _ i => m - (intOf i).toNat)
  case atStart => exact ⟨0, by omega, rfl, rfl⟩
  case round =>
    obtain ⟨i, hi, rfl, rfl⟩ := hrel
    by_cases hlt : i < m
    · obtain ⟨b0, off, rfl, hbb, hcell⟩ := h (by omega)
      have hx : w.cell? ⟨b0, off + i, none⟩ = some (.slice (A i) (N i) (c i)) := hcell i hlt
      have hni := hN i hlt
      have hs := hrow i hlt
      have hzi := fun k => hz i k hlt
      have hn := Cr.rowsTo_lt hsd z N i
      have HS := Lib.hid (show Cr.rowsTo (Cr.sd a) z N (i + 1) = Cr.sumTo (Cr.rowsTo (Cr.sd a) z N i) (z i) (N i) from rfl)
      generalize Cr.rowsTo (Cr.sd a) z N i = n at *
      clear hcell
      go_wp2
      go_loop [5, 20] (fun s j => ∃ k : Nat, k ≤ N i ∧ j = .int .i64 k ∧ s = .int .i64 (Cr.sumTo n (z i) k : Nat)) (fun _ j => N i - (intOf j).toNat)
      case atStart => exact ⟨0, by omega, rfl, rfl⟩
      case round =>
        obtain ⟨k, hk, rfl, rfl⟩ := hrel
        by_cases hlk : k < N i
        · obtain ⟨b1, off1, hA, hbb1, hcell1⟩ := hs (by omega)
          rw [hA]
          have hy : w.cell? ⟨b1, off1 + k, none⟩ = some (.int .u8 (z i k)) := hcell1 k hlk
          have hzk := hzi k hlk
          obtain ⟨x, hxz⟩ := Int.eq_ofNat_of_zero_le hzk.1
          have HK := Lib.hid (show Cr.sumTo n (z i) (k + 1) = Cr.byte1 (Cr.sumTo n (z i) k) x by rw [Cr.sumTo, hxz]; rfl)
          rw [hxz] at hy
          have hx2 : x < 256 := by omega
          have hl := Cr.sumTo_lt hn (z i) k
          clear hcell1 hA hxz hzk hx
          go_wp2_with (go_at_call 56; refine (step_any _ x _ hl).mono ?_; rintro e w' ⟨rfl, rfl⟩)
          go_round
          case rel => exact ⟨k + 1, by omega, by go_num, by rw [HK.out]⟩
          case measure => simp [intOf]; omega
        · obtain rfl : k = N i := by omega
          go_wp2
          go_round
          case rel => exact ⟨i + 1, by omega, by go_num, by rw [HS.out]⟩
          case measure => simp [intOf]; omega
    · obtain rfl : i = m := by omega
      go_wp2
      go_ret
      exact ⟨rfl, rfl⟩

theorem u8_bit (x r : Nat) (hx : x < 256) : bits BinOp.and IntKind.u8 ((x : Int) / 2 ^ r) 1 = bits BinOp.and IntKind.i64 ((x : Int) / 2 ^ r) 1 := by
  have e : ((x : Int) / 2 ^ r) = ((x / 2 ^ r : Nat) : Int) := by
    rw [Int.natCast_ediv, Int.natCast_pow]; rfl
  have hle : x / 2 ^ r ≤ x := Nat.div_le_self _ _
  rw [e]
  generalize x / 2 ^ r = y at *
  have h1 : bits BinOp.and IntKind.i64 (y : Int) 1 = ((y % 2 : Nat) : Int) := by
    show IntKind.i64.wrap ((BitVec.ofInt 64 (y : Int) &&& BitVec.ofInt 64 1).toNat : Int) = _
    rw [BitVec.toNat_and, show (BitVec.ofInt 64 1).toNat = 2 ^ 1 - 1 by decide, Nat.and_two_pow_sub_one_eq_mod, BitVec.toNat_ofInt, IntKind.wrap_i64]
    omega
  have h2 : bits BinOp.and IntKind.u8 (y : Int) 1 = ((y % 2 : Nat) : Int) := by
    have := u8_and_nat y 1 (by omega) (by omega)
    rw [show ((1 : Nat) : Int) = 1 from rfl] at this
    rw [this, Nat.and_one_is_mod]
  rw [h1, h2]
theorem u8_bit_le (x r : Nat) (hx : x < 256) : 0 ≤ bits BinOp.and IntKind.u8 ((x : Int) / 2 ^ r) 1 ∧ bits BinOp.and IntKind.u8 ((x : Int) / 2 ^ r) 1 ≤ 1 := by
  have e : ((x : Int) / 2 ^ r) = ((x / 2 ^ r : Nat) : Int) := by
    rw [Int.natCast_ediv, Int.natCast_pow]; rfl
  have hle : x / 2 ^ r ≤ x := Nat.div_le_self _ _
  rw [e]
  generalize x / 2 ^ r = y at *
  have := u8_and_nat y 1 (by omega) (by omega)
  rw [show ((1 : Nat) : Int) = 1 from rfl] at this
  rw [this, Nat.and_one_is_mod]
  omega

set_option maxHeartbeats 400000 in
theorem refSum_any (A : Option Addr) (n c B : Nat) (z : Nat → Int) (a : Int) (w : World) (h : Sees w B A n fun k => .int .u8 (z k)) (hz : ∀ k, k < n → 0 ≤ z k ∧ z k < 256) (hn : n ≤ maxLen) :
    Calls Try.prog 33 #[.int .i64 a, .slice A n c] w fun e w' => e = .returned (.int .i64 (Cr.sumTo (Cr.sd a) z n : Nat)) ∧ w = w' := by
  unfold maxLen at hn
  have hsd := Cr.sd_lt a
  have hand := Cr.and_sd a
  go_enter Try.func33, Try.ntmps33
  go_wp2
  clear hand
  go_loop [5, 6] (fun s i => ∃ k : Nat, k ≤ n ∧ i = .int .i64 k ∧ s = .int .i64 (Cr.sumTo (Cr.sd a) z k : Nat)) (fun _ i => n - (intOf i).toNat)
  case atStart => exact ⟨0, by omega, rfl, rfl⟩
  case round =>
    obtain ⟨k, hk, rfl, rfl⟩ := hrel
    by_cases hlt : k < n
    · obtain ⟨b1, off1, rfl, hbb1, hcell1⟩ := h (by omega)
      have hy : w.cell? ⟨b1, off1 + k, none⟩ = some (.int .u8 (z k)) := hcell1 k hlt
      have hzk := hz k hlt
      obtain ⟨x, hxz⟩ := Int.eq_ofNat_of_zero_le hzk.1
      have HK := Lib.hid (show Cr.sumTo (Cr.sd a) z (k + 1) = Cr.byte1 (Cr.sumTo (Cr.sd a) z k) x by rw [Cr.sumTo, hxz]; rfl)
      rw [hxz] at hy
      have hx2 : x < 256 := by omega
      have hl := Cr.sumTo_lt hsd z k
      have q2 : decide (k < n) = true := by simp; omega
      have q3 : (k : Int) < n := by omega
      generalize Cr.sumTo (Cr.sd a) z k = s at *
      clear hcell1 hxz hzk
      go_wp2
      go_loop [5, 7, 8] (fun v i _ => ∃ j r : Nat, v = .int .i64 (Cr.byteTo s x j : Nat) ∧ ((r < 8 ∧ i = .int .i64 r ∧ j + r = 7) ∨ (r = 8 ∧ i = .int .i64 (-1) ∧ j = 8))) (fun _ i _ => ((intOf i) + 1).toNat)
      case atStart => exact ⟨0, 7, rfl, .inl ⟨by omega, rfl, rfl⟩⟩
      case round =>
        obtain ⟨j, r, rfl, hr⟩ := hrel
        rcases hr with ⟨hr8, rfl, hjr⟩ | ⟨rfl, rfl, rfl⟩
        · have hm := Cr.byteTo_lt hl x j
          have hj1 : j + r ≤ 7 := by omega
          have hj2 : 7 ≤ j + r := by omega
          have ht := top_of (Cr.byteTo s x j) x r hm
          rw [← u8_bit x r hx2] at ht
          obtain ⟨h80, h81⟩ := u8_bit_le x r hx2
          have HS := Lib.hid (show Cr.byteTo s x (j + 1) = Cr.bit1 (Cr.byteTo s x j) (x.testBit r) by rw [Cr.byteTo, show 7 - j = r by omega])
          clear hjr
          have H1 := fun h => Lib.hid (bit1_on (n := Cr.byteTo s x j) (b := x.testBit r) h)
          have H2 := fun h => Lib.hid (bit1_off (n := Cr.byteTo s x j) (b := x.testBit r) h)
          have hbb : ((Cr.byteTo s x j).testBit 14 != x.testBit r) = true ∨ ((Cr.byteTo s x j).testBit 14 != x.testBit r) = false := by cases ((Cr.byteTo s x j).testBit 14 != x.testBit r) <;> simp
          rcases hbb with hb | hb
          case' inl =>
            have HV := Lib.hid (HS.out ▸ (H1 hb).out : _ = ((Cr.byteTo s x (j + 1) : Nat) : Int))
            rw [hb, if_pos rfl] at ht
          case' inr =>
            have HV := Lib.hid (HS.out ▸ (H2 hb).out : _ = ((Cr.byteTo s x (j + 1) : Nat) : Int))
            rw [hb, if_neg (by decide)] at ht
          all_goals
            clear H1 H2 HS hb
            generalize Cr.byteTo s x j = m at *
            rcases Nat.eq_zero_or_pos r with h0 | h0
            case' inl =>
              subst h0
              rw [Int.pow_zero, Int.ediv_one] at ht h80 h81
            case' inr => obtain ⟨r, rfl⟩ : ∃ r', r = r' + 1 := ⟨r - 1, by omega⟩
            all_goals
              go_wp2
              go_round
              case rel => first | exact ⟨j + 1, r, by rw [HV.out], .inl ⟨by omega, by go_num, by omega⟩⟩ | exact ⟨j + 1, 8, by rw [HV.out], .inr ⟨rfl, rfl, by omega⟩⟩
              case measure => simp [intOf]; try omega
        · go_wp2
          go_round
          case rel => exact ⟨k + 1, by omega, by go_num, by rw [HK.out]; rfl⟩
          case measure => simp [intOf]; omega
    · obtain rfl : k = n := by omega
      go_wp2
      go_ret
      exact ⟨rfl, rfl⟩

/-- One row in a new list, and its sum. -/
theorem sees_only (w : World) (B : Nat) (e : TypeId) (u : Value) (hB : w.heap.size < B) (V : Nat → Value) (hV : V 0 = u) : Sees (w.alloc (.cells #[u] e)) B (some ⟨w.heap.size, 0, none⟩) 1 V := fun _ =>
  ⟨_, _, rfl, hB, fun k hk => by
    obtain rfl : k = 0 := by omega
    rw [World.cell?_alloc_at _ _ _ _ rfl, hV]
    rfl⟩
theorem sum_one (A : Option Addr) (n c : Nat) (z : Nat → Int) (a : Int) (w : World) (e : TypeId) (g : Nat) (hg : g = w.heap.size) (h : Sees w w.heap.size A n fun k => .int .u8 (z k)) (hz : ∀ k, k < n → 0 ≤ z k ∧ z k < 256) (hn : n ≤ maxLen) :
    Calls Try.prog 51 #[.int .i64 a, .slice (some ⟨g, 0, none⟩) 1 1] (w.alloc (.cells #[.slice A n c] e)) fun e' w' => e' = .returned (.int .i64 (Cr.sumTo (Cr.sd a) z n : Nat)) ∧ w.alloc (.cells #[.slice A n c] e) = w' := by
  subst hg
  exact sum_any _ 1 1 (w.heap.size + 1) (fun _ => A) (fun _ => n) (fun _ => c) (fun _ => z) a _ (sees_only w _ e _ (by omega) _ rfl) (fun i _ => (h.below ((Below.refl _ _).alloc (Nat.le_refl _) _)).more (by omega)) (fun i k _ hk => hz k hk) (by unfold maxLen; omega) (fun _ _ => hn)

theorem sum_at (A : Option Addr) (n c : Nat) (z : Nat → Int) (a : Int) (W : World) (B g : Nat) (hc : W.cell? ⟨g, 0, none⟩ = some (.slice A n c)) (hB : B ≤ W.heap.size) (h : Sees W B A n fun k => .int .u8 (z k)) (hz : ∀ k, k < n → 0 ≤ z k ∧ z k < 256) (hn : n ≤ maxLen) :
    Calls Try.prog 51 #[.int .i64 a, .slice (some ⟨g, 0, none⟩) 1 1] W fun e' w' => e' = .returned (.int .i64 (Cr.sumTo (Cr.sd a) z n : Nat)) ∧ W = w' := by
  refine sum_any _ 1 1 W.heap.size (fun _ => A) (fun _ => n) (fun _ => c) (fun _ => z) a W (fun _ => ⟨g, 0, rfl, World.block_lt_of_cell? W _ hc, fun k hk => ?_⟩) (fun i _ => h.more hB) (fun i k _ hk => hz k hk) (by unfold maxLen; omega) (fun _ _ => hn)
  obtain rfl : k = 0 := by omega
  exact hc
end Go.Proofs.Ythigojakapgllaa
