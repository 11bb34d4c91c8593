/- The contract of line.pack: the bytes of eight levels each. The numbers are of less than 53 digits. -/
import Derived.Test.YtgchecnfdbnnpaaLineD
import Derived.StillTailTactics
import Derived.RegionTactic
namespace Go.Proofs.Ytgchecnfdbnnpaa
open Go.RowKit

theorem infoByte : (Try.prog.info? 5).map (fun i => (i.zero, i.size, i.bytes)) = some (some (.int .u8 0), 1, 1) := by kernel_rfl

theorem packTo_lt (q : Nat → Int) (j i : Nat) : packTo q j i < 256 := by
  unfold packTo
  induction i with
  | zero => simp
  | succ i ih =>
    rw [List.range_succ, List.foldl_append]
    refine Nat.or_lt_two_pow (n := 8) ih ?_
    show (if q (8 * j + i) = 1 then 128 / 2 ^ i else 0) < 256
    split
    · exact Nat.lt_of_le_of_lt (Nat.div_le_self _ _) (by decide)
    · decide
theorem packTo_succ (q : Nat → Int) (j i : Nat) : packTo q j (i + 1) = packTo q j i ||| (if q (8 * j + i) = 1 then 128 / 2 ^ i else 0) := by
  unfold packTo
  rw [List.range_succ, List.foldl_append]
  rfl

/-- The bytes that are packed so far. -/
def packAt (q : Nat → Int) (k : Nat) (j : Nat) : Value := .int .u8 (packTo q j (min 8 (k - 8 * j)) : Nat)
theorem packAt_zero (q : Nat → Int) (j : Nat) : packAt q 0 j = .int .u8 0 := by simp [packAt, packTo]
theorem packAt_all (q : Nat → Int) (n j : Nat) (hj : 8 * j + 8 ≤ n) : packAt q n j = .int .u8 (packed q j) := by
  unfold packAt packed
  rw [show min 8 (n - 8 * j) = 8 by omega]
theorem packAt_other (q : Nat → Int) (k j : Nat) (hj : j ≠ k / 8) : packAt q (k + 1) j = packAt q k j := by
  unfold packAt
  rw [show min 8 (k + 1 - 8 * j) = min 8 (k - 8 * j) by omega]
theorem packAt_same (q : Nat → Int) (k : Nat) (hq : q k ≠ 1) (j : Nat) : packAt q (k + 1) j = packAt q k j := by
  by_cases hj : j = k / 8
  · subst hj
    unfold packAt
    rw [show min 8 (k + 1 - 8 * (k / 8)) = k % 8 + 1 by omega, show min 8 (k - 8 * (k / 8)) = k % 8 by omega, packTo_succ, show 8 * (k / 8) + k % 8 = k by omega, if_neg hq, Nat.or_zero]
  · exact packAt_other q k j hj
theorem packAt_or (q : Nat → Int) (k : Nat) (hq : q k = 1) : packAt q (k + 1) (k / 8) = .int .u8 (bits BinOp.or IntKind.u8 (packTo q (k / 8) (k % 8) : Nat) (128 / 2 ^ (k % 8))) := by
  unfold packAt
  rw [show min 8 (k + 1 - 8 * (k / 8)) = k % 8 + 1 by omega, packTo_succ, show 8 * (k / 8) + k % 8 = k by omega, if_pos hq]
  have h := packTo_lt q (k / 8) (k % 8)
  have h2 : 128 / 2 ^ (k % 8) < 256 := Nat.lt_of_le_of_lt (Nat.div_le_self _ _) (by decide)
  have := u8_or_nat _ _ h h2
  rw [← this]
  simp

set_option maxHeartbeats 400000 in
theorem pack_any (A : Option Addr) (n c : Nat) (a b : Nat → Int) (s : Bool) (w : World) (h : Sees w w.heap.size A n fun k => cx (a k) (b k)) (hq : ∀ k, k < n → (pt s (a k) (b k)).natAbs < 2 ^ 53) (h8 : n % 8 = 0) (_hn : n ≤ c) (_hc : c ≤ maxLen) (hr : n ≤ 140737488355328) :
    Calls Try.prog 36 #[.slice A n c, .bool s] w fun e w' =>
      ∃ v, e = .returned v ∧ Owns w' w.heap.size 5 v (n / 8) (fun j => .int .u8 (packed (fun k => pt s (a k) (b k)) j)) ∧ Below w.heap.size w w' := by
  unfold maxLen at _hc
  obtain ⟨m, hm1, hm2⟩ : ∃ m, 8 * m ≤ n ∧ n ≤ 8 * m := ⟨n / 8, by omega, by omega⟩
  have H8 := Lib.hid h8
  clear h8
  have hmn : (n : Int) / 8 = m := by omega
  go_enter Try.func36, Try.ntmps36
  go_wp2_with (at_make; go_loud (refine wpList_zeros _ rfl _ _ 22 rfl w.heap.size w (Below.refl _ _) (Nat.le_refl _) 5 (.int .u8 0) 1 infoByte rfl Try.underlying22 _ _ _ _ m rfl rfl rfl rfl (by omega) (by unfold maxLen; omega) ?_))
  intro w1 ho1 hb1 hs1 _
  clear hmn
  go_wp2
  go_loopw [14] (fun i wr => ∃ k : Nat, k ≤ n ∧ i = .int .i64 k ∧ Owns wr w.heap.size 5 (.slice (some ⟨w.heap.size, 0, none⟩) m m) m (packAt (fun k => pt s (a k) (b k)) k) ∧ Below w.heap.size w wr) (fun i _ => n - (intOf i).toNat)
  case atStart => exact ⟨0, by omega, rfl, ho1.alike fun k _ => (packAt_zero _ k).symm, hb1⟩
  case round =>
    obtain ⟨k, hk, rfl, hown, hbel⟩ := hrel
    clear ho1 hb1
    by_cases hlt : k < n
    · obtain ⟨b0, off, rfl, hbb, hcell⟩ := h (by omega)
      have hx : wr.cell? ⟨b0, off + k, none⟩ = some (cx (a k) (b k)) := (hbel.cell hbb).trans (hcell k (by omega))
      have hqk := hq k hlt
      have hbyte := hown.cell (k := k / 8) (by omega)
      have hfr := hown.frozen (k / 8)
      have hst := is_one (pt s (a k) (b k)) hqk
      clear hcell
      by_cases h1 : pt s (a k) (b k) = 1
      · have H1 := Lib.hid h1
        rw [decide_eq_true h1] at hst
        clear h1
        have hb0 : packAt (fun k => pt s (a k) (b k)) k (k / 8) = .int .u8 (packTo (fun k => pt s (a k) (b k)) (k / 8) (k % 8) : Nat) := by
          unfold packAt
          rw [show min 8 (k - 8 * (k / 8)) = k % 8 by omega]
        rw [hb0] at hbyte
        have H2 := Lib.hid (packAt_or (fun k => pt s (a k) (b k)) k H1.out)
        clear hb0
        generalize packTo (fun k => pt s (a k) (b k)) (k / 8) (k % 8) = X at *
        have hk8 : k / 8 < m := by omega
        have hk9 : (k : Int) / 8 < m := by omega
        go_wp2_with (go_at_call 35; refine (level_cx (a k) (b k) s _).mono ?_; rintro e w' ⟨rfl, rfl⟩)
        go_region
        have ho2 := hown.set_ (k / 8) (.int .u8 (bits BinOp.or IntKind.u8 X (128 / 2 ^ (k % 8)))) H2.out (fun j _ hj => packAt_other _ k j hj)
        have hb2 := (hbel.setCell (p := ⟨w.heap.size, k / 8, none⟩) (Nat.le_refl _) (.int .u8 (bits BinOp.or IntKind.u8 X (128 / 2 ^ (k % 8))))).drew
        go_wp2
        go_roundw
        case rel => exact ⟨k + 1, by omega, by go_num, ho2, hb2⟩
        case measure => simp [intOf]; omega
      · have H1 := Lib.hid h1
        rw [decide_eq_false h1] at hst
        clear h1
        go_wp2_with (go_at_call 35; refine (level_cx (a k) (b k) s _).mono ?_; rintro e w' ⟨rfl, rfl⟩)
        go_roundw
        case rel => exact ⟨k + 1, by omega, by go_num, hown.alike fun j _ => (packAt_same _ k H1.out j).symm, hbel⟩
        case measure => simp [intOf]; omega
    · go_wp2
      go_ret
      have h8 := H8.out
      have e : k = n := by omega
      exact ⟨_, rfl, by rw [show n / 8 = m by omega]; exact hown.alike fun j hj => by rw [e]; exact packAt_all _ n j (by omega), hbel⟩
end Go.Proofs.Ytgchecnfdbnnpaa
