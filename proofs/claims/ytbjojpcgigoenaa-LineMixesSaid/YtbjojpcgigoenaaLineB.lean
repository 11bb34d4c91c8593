import Derived.Test.YtbjojpcgigoenaaKit
import Derived.Test.YtbjojpcgigoenaaLineA
namespace Go.Proofs.Ytbjojpcgigoenaa
open Go.RowKit

theorem infoCx : (Try.prog.info? 60).map (fun i => (i.zero, i.size, i.bytes)) = some (some (.complex .f64 0 0), 1, 16) := by kernel_rfl

def hi : Nat := 4607182418800017408
def lo : Nat := 13830554455654793216
def bitv (x : Int) (j : Nat) : Bool := x.toNat.testBit (7 - j)
def lvl (b : Bool) : Nat := if b then hi else lo
def drv (f s : Bool) (z : Nat → Int) (k : Nat) : Value := .complex .f64 (part f (lvl (bitv (z (k / 8)) (k % 8)))) (part s (lvl (bitv (z (k / 8)) (k % 8))))


theorem bit_test (x : Int) (j : Nat) (h0 : 0 ≤ x) (h1 : x < 256) (hj : j < 8) : (bits BinOp.and IntKind.u8 x (128 / 2 ^ j) != 0) = bitv x j := by
  obtain ⟨n, rfl⟩ := Int.eq_ofNat_of_zero_le h0
  have hn : n < 256 := by omega
  have key : ∀ j : Fin 8, ∀ n : Fin 256, (bits BinOp.and IntKind.u8 ((n.val : Nat) : Int) (128 / 2 ^ j.val) != 0) = bitv ((n.val : Nat) : Int) j.val := by decide +kernel
  exact key ⟨j, hj⟩ ⟨n, hn⟩

set_option maxHeartbeats 400000 in
theorem drive_any (A : Option Addr) (n c : Nat) (z : Nat → Int) (f s : Bool) (w : World) (h : Sees w w.heap.size A n fun k => .int .u8 (z k)) (hz : ∀ k, k < n → 0 ≤ z k ∧ z k < 256) (hn : n ≤ c) (hc : c ≤ maxLen) :
    Calls Try.prog 34 #[.slice A n c, .bool f, .bool s] w fun e w' =>
      ∃ v, e = .returned v ∧ Owns w' w.heap.size 60 v (8 * min n 50) (drv f s z) ∧ Below w.heap.size w w' := by
  unfold maxLen at hc
  obtain ⟨i0, hi, hz0, hz1, hz2⟩ := info_parts infoCx
  by_cases hb : n ≤ 50
  case' pos => obtain ⟨m, hm1, hm2, hm3, hm4⟩ : ∃ m, m ≤ n ∧ n ≤ m ∧ m ≤ 50 ∧ m = min n 50 := ⟨n, by omega, by omega, by omega, by omega⟩
  case' neg => obtain ⟨m, hm1, hm2, hm3, hm4⟩ : ∃ m, m ≤ 50 ∧ 50 ≤ m ∧ m ≤ n ∧ m = min n 50 := ⟨50, by omega, by omega, by omega, by omega⟩
  all_goals
    have H4 := Lib.hid hm4
    clear hm4
    go_enter Try.func34, Try.ntmps34
    go_wp2_with (at_make; refine wpList_make_own _ rfl _ _ 26 rfl w.heap.size 60 i0 (.complex .f64 0 0) 1 Try.underlying26 hi hz0 hz1 _ _ _ (8 * m) rfl rfl (by omega) ?b2 ?b3 (Nat.le_refl _) ?_)
    case b2 => rw [hz2]; omega
    case b3 => unfold maxLen; omega
    intro w0 hown0 hgrow0
    go_wp2
    go_loopw [7, 23] (fun v i wr => ∃ k : Nat, k ≤ m ∧ i = .int .i64 k ∧ Owns wr w.heap.size 60 v (8 * k) (drv f s z) ∧ Below w.heap.size w wr) (fun _ i _ => m - (intOf i).toNat)
    case atStart => exact ⟨0, by omega, rfl, hown0, (Below.refl _ _).grown hgrow0 (Nat.le_refl _) (fun k h => by cases h)⟩
    case round =>
      obtain ⟨k, hk, rfl, hown, hbel⟩ := hrel
      by_cases hlt : k < m
      · obtain ⟨b, off, rfl, hbb, hcell⟩ := h (by omega)
        have hx : wr.cell? ⟨b, off + k, none⟩ = some (.int .u8 (z k)) := (hbel.cell hbb).trans (hcell k (by omega))
        have hzk := hz k (by omega)
        clear hcell hgrow0 hown0
        have hdk : decide (k < n) = true := by simp; omega
        have hdk' : decide ((k : Int) < 50) = true := by simp; omega
        go_wp2
        go_loopw [7, 27] (fun v i wx => ∃ j : Nat, j ≤ 8 ∧ i = .int .i64 j ∧ Owns wx w.heap.size 60 v (8 * k + j) (drv f s z) ∧ Below w.heap.size w wx) (fun _ i _ => 8 - (intOf i).toNat)
        case atStart => exact ⟨0, by omega, rfl, hown, hbel⟩
        case round =>
          clear hown hbel
          obtain ⟨j, hj, rfl, hown, hbel⟩ := hrel
          have hB := hbel.size
          by_cases hlj : j < 8
          · have hbt := bit_test (z k) j hzk.1 hzk.2 hlj
            have hd : drv f s z (8 * k + j) = .complex .f64 (part f (lvl (bitv (z k) j))) (part s (lvl (bitv (z k) j))) := by
              unfold drv; rw [show (8 * k + j) / 8 = k by omega, show (8 * k + j) % 8 = j by omega]
            cases hv : bitv (z k) j
            all_goals
              rw [hv] at hbt hd
              have hd' := Lib.hid hd
              clear hd hv
              go_wp2_with (first
                | (go_at_call 33; refine (keep_any _ _ f s _).mono ?_; rintro e w' ⟨rfl, rfl⟩)
                | (at_builtin; go_loud (refine wpList_push _ rfl _ _ 26 rfl w.heap.size 60 (.complex .f64 0 0) 16 infoCx rfl Try.underlying26 _ _ _ w hown hbel rfl _ rfl rfl hB ?_ ?_ hd'.out.symm ?_)))
              · unfold maxLen; omega
              · omega
              intro v' w1 hown' hbel' _
              go_wp2
              go_roundw
              case rel => exact ⟨j + 1, by omega, by go_num, hown', hbel'⟩
              case measure => simp [intOf]; omega
          · go_wp2
            go_roundw
            case rel => exact ⟨k + 1, by omega, by go_num, by rw [show 8 * (k + 1) = 8 * k + j by omega]; exact hown, hbel⟩
            case measure => simp [intOf]; omega
      · go_wp2
        go_ret
        exact ⟨_, rfl, by rw [← H4.out, show m = k by omega]; exact hown, hbel⟩
end Go.Proofs.Ytbjojpcgigoenaa
