/- The contract of matronref1.Drive: the document's own levels of bytes, in pairs. -/
import Derived.Test.YtgchecnfdbnnpaaLineK
namespace Go.Proofs.Ytgchecnfdbnnpaa
open Go.RowKit

theorem ref_bit (x : Fin 256) (r : Fin 8) : bits BinOp.and IntKind.u8 (((x.val : Nat) : Int) / 2 ^ r.val) 1 = if bitv ((x.val : Nat) : Int) (7 - r.val) then 1 else 0 := by
  revert x r
  decide +kernel

set_option maxRecDepth 100000 in
set_option maxHeartbeats 4000000 in
theorem refDrive_any (A : Option Addr) (n c : Nat) (z : Nat → Int) (f s : Bool) (w : World) (h : Sees w w.heap.size A n fun k => .int .u8 (z k)) (hz : ∀ k, k < n → 0 ≤ z k ∧ z k < 256) (hn : n ≤ maxLen) :
    Calls Try.prog 18 #[.slice A n c, .bool f, .bool s] w fun e w' =>
      ∃ v, e = .returned v ∧ Owns2 w' w.heap.size 58 v (8 * min n 50) (prs (lv f z) (lv s z)) ∧ Below w.heap.size w w' := by
  unfold maxLen at hn
  obtain ⟨M, hM⟩ : ∃ M, M = min n 50 := ⟨_, rfl⟩
  rw [← hM]
  have hM1 : M ≤ n := by omega
  have hM2 : M ≤ 50 := by omega
  have HM := Lib.hid hM
  clear hM
  go_enter Try.func18, Try.ntmps18
  go_wp2
  go_loopw [7, 8] (fun v i wr => ∃ k : Nat, k ≤ M ∧ i = .int .i64 k ∧ Owns2 wr w.heap.size 58 v (8 * k) (prs (lv f z) (lv s z)) ∧ Below w.heap.size w wr) (fun _ i _ => n - (intOf i).toNat)
  case atStart => exact ⟨0, by omega, rfl, World.ownsRow_nil _ _ _ _, Below.refl _ _⟩
  case round =>
    obtain ⟨k, hk, rfl, hown, hbel⟩ := hrel
    by_cases hlt : k < M
    · obtain ⟨b0, off, rfl, hbb, hcell⟩ := h (by omega)
      have f0 : w.cell? ⟨b0, off + k, none⟩ = some (.int .u8 (z k)) := hcell k (by omega)
      have hzk := hz k (by omega)
      have q2 : decide (k < n) = true := by simp; omega
      have q3 : decide ((k : Int) < 50) = true := by simp; omega
      obtain ⟨wo, rfl⟩ : ∃ W : World, W = wr := ⟨_, rfl⟩
      clear hcell
      go_wp2
      go_loopw [7, 9] (fun v i wx => ∃ (r m : Nat), Owns2 wx w.heap.size 58 v m (prs (lv f z) (lv s z)) ∧ Below w.heap.size w wx ∧ ((r < 8 ∧ i = .int .i64 r ∧ m + r = 8 * k + 7) ∨ (r = 8 ∧ i = .int .i64 (-1) ∧ m = 8 * k + 8))) (fun _ i _ => ((intOf i) + 1).toNat)
      case atStart => exact ⟨7, 8 * k, hown, hbel, .inl ⟨by omega, rfl, rfl⟩⟩
      case round =>
        clear hown hbel
        obtain ⟨r, m, hown, hbel, hr⟩ := hrel
        rcases hr with ⟨hr8, rfl, hmr⟩ | ⟨rfl, rfl, rfl⟩
        · have hB := hbel.size
          have e0 := (hbel.cell hbb).trans f0
          obtain ⟨x, hx⟩ := Int.eq_ofNat_of_zero_le hzk.1
          have hb := ref_bit ⟨x, by omega⟩ ⟨r, hr8⟩
          simp only at hb
          rw [← hx] at hb
          have hl : ∀ g : Bool, lv g z m = if g then (if bitv (z k) (7 - r) then 1 else -1) else 0 := fun g => by
            unfold lv
            rw [show m / 8 = k by omega, show m % 8 = 7 - r by omega]
          have hV := Lib.hid (show (prs (lv f z) (lv s z) (m * 2) = .int .i64 (lv f z m)) ∧ (prs (lv f z) (lv s z) (m * 2 + 1) = .int .i64 (lv s z m)) from ⟨prs_even _ _ m, prs_odd _ _ m⟩)
          have hl1 := Lib.hid (hl f)
          have hl2 := Lib.hid (hl s)
          clear hl hx
          have hmr1 : m + r ≤ 8 * k + 7 := by omega
          have hmr2 : 8 * k + 7 ≤ m + r := by omega
          clear hmr
          generalize bitv (z k) (7 - r) = B at *
          cases B <;> cases f <;> cases s
          all_goals
            simp only [if_true, Bool.false_eq_true, if_false] at hb
            have hh := hV.out
            simp only [hl1.out, hl2.out] at hh
            simp only [if_true, Bool.false_eq_true, if_false] at hh
            have HH := Lib.hid hh
            clear hh
            go_wp2_with (at_builtin; go_loud (refine wpList_push2 _ rfl (.tmp 44) (.tmp 46) 27 rfl w.heap.size 58 _ 16 infoPair rfl Try.underlying27 _ m _ w (World.ownsRow.alloc hown _) (hbel.alloc hB _) rfl _ _ ?_ ⟨rfl, rfl⟩ ?_ ?_ ?_ ⟨HH.out.1.symm, HH.out.2.symm⟩ ?_))
            all_goals (try (first | (simp [Act.eval]; done) | (simp; omega) | (unfold maxLen; omega) | omega))
            intro v' w1 ho1 hb1
            rcases Nat.eq_zero_or_pos r with h0 | h0
            · subst h0
              go_wp2
              go_roundw
              case rel => exact ⟨8, m + 1, ho1, hb1, .inr ⟨rfl, rfl, by omega⟩⟩
              case measure => simp [intOf]
            · obtain ⟨r', rfl⟩ : ∃ r', r = r' + 1 := ⟨r - 1, by omega⟩
              go_wp2
              go_roundw
              case rel => exact ⟨r', m + 1, ho1, hb1, .inl ⟨by omega, by go_num, by omega⟩⟩
              case measure => simp [intOf]; omega
        · go_wp2
          go_roundw
          case rel => exact ⟨k + 1, by omega, by go_num, by rw [show 8 * (k + 1) = 8 * k + 8 by omega]; exact hown, hbel⟩
          case measure => simp [intOf]; omega
    · have hkM : k = M := by omega
      subst hkM
      have hm := HM.out
      by_cases hn : k < n
      · obtain rfl : k = 50 := by omega
        have q2 : decide (50 < n) = true := by simp; omega
        clear hm
        go_wp2
        go_ret
        exact ⟨_, rfl, hown, hbel⟩
      · have q2 : decide (k < n) = false := by simp; omega
        clear hm
        go_wp2
        go_ret
        exact ⟨_, rfl, hown, hbel⟩
end Go.Proofs.Ytgchecnfdbnnpaa
