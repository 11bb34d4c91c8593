/- The contract of line.Mix over rows of whole numbers: as long as the longest, sample by sample their sum. -/
import Derived.Test.YtbjojpcgigoenaaLineH
namespace Go.Proofs.Ytbjojpcgigoenaa
open Go.RowKit

def mx (n : Nat → Nat) : Nat → Nat
  | 0 => 0
  | i + 1 => max (mx n i) (n i)
def sm (n : Nat → Nat) (a : Nat → Nat → Int) : Nat → Nat → Int
  | 0, _ => 0
  | i + 1, k => sm n a i k + (if k < n i then a i k else 0)
theorem mx_le (n : Nat → Nat) (M : Nat) : ∀ m, (∀ i, i < m → n i ≤ M) → mx n m ≤ M
  | 0, _ => Nat.zero_le _
  | m + 1, h => Nat.max_le.2 ⟨mx_le n M m fun i hi => h i (by omega), h m (by omega)⟩
theorem le_mx (n : Nat → Nat) : ∀ m i, i < m → n i ≤ mx n m
  | m + 1, i, h => by
    by_cases hi : i = m
    · subst hi; exact Nat.le_max_right _ _
    · exact Nat.le_trans (le_mx n m i (by omega)) (Nat.le_max_left _ _)
theorem zero_cx : (.complex .f64 0 0 : Value) = cx 0 0 := by
  unfold cx
  rw [show floatOfInt .f64 0 = 0 from fl_zero]

attribute [local go_sem] store_complex
set_option maxHeartbeats 2000000 in
theorem mix_any (L : Option Addr) (m C : Nat) (A : Nat → Option Addr) (n c : Nat → Nat) (a b : Nat → Nat → Int) (w : World) (h : Sees w w.heap.size L m fun i => .slice (A i) (n i) (c i))
    (hrow : ∀ i, i < m → Sees w w.heap.size (A i) (n i) fun k => cx (a i k) (b i k)) (hm : m ≤ 8) (hn : ∀ i, i < m → n i ≤ 100000)
    (ha : ∀ i k, i < m → k < n i → (a i k).natAbs < 2 ^ 52) (hb : ∀ i k, i < m → k < n i → (b i k).natAbs < 2 ^ 52) (hsa : ∀ i k, i < m → (sm n a i k).natAbs < 2 ^ 52) (hsb : ∀ i k, i < m → (sm n b i k).natAbs < 2 ^ 52) :
    Calls Try.prog 17 #[.slice L m C] w fun e w' =>
      ∃ v, e = .returned v ∧ Owns w' w.heap.size 60 v (mx n m) (fun k => cx (sm n a m k) (sm n b m k)) ∧ Below w.heap.size w w' := by
  go_enter Try.func17, Try.ntmps17
  go_wp2
  go_loop [3, 13] (fun x i => ∃ k : Nat, k ≤ m ∧ i = .int .i64 k ∧ x = .int .i64 (mx n k)) (fun _ i => m - (intOf i).toNat)
  case atStart => exact ⟨0, by omega, rfl, rfl⟩
  case round =>
    obtain ⟨i, hi, rfl, rfl⟩ := hrel
    by_cases hlt : i < m
    · obtain ⟨b0, off, rfl, hbb, hcell⟩ := h (by omega)
      have hx : w.cell? ⟨b0, off + i, none⟩ = some (.slice (A i) (n i) (c i)) := hcell i hlt
      have hni := hn i hlt
      have hmi := mx_le n 100000 i fun j hj => hn j (by omega)
      have HS := Lib.hid (show mx n (i + 1) = max (mx n i) (n i) from rfl)
      clear hcell
      by_cases hle : mx n i ≤ n i
      all_goals
        go_wp2
        go_round
        case rel => exact ⟨i + 1, by omega, by go_num, by rw [HS.out]; go_num⟩
        case measure => simp [intOf]; omega
    · obtain rfl : i = m := by omega
      have hM := mx_le n 100000 i fun j hj => hn j (by omega)
      have hMi := le_mx n i
      clear hlt hi
      go_wp2_with (at_make; go_loud (refine wpList_zeros _ rfl _ _ 26 rfl w.heap.size w (Below.refl _ _) (Nat.le_refl _) 60 (.complex .f64 0 0) 16 infoCx rfl Try.underlying26 _ _ _ _ (mx n i) rfl rfl rfl rfl (by omega) (by unfold maxLen; omega) ?_))
      intro w1 ho1 hb1 hs1 _
      go_wp2
      go_loopw [26] (fun j wr => ∃ r : Nat, r ≤ i ∧ j = .int .i64 r ∧ Owns wr w.heap.size 60 (.slice (some ⟨w.heap.size, 0, none⟩) (mx n i) (mx n i)) (mx n i) (fun k => cx (sm n a r k) (sm n b r k)) ∧ Below w.heap.size w wr) (fun j _ => i - (intOf j).toNat)
      case atStart => exact ⟨0, by omega, rfl, ho1.alike fun k _ => zero_cx, hb1⟩
      case round =>
        obtain ⟨r, hr, rfl, hown, hbel⟩ := hrel
        clear ho1 hb1
        by_cases hlr : r < i
        · obtain ⟨b0, off, rfl, hbb, hcell⟩ := h (by omega)
          have hx : wr.cell? ⟨b0, off + r, none⟩ = some (.slice (A r) (n r) (c r)) := (hbel.cell hbb).trans (hcell r hlr)
          have hnr := hn r hlr
          have hnr2 := hMi r hlr
          have hdr : decide (r < i) = true := by simp; omega
          have hsr := hrow r hlr
          clear hcell
          rcases Nat.eq_zero_or_pos (n r) with h0 | h0
          case' inr =>
            obtain ⟨b1, off1, hA, hbb1, hcell1⟩ := hsr h0
            rw [hA] at hx
            clear hA
          case' inl =>
            have h0' : n r ≤ 0 := by omega
            clear h0
          all_goals
            go_wp2
            go_loopw [32] (fun j wx => ∃ k : Nat, k ≤ n r ∧ j = .int .i64 k ∧ Owns wx w.heap.size 60 (.slice (some ⟨w.heap.size, 0, none⟩) (mx n i) (mx n i)) (mx n i) (fun k' => cx (sm n a (if k' < k then r + 1 else r) k') (sm n b (if k' < k then r + 1 else r) k')) ∧ Below w.heap.size w wx) (fun j _ => n r - (intOf j).toNat)
            case atStart => exact ⟨0, by omega, rfl, hown.alike fun k _ => by simp, hbel⟩
            case round =>
              clear hx hown hbel
              obtain ⟨k, hk, rfl, hown, hbel⟩ := hrel
              by_cases hlk : k < n r
              · try (exfalso; omega)
                all_goals
                  have hy : wr.cell? ⟨b1, off1 + k, none⟩ = some (.complex .f64 (floatOfInt .f64 (a r k)) (floatOfInt .f64 (b r k))) := (hbel.cell hbb1).trans (hcell1 k hlk)
                  have hold := hown.cell (k := k) (by omega)
                  rw [if_neg (Nat.lt_irrefl k)] at hold
                  have hold' : wr.cell? ⟨w.heap.size, k, none⟩ = some (.complex .f64 (floatOfInt .f64 (sm n a r k)) (floatOfInt .f64 (sm n b r k))) := hold
                  have hfr := hown.frozen k
                  have hadd := run_add_cx wr (sm n a r k) (sm n b r k) (a r k) (b r k) (hsa r k hlr) (hsb r k hlr) (ha r k hlr hlk) (hb r k hlr hlk)
                  have e1 : sm n a (r + 1) k = sm n a r k + a r k := by simp [sm, hlk]
                  have e2 : sm n b (r + 1) k = sm n b r k + b r k := by simp [sm, hlk]
                  have ho2 := hown.set_ (V' := fun k' => cx (sm n a (if k' < k + 1 then r + 1 else r) k') (sm n b (if k' < k + 1 then r + 1 else r) k')) k (.complex .f64 (floatOfInt .f64 (sm n a r k + a r k)) (floatOfInt .f64 (sm n b r k + b r k))) (by
                      show cx _ _ = _
                      rw [if_pos (by omega), e1, e2]
                      rfl) (fun j _ hj => by
                    show cx _ _ = cx _ _
                    by_cases h1 : j < k
                    · rw [if_pos h1, if_pos (by omega)]
                    · rw [if_neg h1, if_neg (by omega)])
                  have hb2 := hbel.setCell (p := ⟨w.heap.size, k, none⟩) (Nat.le_refl _) (.complex .f64 (floatOfInt .f64 (sm n a r k + a r k)) (floatOfInt .f64 (sm n b r k + b r k)))
                  have hkM : k < mx n i := by omega
                  clear hold e1 e2
                  go_wp2
                  go_roundw
                  case rel => exact ⟨k + 1, by omega, by go_num, ho2, hb2⟩
                  case measure => simp [intOf]; omega
              · go_wp2
                go_roundw
                case rel => exact ⟨r + 1, by omega, by go_num, hown.alike fun j _ => by
                    show cx _ _ = cx _ _
                    by_cases h1 : j < k
                    · rw [if_pos h1]
                    · rw [if_neg h1]
                      have h2 : ¬ j < n r := by omega
                      simp [sm, h2], hbel⟩
                case measure => simp [intOf]; omega
        · go_wp2
          go_ret
          exact ⟨_, rfl, by rw [show i = r by omega]; rw [show i = r by omega] at hown; exact hown, hbel⟩
end Go.Proofs.Ytbjojpcgigoenaa
