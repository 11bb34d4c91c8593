/- The contracts of line.Gate and line.Turn over rows of whole numbers, and of the law's own Same where two rows are one. -/
import Derived.Test.YtbjojpcgigoenaaLineG
import Derived.Test.YtbjojpcgigoenaaCopy
namespace Go.Proofs.Ytbjojpcgigoenaa
open Go.RowKit

set_option maxHeartbeats 1000000 in
theorem same_any (A A' : Option Addr) (n c c' B B' : Nat) (a b : Nat → Int) (w : World) (h : Sees w B A n fun k => cx (a k) (b k)) (h' : Sees w B' A' n fun k => cx (a k) (b k)) (ha : ∀ k, k < n → (a k).natAbs < 2 ^ 53) (hb : ∀ k, k < n → (b k).natAbs < 2 ^ 53) (hn : n ≤ 140737488355328) :
    Calls Try.prog 16 #[.slice A n c, .slice A' n c'] w fun e w' => e = .returned (.bool true) ∧ ∃ m, w' = w.drewN m := by
  go_enter Try.func16, Try.ntmps16
  go_wp2
  go_loopw [5] (fun i wr => ∃ k : Nat, k ≤ n ∧ i = .int .i64 k ∧ ∃ m, wr = w.drewN m) (fun i _ => n - (intOf i).toNat)
  case atStart => exact ⟨0, by omega, rfl, 0, rfl⟩
  case round =>
    obtain ⟨k, hk, rfl, m, rfl⟩ := hrel
    by_cases hlt : k < n
    · obtain ⟨b0, off, rfl, -, hcell⟩ := h (by omega)
      obtain ⟨b1, off1, rfl, -, hcell1⟩ := h' (by omega)
      have hx : w.cell? ⟨b0, off + k, none⟩ = some (.complex .f64 (floatOfInt .f64 (a k)) (floatOfInt .f64 (b k))) := hcell k hlt
      have hy : w.cell? ⟨b1, off1 + k, none⟩ = some (.complex .f64 (floatOfInt .f64 (a k)) (floatOfInt .f64 (b k))) := hcell1 k hlt
      have o1 := order_eq (a k) (a k) (ha k hlt) (ha k hlt)
      have o2 := order_eq (b k) (b k) (hb k hlt) (hb k hlt)
      simp only [decide_true] at o1 o2
      have hki : (k : Int) < n := by omega
      clear hcell hcell1
      go_wp2_with fail
      go_quiet (fail)
      go_wp2
      go_roundw
      case rel => exact ⟨k + 1, by omega, by go_num, _, rfl⟩
      case measure => simp [intOf]; omega
    · go_wp2
      go_ret
      exact ⟨rfl, m, rfl⟩

def pf (f : Bool) (a : Int) : Int := if f then a else 0
theorem keep_cx (a b : Int) (f s : Bool) (w : World) :
    Calls Try.prog 33 #[cx a b, .bool f, .bool s] w fun e w' => e = .returned (.complex .f64 (floatOfInt .f64 (pf f a)) (floatOfInt .f64 (pf s b))) ∧ w = w' := by
  have h := keep_any (floatOfInt .f64 a) (floatOfInt .f64 b) f s w
  have e1 : ∀ (f : Bool) (a : Int), part f (floatOfInt .f64 a) = floatOfInt .f64 (pf f a) := fun f a => by
    cases f
    · simp only [part, pf, Bool.false_eq_true, if_false]
      exact fl_zero.symm
    · simp only [part, pf, if_true]
  rw [e1, e1] at h
  exact h
theorem store_complex (P : Program) (w : World) (ad : Addr) (m : Mode) (k : FloatKind) (a b : Nat) : (store ad (.complex k a b) m).run P w = stored P w ad (.complex k a b) m := run_store P w ad _ m rfl
attribute [local go_sem] store_complex

set_option maxHeartbeats 1000000 in
theorem gate_any (A : Option Addr) (n c : Nat) (a b : Nat → Int) (f s : Bool) (w : World) (h : Sees w w.heap.size A n fun k => cx (a k) (b k)) (hr : n ≤ 8796093022208) :
    Calls Try.prog 20 #[.slice A n c, .bool f, .bool s] w fun e w' =>
      ∃ v, e = .returned v ∧ Owns w' w.heap.size 60 v n (fun k => cx (pf f (a k)) (pf s (b k))) ∧ Below w.heap.size w w' := by
  go_enter Try.func20, Try.ntmps20
  go_wp2_with (at_make; go_loud (refine wpList_zeros _ rfl _ _ 26 rfl w.heap.size w (Below.refl _ _) (Nat.le_refl _) 60 (.complex .f64 0 0) 16 infoCx rfl Try.underlying26 _ _ _ _ n rfl rfl rfl rfl (by omega) (by unfold maxLen; omega) ?_))
  intro w1 ho1 hb1 hs1 _
  go_wp2
  go_loopw [15] (fun i wr => ∃ k : Nat, k ≤ n ∧ i = .int .i64 k ∧ Owns wr w.heap.size 60 (.slice (some ⟨w.heap.size, 0, none⟩) n n) n (fun j => if j < k then cx (pf f (a j)) (pf s (b j)) else .complex .f64 0 0) ∧ Below w.heap.size w wr) (fun i _ => n - (intOf i).toNat)
  case atStart => exact ⟨0, by omega, rfl, ho1.alike fun k _ => by simp, hb1⟩
  case round =>
    obtain ⟨k, hk, rfl, hown, hbel⟩ := hrel
    clear ho1 hb1
    by_cases hlt : k < n
    · obtain ⟨b0, off, rfl, hbb, hcell⟩ := h (by omega)
      have hx : wr.cell? ⟨b0, off + k, none⟩ = some (.complex .f64 (floatOfInt .f64 (a k)) (floatOfInt .f64 (b k))) := (hbel.cell hbb).trans (hcell k (by omega))
      have hold := hown.cell hlt
      have hfr := hown.frozen k
      rw [if_neg (Nat.lt_irrefl k)] at hold
      have ho2 := hown.set_ (V' := fun j => if j < k + 1 then cx (pf f (a j)) (pf s (b j)) else .complex .f64 0 0) k (cx (pf f (a k)) (pf s (b k))) (by simp) (fun j _ hj => by
        by_cases h1 : j < k
        · rw [if_pos h1, if_pos (by omega)]
        · rw [if_neg h1, if_neg (by omega)])
      have hb2 := hbel.setCell (p := ⟨w.heap.size, k, none⟩) (Nat.le_refl _) (cx (pf f (a k)) (pf s (b k)))
      clear hcell
      go_wp2_with (go_at_call 33; refine (keep_cx (a k) (b k) f s _).mono ?_; rintro e w' ⟨rfl, rfl⟩)
      go_roundw
      case rel => exact ⟨k + 1, by omega, by go_num, ho2, hb2⟩
      case measure => simp [intOf]; omega
    · go_wp2
      go_ret
      exact ⟨_, rfl, hown.alike fun j hj => by rw [if_pos (by omega)], hbel⟩

theorem run_sub_cx (w : World) (a b : Int) (ha : a.natAbs < 2 ^ 52) (hb : b.natAbs < 2 ^ 52) :
    (binOp .sub 60 (.complex .f64 0 0) (.complex .f64 (floatOfInt .f64 a) (floatOfInt .f64 b))).run Try.prog w = .ok (.complex .f64 (floatOfInt .f64 (-a)) (floatOfInt .f64 (-b))) w := by
  refine run_complex_sum w .sub (.inr rfl) _ _ _ _ _ _ _ _ ?_
  unfold cSumBits
  rw [sub_zero_fl a ha, sub_zero_fl b hb]
  rfl
theorem run_add_cx (w : World) (a b c d : Int) (ha : a.natAbs < 2 ^ 52) (hb : b.natAbs < 2 ^ 52) (hc : c.natAbs < 2 ^ 52) (hd : d.natAbs < 2 ^ 52) :
    (binOp .add 60 (.complex .f64 (floatOfInt .f64 a) (floatOfInt .f64 b)) (.complex .f64 (floatOfInt .f64 c) (floatOfInt .f64 d))).run Try.prog w = .ok (.complex .f64 (floatOfInt .f64 (a + c)) (floatOfInt .f64 (b + d))) w := by
  refine run_complex_sum w .add (.inl rfl) _ _ _ _ _ _ _ _ ?_
  unfold cSumBits
  rw [add_fl a c ha hc, add_fl b d hb hd]
  rfl

/-- A row with the sample at a place turned. -/
def turned (t : Int) (a : Nat → Int) (k : Nat) : Int := if (k : Int) = t then -a k else a k

set_option maxHeartbeats 1000000 in
theorem turn_any (A : Option Addr) (n c : Nat) (a b : Nat → Int) (t : Int) (w : World) (h : Sees w w.heap.size A n fun k => cx (a k) (b k)) (ha : ∀ k, k < n → (a k).natAbs < 2 ^ 52) (hb : ∀ k, k < n → (b k).natAbs < 2 ^ 52) (ht : -9223372036854775808 ≤ t ∧ t ≤ 9223372036854775807) (hr : n ≤ 8796093022208) :
    Calls Try.prog 22 #[.slice A n c, .int .i64 t] w fun e w' =>
      ∃ v, e = .returned v ∧ Owns w' w.heap.size 60 v n (fun k => cx (turned t a k) (turned t b k)) ∧ Below w.heap.size w w' := by
  by_cases h0 : 0 ≤ t ∧ t < n
  · obtain ⟨T, rfl⟩ := Int.eq_ofNat_of_zero_le h0.1
    have hT : T < n := by omega
    have hd0 : decide ((0 : Int) ≤ (T : Int)) = true := by simp
    have hd1 : decide (T < n) = true := by simp; omega
    clear h0
    go_enter Try.func22, Try.ntmps22
    go_wp2_with (at_make; go_loud (refine wpList_zeros _ rfl _ _ 26 rfl w.heap.size w (Below.refl _ _) (Nat.le_refl _) 60 (.complex .f64 0 0) 16 infoCx rfl Try.underlying26 _ _ _ _ n rfl rfl rfl rfl (by omega) (by unfold maxLen; omega) ?_))
    intro w1 ho1 hb1 hs1 _
    go_wp2_with (with_reducible refine wpList_copyAll _ rfl (.tmp 9) (.tmp 10) 26 26 rfl 60 (.complex .f64 0 0) 16 Try.underlying26 infoCx w.heap.size w hb1 w.heap.size n _ ho1 rfl w.heap.size A c _ rfl (h.below hb1) (fun _ _ => rfl) ?_)
    intro w2 ho2 hb2
    have hx : w2.cell? ⟨w.heap.size, T, none⟩ = some (.complex .f64 (floatOfInt .f64 (a T)) (floatOfInt .f64 (b T))) := ho2.cell hT
    have hfr := ho2.frozen T
    have hsub := run_sub_cx w2 (a T) (b T) (ha T hT) (hb T hT)
    have ho3 := ho2.set_ (V' := fun k => cx (turned (T : Int) a k) (turned (T : Int) b k)) T (.complex .f64 (floatOfInt .f64 (-a T)) (floatOfInt .f64 (-b T))) (by simp [turned, cx]) (fun j _ hj => by
      have : ¬ (j : Int) = (T : Int) := by omega
      simp [turned, this])
    have hb3 := hb2.setCell (p := ⟨w.heap.size, T, none⟩) (Nat.le_refl _) (.complex .f64 (floatOfInt .f64 (-a T)) (floatOfInt .f64 (-b T)))
    clear ho1 ho2 hb1 hb2
    go_wp2
    go_ret
    exact ⟨_, rfl, ho3, hb3⟩
  · have hno : ∀ k, k < n → ¬ (k : Int) = t := fun k hk e => h0 ⟨by omega, by omega⟩
    by_cases h1 : 0 ≤ t
    · have h2 : ¬ t < n := fun e => h0 ⟨h1, e⟩
      have hd0 : decide (0 ≤ t) = true := by simp; omega
      have hd1 : decide (t < (n : Int)) = false := by simp; omega
      clear h0
      go_enter Try.func22, Try.ntmps22
      go_wp2_with (at_make; go_loud (refine wpList_zeros _ rfl _ _ 26 rfl w.heap.size w (Below.refl _ _) (Nat.le_refl _) 60 (.complex .f64 0 0) 16 infoCx rfl Try.underlying26 _ _ _ _ n rfl rfl rfl rfl (by omega) (by unfold maxLen; omega) ?_))
      intro w1 ho1 hb1 hs1 _
      go_wp2_with (with_reducible refine wpList_copyAll _ rfl (.tmp 9) (.tmp 10) 26 26 rfl 60 (.complex .f64 0 0) 16 Try.underlying26 infoCx w.heap.size w hb1 w.heap.size n _ ho1 rfl w.heap.size A c _ rfl (h.below hb1) (fun _ _ => rfl) ?_)
      intro w2 ho2 hb2
      clear ho1 hb1
      go_wp2
      go_ret
      exact ⟨_, rfl, ho2.alike fun k hk => by simp [turned, hno k hk], hb2⟩
    · have hd0 : decide (0 ≤ t) = false := by simp; omega
      clear h0
      go_enter Try.func22, Try.ntmps22
      go_wp2_with (at_make; go_loud (refine wpList_zeros _ rfl _ _ 26 rfl w.heap.size w (Below.refl _ _) (Nat.le_refl _) 60 (.complex .f64 0 0) 16 infoCx rfl Try.underlying26 _ _ _ _ n rfl rfl rfl rfl (by omega) (by unfold maxLen; omega) ?_))
      intro w1 ho1 hb1 hs1 _
      go_wp2_with (with_reducible refine wpList_copyAll _ rfl (.tmp 9) (.tmp 10) 26 26 rfl 60 (.complex .f64 0 0) 16 Try.underlying26 infoCx w.heap.size w hb1 w.heap.size n _ ho1 rfl w.heap.size A c _ rfl (h.below hb1) (fun _ _ => rfl) ?_)
      intro w2 ho2 hb2
      clear ho1 hb1
      go_wp2
      go_ret
      exact ⟨_, rfl, ho2.alike fun k hk => by simp [turned, hno k hk], hb2⟩
end Go.Proofs.Ytbjojpcgigoenaa
