/- The contracts of package frame's small functions: bounds, kinds, states, their bytes and sums. -/
import Derived.Test.YthigojakapgllaaFrD
namespace Go.Proofs.Ythigojakapgllaa
open Go.RowKit
open Fr (St F)

/-- From nought up to m. -/
def wi (n m : Int) : Bool := decide (0 ≤ n) && decide (n ≤ m)
theorem within_any (n m : Int) (w : World) : Calls Try.prog 50 #[.int .i64 n, .int .i64 m] w fun e w' => e = .returned (.bool (wi n m)) ∧ w = w' := by
  unfold wi
  by_cases h : 0 ≤ n
  all_goals
    go_enter Try.func50, Try.ntmps50
    go_wp2
    go_ret
    exact ⟨by simp [*] <;> omega, rfl⟩
theorem isKind_any (k : Int) (w : World) : Calls Try.prog 41 #[.int .i64 k] w fun e w' => e = .returned (.bool (decide (1 ≤ k) && decide (k ≤ 3))) ∧ w = w' := by
  have hcase : k = 1 ∨ (k ≠ 1 ∧ k = 2) ∨ (k ≠ 1 ∧ k ≠ 2) := by omega
  rcases hcase with h | ⟨h, h'⟩ | ⟨h, h'⟩
  all_goals
    go_enter Try.func41, Try.ntmps41
    go_wp2
    go_ret
    refine ⟨?_, rfl⟩
  · subst h; rfl
  · subst h'; rfl
  · by_cases h3 : k = 3
    · subst h3; rfl
    · have : (decide (1 ≤ k) && decide (k ≤ 3)) = false := by simp; omega
      rw [this]
      simp [*]
theorem kindOf_any (A : Option Addr) (c : Nat) (l : List Int) (B : Nat) (w : World) (hs : Sees w B A l.length (bv l)) (hl : bytesL l) (hlen : l.length ≤ maxLen) : Calls Try.prog 40 #[.slice A l.length c] w fun e w' => e = .returned (.int .i64 (Fr.kd l)) ∧ w = w' := by
  unfold maxLen at hlen
  have hb := hl.getD 0
  rcases Nat.eq_zero_or_pos l.length with h0 | h0
  · have h1 : Fr.kd l = 0 := by rw [List.length_eq_zero_iff.1 h0]; rfl
    rw [h1, h0]
    go_enter Try.func40, Try.ntmps40
    go_wp2
    go_ret
    exact ⟨rfl, rfl⟩
  · obtain ⟨b, off, rfl, hbb, hc⟩ := hs h0
    have hc := hc 0 h0
    rw [Nat.add_zero] at hc
    unfold bv at hc
    unfold Fr.kd
    generalize l.getD 0 0 = x at *
    go_enter Try.func40, Try.ntmps40
    go_wp2
    go_ret
    exact ⟨rfl, rfl⟩
theorem isState_any (s : St) (w : World) : Calls Try.prog 42 #[stV s] w fun e w' => e = .returned (.bool s.may) ∧ Below w.heap.size w w' := by
  obtain ⟨r, s, m⟩ := s
  have hm : St.may ⟨r, s, m⟩ = (wi r 65535 && wi s 7 && wi m 255) := by
    unfold St.may wi
    have : decide (s < 8) = decide (s ≤ 7) := by congr 1; exact propext (by omega)
    rw [this]
    simp only [Bool.and_assoc]
  rw [hm]
  clear hm
  have h1 := fun n m W => Lib.hid (within_any n m W)
  unfold stV
  cases b1 : wi r 65535 <;> cases b2 : wi s 7
  all_goals
    go_enter Try.func42, Try.ntmps42
    go_wp2_with (go_at_call 50; refine (h1 _ _ _).out.mono ?_; rintro e w1 ⟨rfl, rfl⟩)
    go_ret
    exact ⟨by simp [*], (Below.refl _ _).alloc (Nat.le_refl _) _⟩
theorem spell_any (s : St) (hs : s.may = true) (w : World) :
    Calls Try.prog 57 #[stV s] w fun e w' => ∃ v, e = .returned v ∧ OwnsL w' w.heap.size v s.bytes ∧ Below w.heap.size w w' := by
  obtain ⟨⟨h1, h2⟩, ⟨h3, h4⟩, h5, h6⟩ := s.may_iff.1 hs
  obtain ⟨r, s, m⟩ := s
  simp only at h1 h2 h3 h4 h5 h6
  unfold stV
  clear hs
  go_enter Try.func57, Try.ntmps57
  go_wp2
  go_ret
  exact ⟨_, rfl, owns_lit _ _ rfl _ [r / 256, r % 256, s, m] rfl _ (by simp) (by simp [maxLen]) _ _ _ (by simp) rfl rfl, ((Below.refl _ _).alloc (Nat.le_refl _) _).alloc (by simp) _⟩
theorem or_pair (x y : Int) (hx : 0 ≤ x ∧ x < 256) (hy : 0 ≤ y ∧ y < 256) : bits BinOp.or IntKind.i64 (x * 256) y = x * 256 + y := by
  obtain ⟨X, rfl⟩ := Int.eq_ofNat_of_zero_le hx.1
  obtain ⟨Y, rfl⟩ := Int.eq_ofNat_of_zero_le hy.1
  have h1 : X < 256 := by omega
  have h2 : Y < 256 := by omega
  show IntKind.i64.wrap ((BitVec.ofInt 64 ((X : Int) * 256) ||| BitVec.ofInt 64 (Y : Int)).toNat : Int) = _
  have e : (X : Int) * 256 = ((X * 256 : Nat) : Int) := by omega
  rw [e, BitVec.toNat_or, BitVec.toNat_ofInt, BitVec.toNat_ofInt, IntKind.wrap_i64]
  have e1 : ((((X * 256 : Nat) : Int) % ((2 ^ 64 : Nat) : Int))).toNat = X <<< 8 := by rw [Nat.shiftLeft_eq]; omega
  have e2 : (((Y : Int) % ((2 ^ 64 : Nat) : Int))).toNat = Y := by omega
  rw [e1, e2, ← Nat.shiftLeft_add_eq_or_of_lt (b := Y) (i := 8) (by omega) X, Nat.shiftLeft_eq]
  omega
theorem pair_any (b off c : Nat) (n : Nat) (x y : Int) (w : World) (hn : 2 ≤ n) (hn2 : n ≤ maxLen) (h0 : w.cell? ⟨b, off, none⟩ = some (.int .u8 x)) (h1 : w.cell? ⟨b, off + 1, none⟩ = some (.int .u8 y)) (hx : 0 ≤ x ∧ x < 256) (hy : 0 ≤ y ∧ y < 256) :
    Calls Try.prog 45 #[.slice (some ⟨b, off, none⟩) n c] w fun e w' => e = .returned (.int .i64 (x * 256 + y)) ∧ ∃ m, w.drewN m = w' := by
  unfold maxLen at hn2
  have ho := or_pair x y hx hy
  go_enter Try.func45, Try.ntmps45
  go_wp2
  go_quiet (fail)
  go_wp2
  go_ret
  exact ⟨rfl, _, rfl⟩

theorem seed_dev (s : St) (w : World) : Calls Try.prog 52 #[stV s] w fun e w' => e = .returned (.int .i64 (s.seed : Nat)) ∧ Below w.heap.size w w' := by
  have hm := fun W => isState_any s W
  have hst := fun h W => spell_any s h W
  have hsd : s.may = true → s.seed = Fr.sumL 32767 s.bytes := fun h => by rw [St.seed, if_pos h]
  have hsd0 : s.may = false → s.seed = 0 := fun h => by rw [St.seed, if_neg (by rw [h]; decide)]
  have hok : s.may = true → ∀ k, 0 ≤ s.bytes.getD k 0 ∧ s.bytes.getD k 0 < 256 := fun h k => (St.bytes_ok h).getD k
  have h32 : Cr.sd 32767 = 32767 := by decide
  have hsum := fun A c W (h : Sees W W.heap.size A s.bytes.length (bv s.bytes)) hz => sum_one A s.bytes.length c (fun k => s.bytes.getD k 0) 32767 W 32 W.heap.size rfl h hz (by simp [St.bytes, maxLen])
  simp only [Fr.sum_all, h32] at hsum
  cases hb : s.may
  · rw [hb] at hm
    rw [hsd0 hb]
    clear hst hsd hsd0 hok hsum h32 hb
    have hm := fun W => Lib.hid (hm W)
    unfold stV at hm ⊢
    go_enter Try.func52, Try.ntmps52
    go_wp2_with (go_at_call 42; refine (hm _).out.mono ?_; rintro e w1 ⟨rfl, hb⟩; have hb := ((Below.refl w.heap.size w).alloc (Nat.le_refl _) _).trans (hb.mono (by simp)))
    go_ret
    exact ⟨rfl, hb⟩
  · rw [hb] at hm
    have hm := fun W => Lib.hid (hm W)
    have hst := fun W => Lib.hid (hst hb W)
    have hok := Lib.hid (hok hb)
    have hsum := fun A c W h hz => Lib.hid (hsum A c W h hz)
    rw [hsd hb]
    generalize s.bytes = l at *
    clear hsd hsd0 h32 hb
    unfold stV at hm hst ⊢
    go_enter Try.func52, Try.ntmps52
    go_wp2_with (go_at_call 42; refine (hm _).out.mono ?_; rintro e w1 ⟨rfl, hb⟩; have hc := bcell hb; have hz := hb.size; simp only [World.size_alloc] at hz; have hb := ((Below.refl w.heap.size w).alloc (Nat.le_refl _) _).trans (hb.mono (by simp)))
    clear hm
    refine (hst _).out.mono ?_
    rintro e w2 ⟨v, rfl, ho, hb2⟩
    have hb := hb.trans (hb2.mono hb.size)
    obtain ⟨A, c, rfl, -, -, g, -⟩ := ho.sees.at_
    clear ho hst hc hb2
    go_wp2_with fail
    refine (hsum A c w2 g (fun k _ => hok.out k)).out.mono ?_
    rintro e w3 ⟨rfl, rfl⟩
    go_wp2
    go_ret
    exact ⟨rfl, hb.alloc hb.size _⟩
end Go.Proofs.Ythigojakapgllaa
