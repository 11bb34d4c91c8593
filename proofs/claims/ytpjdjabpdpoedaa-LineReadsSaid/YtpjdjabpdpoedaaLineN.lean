/- The contracts of matronref1's level, channel, Read and Energy over rows of pairs. -/
import Derived.Test.YtpjdjabpdpoedaaLineL
import Derived.Test.YtpjdjabpdpoedaaLineK
import Derived.Test.YtpjdjabpdpoedaaText
import Derived.IntWalk
namespace Go.Proofs.Ytpjdjabpdpoedaa
open Go.RowKit

theorem refLevel_any (a b : Int) (s : Bool) (w : World) :
    Calls Try.prog 26 #[.agg #[.int .i64 a, .int .i64 b], .bool s] w fun e w' => e = .returned (.int .i64 (pt s a b)) ∧ Below w.heap.size w w' := by
  cases s
  all_goals
    go_enter Try.func26, Try.ntmps26
    go_wp2
    go_ret
    exact ⟨by simp [pt], (Below.refl _ _).alloc (Nat.le_refl _) _⟩

theorem Owns.below {w w' : World} {B B' n : Nat} {e : TypeId} {v : Value} {V : Nat → Value} (h : Owns w B e v n V) (hb : Below B' w w') (hB : w.heap.size ≤ B') : Owns w' B e v n V :=
  World.ownsRow.kept (row := none) h ⟨hb.os, hb.tape, hb.output, hb.size, fun k hk _ => hb.block k (by omega)⟩ (by
    rcases h.2 with ⟨rfl, _⟩ | ⟨g, cap, cur, rfl, _⟩
    · exact .inl rfl
    · exact .inr (by simp [Value.ownBlock]))

theorem class_of (q : Nat → Int) (E : Bool) (k : Nat) :
    (q k = 0 ∧ allZ q (k + 1) = allZ q k ∧ (E && allU q (k + 1)) = false) ∨ (q k = 1 ∧ allZ q (k + 1) = false ∧ (E && allU q (k + 1)) = (E && allU q k)) ∨ (q k = -1 ∧ allZ q (k + 1) = false ∧ (E && allU q (k + 1)) = (E && allU q k)) ∨
    (q k ≠ 1 ∧ (q k == 1) = false ∧ (q k == -1) = false ∧ (q k != 0) = true ∧ allZ q (k + 1) = false ∧ (E && allU q (k + 1)) = false) := by
  rw [allZ_succ, allU_succ]
  by_cases h0 : q k = 0
  · exact .inl ⟨h0, by simp [h0], by simp [h0]⟩
  by_cases h1 : q k = 1
  · exact .inr (.inl ⟨h1, by simp [h1], by simp [h1]⟩)
  by_cases h2 : q k = -1
  · exact .inr (.inr (.inl ⟨h2, by simp [h2], by simp [h2]⟩))
  · exact .inr (.inr (.inr ⟨h1, by simpa using h1, by simpa using h2, by simpa using h0, by simp [h0], by simp [h1, h2]⟩))

set_option maxRecDepth 100000 in
set_option maxHeartbeats 4000000 in
theorem channel_any (A : Option Addr) (n c : Nat) (a b : Nat → Int) (s : Bool) (w : World) (h : Sees w w.heap.size A (2 * n) (prs a b)) (hn : n ≤ 100000) :
    Calls Try.prog 23 #[.slice A n c, .bool s] w (SomeTold w (fun k => pt s (a k) (b k)) n) := by
  obtain ⟨E, hE⟩ : ∃ E : Bool, E = decide (n % 8 = 0) := ⟨_, rfl⟩
  have HE := Lib.hid hE
  have hE' : ((n : Int) % 8 == 0) = E := by
    rw [hE, Bool.eq_iff_iff]
    simp
    omega
  clear hE
  obtain ⟨m, hm⟩ : ∃ m, m = n / 8 := ⟨_, rfl⟩
  have HM := Lib.hid hm
  have hm1 : 8 * m ≤ n := by omega
  have hm2 : n ≤ 8 * m + 7 := by omega
  have hmn : (n : Int) / 8 = m := by omega
  clear hm
  go_enter Try.func23, Try.ntmps23
  go_wp2_with (at_make; go_loud (refine wpList_zeros _ rfl _ _ 36 rfl w.heap.size w (Below.refl _ _) (Nat.le_refl _) 5 (.int .u8 0) 1 infoByte rfl Try.underlying36 _ _ _ _ m rfl rfl rfl rfl (by omega) (by unfold maxLen; omega) ?_))
  intro w1 ho1 hb1 hs1 _
  clear hmn hE'
  go_wp2
  go_loopw [6, 7, 9] (fun x y i wr => ∃ k : Nat, k ≤ n ∧ i = .int .i64 k ∧ x = .bool (!allZ (fun k => pt s (a k) (b k)) k) ∧ y = .bool (E && allU (fun k => pt s (a k) (b k)) k) ∧ Owns wr w.heap.size 5 (.slice (some ⟨w.heap.size, 0, none⟩) m m) m (packAt (fun k => pt s (a k) (b k)) k) ∧ Below w.heap.size w wr) (fun _ _ i _ => n - (intOf i).toNat)
  case atStart => exact ⟨0, by omega, rfl, by simp [allZ], by simp [allU], ho1.alike fun k _ => (packAt_zero _ k).symm, hb1⟩
  case round =>
    obtain ⟨k, hk, rfl, rfl, rfl, hown, hbel⟩ := hrel
    clear ho1 hb1 hs1
    by_cases hlt : k < n
    · obtain ⟨b0, off, rfl, hbb, hcell⟩ := h (by omega)
      have e0 : wr.cell? ⟨b0, off + k * 2, none⟩ = some (.int .i64 (a k)) := by rw [← prs_even a b k]; exact (hbel.cell hbb).trans (hcell (k * 2) (by omega))
      have e1 : wr.cell? ⟨b0, off + k * 2 + 1, none⟩ = some (.int .i64 (b k)) := by rw [← prs_odd a b k]; exact (hbel.cell hbb).trans (hcell (k * 2 + 1) (by omega))
      have hcl := Lib.hid (class_of (fun k => pt s (a k) (b k)) E k)
      have HP := Lib.hid (packAt_same (fun k => pt s (a k) (b k)) k)
      have HO := Lib.hid (packAt_or (fun k => pt s (a k) (b k)) k)
      have HT := Lib.hid (fun j => packAt_other (fun k => pt s (a k) (b k)) k j)
      have q2 : decide (k < n) = true := by simp; omega
      have q3 : (k : Int) < n := by omega
      clear hcell
      go_wp2_with fail
      refine (refLevel_any (a k) (b k) s wr).mono ?_
      rintro e w2 ⟨he, hb2⟩
      have ho2 := hown.below hb2 (Nat.le_refl _)
      have hbel2 := hbel.trans (hb2.mono hbel.size)
      clear hown hbel hb2 e0 e1
      generalize hX : allZ (fun k => pt s (a k) (b k)) k = X at *
      generalize hY : (E && allU (fun k => pt s (a k) (b k)) k) = Y at *
      have HX := Lib.hid hX
      have HY := Lib.hid hY
      clear hX hY
      rcases hcl.out with ⟨h0, hz, hu⟩ | ⟨h0, hz, hu⟩ | ⟨h0, hz, hu⟩ | ⟨h0, d1, d2, d3, hz, hu⟩
      case' inl | inr.inr.inl =>
        have HH := Lib.hid h0
        have HZ := Lib.hid hz
        have HU := Lib.hid hu
        have h0' : pt s (a k) (b k) = _ := h0
        rw [h0'] at he
        clear h0 h0' hz hu
        subst he
        have ho3 := ho2.alike fun j _ => (HP.out (by rw [HH.out]; decide) j).symm
        clear ho2 HP HO HT hcl
        cases X <;> cases Y
        all_goals
          go_wp2
          go_roundw
          case rel => exact ⟨k + 1, by omega, by go_num, (by rw [HZ.out]; try rfl), (by rw [HU.out]; try rfl), ho3, hbel2⟩
          case measure => simp [intOf]; omega
      case' inr.inr.inr =>
        have HZ := Lib.hid hz
        have HU := Lib.hid hu
        have d1' : (pt s (a k) (b k) == 1) = false := d1
        have d2' : (pt s (a k) (b k) == -1) = false := d2
        have d3' : (pt s (a k) (b k) != 0) = true := d3
        clear d1 d2 d3
        have ho3 := ho2.alike fun j _ => (HP.out h0 j).symm
        clear ho2 HP HO HT hcl h0 hz hu
        subst he
        generalize pt s (a k) (b k) = v at *
        cases X <;> cases Y
        all_goals
          go_wp2
          go_roundw
          case rel => exact ⟨k + 1, by omega, by go_num, (by rw [HZ.out]; try rfl), (by rw [HU.out]; try rfl), ho3, hbel2⟩
          case measure => simp [intOf]; omega
      have HH := Lib.hid h0
      have HZ := Lib.hid hz
      have HU := Lib.hid hu
      have h0' : pt s (a k) (b k) = _ := h0
      rw [h0'] at he
      clear h0 h0' hz hu hcl HP
      subst he
      by_cases hkm : k / 8 < m
      · have hb0 : packAt (fun k => pt s (a k) (b k)) k (k / 8) = .int .u8 (packTo (fun k => pt s (a k) (b k)) (k / 8) (k % 8) : Nat) := by
          unfold packAt
          rw [show min 8 (k - 8 * (k / 8)) = k % 8 by omega]
        have hbyte := ho2.cell hkm
        rw [hb0] at hbyte
        have hfr := ho2.frozen (k / 8)
        have H2 := Lib.hid (HO.out HH.out)
        clear hb0 HO
        generalize packTo (fun k => pt s (a k) (b k)) (k / 8) (k % 8) = Z at *
        have ho3 := ho2.set_ (k / 8) (.int .u8 (bits BinOp.or IntKind.u8 Z (128 / 2 ^ (k % 8)))) H2.out (fun j _ hj => HT.out j hj)
        have hb3 := hbel2.setCell (p := ⟨w.heap.size, k / 8, none⟩) (Nat.le_refl _) (.int .u8 (bits BinOp.or IntKind.u8 Z (128 / 2 ^ (k % 8))))
        have q4 : (k : Int) / 8 < m := by omega
        have q5 : decide ((k : Int) / 8 < m) = true := by simp; omega
        clear ho2 hbel2 HT
        cases X <;> cases Y
        all_goals
          go_wp2
          go_roundw
          case rel => exact ⟨k + 1, by omega, by go_num, (by rw [HZ.out]; try rfl), (by rw [HU.out]; try rfl), ho3, hb3⟩
          case measure => simp [intOf]; omega
      · have ho3 := ho2.alike fun j hj => (HT.out j (by omega)).symm
        have q5 : decide ((k : Int) / 8 < m) = false := by simp; omega
        clear ho2 HO HT
        cases X <;> cases Y
        all_goals
          go_wp2
          go_roundw
          case rel => exact ⟨k + 1, by omega, by go_num, (by rw [HZ.out]; try rfl), (by rw [HU.out]; try rfl), ho3, hbel2⟩
          case measure => simp [intOf]; omega
    · obtain rfl : k = n := by omega
      have hown2 : Owns wr w.heap.size 5 (.slice (some ⟨w.heap.size, 0, none⟩) m m) m (fun j => .int .u8 (packed (fun k => pt s (a k) (b k)) j)) := hown.alike fun j hj => packAt_all _ k j (by omega)
      clear hown
      generalize hX : allZ (fun k => pt s (a k) (b k)) k = X at *
      generalize hY : (E && allU (fun k => pt s (a k) (b k)) k) = Y at *
      have HX := Lib.hid hX
      have HY := Lib.hid hY
      clear hX hY
      cases X
      · cases Y
        · go_wp2
          go_ret2
          refine ⟨1, _, rfl, .inr (.inr ⟨HX.out, ?_, rfl, rfl⟩), hbel⟩
          have h1 := HY.out
          rw [HE.out, Bool.and_eq_false_iff] at h1
          rcases h1 with h1 | h1
          · exact .inl (by simpa using h1)
          · exact .inr h1
        · have h1 := HY.out
          rw [Bool.and_eq_true, HE.out] at h1
          obtain ⟨h8, h9⟩ := h1
          have H8 := Lib.hid (show k % 8 = 0 by simpa using h8)
          have H9 := Lib.hid h9
          have hown3 := Lib.hid (show Owns wr w.heap.size 5 (.slice (some ⟨w.heap.size, 0, none⟩) m m) (k / 8) (fun j => .int .u8 (packed (fun k => pt s (a k) (b k)) j)) by rw [← HM.out]; exact hown2)
          clear h8 h9 hown2
          go_wp2
          go_ret2
          exact ⟨2, _, rfl, .inr (.inl ⟨HX.out, H8.out, H9.out, rfl, hown3.out⟩), hbel⟩
      · go_wp2
        go_ret2
        exact ⟨0, _, rfl, .inl ⟨HX.out, rfl, rfl⟩, hbel⟩

theorem refRead_any (A : Option Addr) (n c : Nat) (a b : Nat → Int) (w : World) (h : Sees w w.heap.size A (2 * n) (prs a b)) (hn : n ≤ 100000) :
    Calls Try.prog 16 #[.slice A n c] w (BothTold w a b n) := by
  have T1 := channel_any A n c a b false w h hn
  go_enter Try.func16, Try.ntmps16
  go_wp2_with fail
  refine T1.mono ?_
  rintro e w1 ⟨K, v, rfl, ht, hb1⟩
  have T2 := channel_any A n c a b true w1 ((h.below hb1).more hb1.size) hn
  go_wp2_with fail
  refine T2.mono ?_
  rintro e w2 ⟨L, u, rfl, ht2, hb2⟩
  go_wp2
  refine bodyPost_ret (v := .tuple #[.int .i64 K, v, .int .i64 L, u]) (by simp [results, Try.results16, go_sem]) rfl ?_
  refine ⟨K, v, L, u, rfl, ?_, ?_, hb1.trans (hb2.mono hb1.size)⟩
  · simpa [pt] using ht.below hb2 (Nat.le_refl _)
  · simpa [pt] using ht2.base hb1.size

set_option maxHeartbeats 2000000 in
theorem refEnergy_any (A : Option Addr) (n c : Nat) (a b : Nat → Int) (w : World) (h : Sees w w.heap.size A (2 * n) (prs a b)) (hab : ∀ j, j < n → (-9 ≤ a j ∧ a j ≤ 9) ∧ (-9 ≤ b j ∧ b j ≤ 9)) (hn : n ≤ 100000) :
    Calls Try.prog 18 #[.slice A n c] w fun e w' => e = .returned (.int .i64 (en a b n)) ∧ ∃ m, w' = w.drewN m := by
  go_enter Try.func18, Try.ntmps18
  go_wp2
  go_loopw [3, 4] (fun x i wr => ∃ k : Nat, k ≤ n ∧ i = .int .i64 k ∧ x = .int .i64 (en a b k) ∧ ∃ m, wr = w.drewN m) (fun _ i _ => n - (intOf i).toNat)
  case atStart => exact ⟨0, by omega, rfl, rfl, 0, rfl⟩
  case round =>
    obtain ⟨k, hk, rfl, rfl, m, rfl⟩ := hrel
    by_cases hlt : k < n
    · obtain ⟨b0, off, rfl, -, hcell⟩ := h (by omega)
      have f0 : w.cell? ⟨b0, off + k * 2, none⟩ = some (.int .i64 (a k)) := by rw [← prs_even a b k]; exact hcell (k * 2) (by omega)
      have f1 : w.cell? ⟨b0, off + k * 2 + 1, none⟩ = some (.int .i64 (b k)) := by rw [← prs_odd a b k]; exact hcell (k * 2 + 1) (by omega)
      have e0 := en_le a b k fun j hj => hab j (by omega)
      have s1 := sq_le (a k) (hab k hlt).1
      have s2 := sq_le (b k) (hab k hlt).2
      have w1 : IntKind.i64.wrap (a k * a k) = a k * a k := IntWalk.i64_in _ (by omega)
      have w2 : IntKind.i64.wrap (b k * b k) = b k * b k := IntWalk.i64_in _ (by omega)
      have w3 : IntKind.i64.wrap (en a b k + a k * a k) = en a b k + a k * a k := IntWalk.i64_in _ (by omega)
      have w4 : IntKind.i64.wrap (en a b k + a k * a k + b k * b k) = en a b k + a k * a k + b k * b k := IntWalk.i64_in _ (by omega)
      have HE := Lib.hid (show en a b (k + 1) = en a b k + a k * a k + b k * b k by rw [en]; omega)
      have q3 : (k : Int) < n := by omega
      have q2 : decide (k < n) = true := by simp; omega
      clear hcell e0 s1 s2
      go_wp2_with fail
      go_quiet (fail)
      clear w1 w2 w3 w4
      go_wp2
      go_roundw
      case rel => exact ⟨k + 1, by omega, by go_num, by rw [HE.out], _, rfl⟩
      case measure => simp [intOf]; omega
    · obtain rfl : k = n := by omega
      go_wp2
      go_ret
      exact ⟨rfl, m, rfl⟩
end Go.Proofs.Ytpjdjabpdpoedaa
