/- LineTwo holds: two that drive unlike channels do not hear of one another; in one channel they are noise, or, being opposite everywhere, silence. For all bytes. -/
import Derived.Test.YtgchecnfdbnnpaaLineI
import Derived.Test.YtgchecnfdbnnpaaOpen
namespace Go.Proofs.Ytgchecnfdbnnpaa
open Go.ChangeShapes Go.WideShapes Go.ChangeAt Go.RowKit
open Go.ChangeMaps (open_string shut_string)

def two {α : Type} (x y : α) (i : Nat) : α := if i = 0 then x else y
theorem sees_two (w : World) (B : Nat) (e : TypeId) (A0 A1 : Option Addr) (n0 n1 c0 c1 : Nat) (hB : w.heap.size < B) :
    Sees (w.alloc (.cells #[.slice A0 n0 c0, .slice A1 n1 c1] e)) B (some ⟨w.heap.size, 0, none⟩) 2 fun i => .slice (two A0 A1 i) (two n0 n1 i) (two c0 c1 i) := fun _ =>
  ⟨_, _, rfl, hB, fun k hk => by
    rw [World.cell?_alloc_at _ _ _ _ rfl]
    have : k = 0 ∨ k = 1 := by omega
    rcases this with rfl | rfl <;> rfl⟩

theorem bitv_compl (x : Fin 256) (k : Fin 8) : bitv (255 - ((x.val : Nat) : Int)) k.val = !bitv ((x.val : Nat) : Int) k.val := by
  revert x k
  decide +kernel

/-- Two rows' bytes are opposite everywhere. -/
def Opp (n m : Nat) (z y : Nat → Int) : Prop := n = m ∧ ∀ j, j < n → z j = 255 - y j

theorem lv_compl (y : Nat → Int) (k : Nat) (hy : 0 ≤ y (k / 8) ∧ y (k / 8) < 256) : lv true (fun j => 255 - y j) k = -lv true y k := by
  unfold lv
  simp only [if_true]
  obtain ⟨x, hx⟩ := Int.eq_ofNat_of_zero_le hy.1
  have := bitv_compl ⟨x, by omega⟩ ⟨k % 8, by omega⟩
  simp only at this
  have hb : bitv (255 - y (k / 8)) (k % 8) = !bitv (y (k / 8)) (k % 8) := by rw [hx]; exact this
  simp only [hb]
  cases bitv (y (k / 8)) (k % 8) <;> simp

/-- The sum of two rows in one channel. -/
def sum2 (n m : Nat) (z y : Nat → Int) (k : Nat) : Int := (if k < 8 * n then lv true z k else 0) + (if k < 8 * m then lv true y k else 0)

theorem sum2_opp (n m : Nat) (z y : Nat → Int) (_h0 : 0 < n) (h1 : 0 < m) (hz : ∀ k, k < n → 0 ≤ z k ∧ z k < 256) (hy : ∀ k, k < m → 0 ≤ y k ∧ y k < 256) :
    allZ (sum2 n m z y) (max (8 * n) (8 * m)) = true ↔ Opp n m z y := by
  rw [allZ_iff]
  constructor
  · intro h
    have hnm : n = m := by
      rcases Nat.lt_trichotomy n m with h2 | h2 | h2
      · have := h (8 * n) (by omega)
        unfold sum2 at this
        rw [if_neg (by omega), if_pos (by omega)] at this
        rcases lv_unit y (8 * n) with e | e <;> omega
      · exact h2
      · have := h (8 * m) (by omega)
        unfold sum2 at this
        rw [if_pos (by omega), if_neg (by omega)] at this
        rcases lv_unit z (8 * m) with e | e <;> omega
    subst hnm
    refine ⟨rfl, fun j hj => ?_⟩
    have e : packed (lv true z) j = packed (lv true fun j => 255 - y j) j := by
      unfold packed packTo
      rw [foldl_same _ (fun x i => x ||| if lv true (fun j => 255 - y j) (8 * j + i) = 1 then 128 / 2 ^ i else 0) _ _ fun a i hi => ?_]
      have hi8 : i < 8 := List.mem_range.1 hi
      have := h (8 * j + i) (by omega)
      unfold sum2 at this
      rw [if_pos (by omega), if_pos (by omega)] at this
      rw [lv_compl y _ (hy _ (by omega)), show lv true z (8 * j + i) = -lv true y (8 * j + i) by omega]
    have hyj := hy j hj
    rw [packed_lv z j (hz j hj), packed_lv (fun j => 255 - y j) j ⟨by omega, by omega⟩] at e
    exact e
  · rintro ⟨rfl, h⟩ k hk
    unfold sum2
    rw [if_pos (by omega), if_pos (by omega)]
    have e : lv true z k = lv true (fun j => 255 - y j) k := by
      unfold lv
      rw [h (k / 8) (by omega)]
    rw [e, lv_compl y k (hy _ (by omega))]
    omega
theorem sum2_noise (n m : Nat) (z y : Nat → Int) (h0 : 0 < n) (h1 : 0 < m) : allU (sum2 n m z y) (max (8 * n) (8 * m)) = false := by
  rw [Bool.eq_false_iff]
  intro h
  have := (allU_iff _ _).1 h 0 (by omega)
  unfold sum2 at this
  rw [if_pos (by omega), if_pos (by omega)] at this
  rcases lv_unit z 0 with e | e <;> rcases lv_unit y 0 with e2 | e2 <;> omega

theorem told_same {w : World} {B n n' : Nat} {q q' : Nat → Int} {K : Int} {v : Value} (h : Told w B q n K v) (hn : n = n') (hq : ∀ k, k < n → q k = q' k) : Told w B q' n' K v := by
  subst hn
  have hZ : allZ q n = allZ q' n := by
    rw [Bool.eq_iff_iff, allZ_iff, allZ_iff]
    exact ⟨fun h k hk => by rw [← hq k hk]; exact h k hk, fun h k hk => by rw [hq k hk]; exact h k hk⟩
  have hU : allU q n = allU q' n := by
    rw [Bool.eq_iff_iff, allU_iff, allU_iff]
    exact ⟨fun h k hk => by rw [← hq k hk]; exact h k hk, fun h k hk => by rw [hq k hk]; exact h k hk⟩
  have hP : ∀ j, j < n / 8 → packed q j = packed q' j := fun j hj => by
    unfold packed packTo
    rw [foldl_same _ (fun x i => x ||| if q' (8 * j + i) = 1 then 128 / 2 ^ i else 0) _ _ fun a i hi => ?_]
    rw [hq _ (by have := List.mem_range.1 hi; omega)]
  unfold Told at h ⊢
  rw [← hZ, ← hU]
  rcases h with h | ⟨h1, h2, h3, h4, h5⟩ | h
  · exact .inl h
  · exact .inr (.inl ⟨h1, h2, h3, h4, h5.alike fun j hj => by rw [hP j hj]⟩)
  · exact .inr (.inr h)
theorem told_on {w' : World} {B : Nat} {z : Nat → Int} {n : Nat} {K : Int} {v : Value} (h : Told w' B (lv true z) (8 * n) K v) (h0 : 0 < n) (hz : ∀ k, k < n → 0 ≤ z k ∧ z k < 256) : K = 2 ∧ Owns w' B 5 v n (fun j => .int .u8 (z j)) := by
  rcases h with ⟨h1, _⟩ | ⟨_, _, _, h2, h3⟩ | ⟨_, h4, _⟩
  · rw [lv_loud z _ (by omega)] at h1; cases h1
  · rw [show 8 * n / 8 = n by omega] at h3
    exact ⟨h2, h3.alike fun k hk => by rw [packed_lv z k (hz k hk)]⟩
  · rcases h4 with h4 | h4
    · omega
    · rw [lv_units] at h4; cases h4
theorem told_off {w' : World} {B : Nat} {z : Nat → Int} {n : Nat} {K : Int} {v : Value} (h : Told w' B (lv false z) n K v) : K = 0 ∧ v = .slice none 0 0 := by
  rcases h with ⟨_, h1, h2⟩ | ⟨h1, _⟩ | ⟨h1, _⟩
  · exact ⟨h1, h2⟩
  · rw [lv_silent] at h1; cases h1
  · rw [lv_silent] at h1; cases h1

theorem owns_down {w : World} {B B' n : Nat} {e : TypeId} {v : Value} {V : Nat → Value} (h : Owns w B e v n V) (hB : B' ≤ B) : Owns w B' e v n V := by
  refine ⟨h.1, ?_⟩
  rcases h.2 with h | ⟨g, cap, cur, h1, h2, h3⟩
  · exact .inl h
  · exact .inr ⟨g, cap, cur, h1, by omega, h3⟩

theorem mix_two (A0 A1 : Option Addr) (n0 n1 c0 c1 : Nat) (a0 b0 a1 b1 : Nat → Int) (w : World) (e : TypeId)
    (h0 : Sees w w.heap.size A0 n0 fun k => cx (a0 k) (b0 k)) (h1 : Sees w w.heap.size A1 n1 fun k => cx (a1 k) (b1 k)) (hn0 : n0 ≤ 100000) (hn1 : n1 ≤ 100000)
    (s0 : ∀ k, (a0 k).natAbs < 2 ^ 50 ∧ (b0 k).natAbs < 2 ^ 50) (s1 : ∀ k, (a1 k).natAbs < 2 ^ 50 ∧ (b1 k).natAbs < 2 ^ 50) :
    Calls Try.prog 21 #[.slice (some ⟨w.heap.size, 0, none⟩) 2 2] (w.alloc (.cells #[.slice A0 n0 c0, .slice A1 n1 c1] e)) fun e w' =>
      ∃ v, e = .returned v ∧ Owns w' w.heap.size 51 v (max n0 n1) (fun k => cx ((if k < n0 then a0 k else 0) + (if k < n1 then a1 k else 0)) ((if k < n0 then b0 k else 0) + (if k < n1 then b1 k else 0))) ∧ Below w.heap.size w w' := by
  have hb : Below w.heap.size w (w.alloc (.cells #[.slice A0 n0 c0, .slice A1 n1 c1] e)) := (Below.refl _ _).alloc (Nat.le_refl _) _
  have hsm : ∀ (n : Nat → Nat) (x y : Nat → Int) (i k : Nat), i < 2 → (∀ k, (x k).natAbs < 2 ^ 50) → (sm n (two x y) i k).natAbs < 2 ^ 52 := by
    intro n x y i k hi hx
    have : i = 0 ∨ i = 1 := by omega
    rcases this with rfl | rfl
    · simp [sm]
    · have := hx k
      simp only [sm, two, if_true]
      split <;> omega
  refine (mix_any (some ⟨w.heap.size, 0, none⟩) 2 2 (two A0 A1) (two n0 n1) (two c0 c1) (two a0 a1) (two b0 b1) _ (sees_two w _ e A0 A1 n0 n1 c0 c1 (by simp)) ?_ (by omega) ?_ ?_ ?_ (fun i k hi => hsm _ _ _ i k hi fun k => (s0 k).1) (fun i k hi => hsm _ _ _ i k hi fun k => (s0 k).2)).mono ?_
  · intro i hi
    have : i = 0 ∨ i = 1 := by omega
    rcases this with rfl | rfl
    · exact (h0.below hb).more (by simp)
    · exact (h1.below hb).more (by simp)
  · intro i hi
    have : i = 0 ∨ i = 1 := by omega
    rcases this with rfl | rfl
    · exact hn0
    · exact hn1
  · intro i k hi _
    have : i = 0 ∨ i = 1 := by omega
    rcases this with rfl | rfl
    · exact Nat.lt_trans (s0 k).1 (by decide)
    · exact Nat.lt_trans (s1 k).1 (by decide)
  · intro i k hi _
    have : i = 0 ∨ i = 1 := by omega
    rcases this with rfl | rfl
    · exact Nat.lt_trans (s0 k).2 (by decide)
    · exact Nat.lt_trans (s1 k).2 (by decide)
  · rintro e w' ⟨v, rfl, ho, hb'⟩
    refine ⟨v, rfl, ?_, hb.trans (hb'.mono (by simp))⟩
    have hmx : mx (two n0 n1) 2 = max n0 n1 := by simp [mx, two]
    rw [hmx] at ho
    exact owns_down (ho.alike fun k _ => by simp [sm, two]) (by simp)

def TwoInv (n m : Nat) (z y : Nat → Int) (k : Nat) (o : Bool) : Prop := (o = true → n = m ∧ ∀ j, j < k → z j = 255 - y j) ∧ (o = false → ¬ Opp n m z y)
theorem below_drewN {B : Nat} {a w : World} (h : Below B a w) (n : Nat) : Below B a (w.drewN n) := ⟨h.os, h.tape, h.output, h.size, h.block⟩
theorem compl_u8 (y : Fin 256) : bits BinOp.xor IntKind.u8 (if IntKind.u8.signed = true then -1 else IntKind.u8.max) ((y.val : Nat) : Int) = 255 - ((y.val : Nat) : Int) := by
  revert y
  decide +kernel
theorem compl_test (z y : Int) (hy : 0 ≤ y ∧ y < 256) : (z == bits BinOp.xor IntKind.u8 (if IntKind.u8.signed = true then -1 else IntKind.u8.max) y) = decide (z = 255 - y) := by
  obtain ⟨x, rfl⟩ := Int.eq_ofNat_of_zero_le hy.1
  have h := compl_u8 ⟨x, by omega⟩
  simp only at h
  rw [h, Bool.eq_iff_iff]
  simp

set_option maxHeartbeats 4000000 in
theorem walk_lineTwo (A : Option Addr) (n c : Nat) (z : Nat → Int) (B : Option Addr) (m d : Nat) (y : Nat → Int) (w : World) (h : InBytes w A n c z) (h' : InBytes w B m d y) :
    Calls Try.prog 7 #[.slice A n c, .slice B m d] w fun e w' => e = .returned (.bool true) ∧ Below w.heap.size w w' := by
  obtain ⟨hs, hz, hn, hc⟩ := h
  obtain ⟨hs2, hy, hm, hd⟩ := h'
  have hc' := hc
  have hd' := hd
  unfold maxLen at hc' hd'
  by_cases h0 : n < 1
  · go_enter Try.func7, Try.ntmps7
    go_wp2
    go_ret
    exact ⟨rfl, Below.refl _ _⟩
  have hd0 : decide ((n : Int) < 1) = false := by simp; omega
  by_cases h1 : 40 < n
  · go_enter Try.func7, Try.ntmps7
    go_wp2
    go_ret
    exact ⟨rfl, Below.refl _ _⟩
  have hd1 : decide ((40 : Int) < n) = false := by simp; omega
  by_cases h2 : m < 1
  · go_enter Try.func7, Try.ntmps7
    go_wp2
    go_ret
    exact ⟨rfl, Below.refl _ _⟩
  have hd2 : decide ((m : Int) < 1) = false := by simp; omega
  by_cases h3 : 40 < m
  · go_enter Try.func7, Try.ntmps7
    go_wp2
    go_ret
    exact ⟨rfl, Below.refl _ _⟩
  have hd3 : decide ((40 : Int) < m) = false := by simp; omega
  have lvs : ∀ (f : Bool) (z : Nat → Int) k, (lv f z k).natAbs < 2 ^ 50 := fun f z k => by
    cases f
    · exact (by decide : (0 : Int).natAbs < 2 ^ 50)
    · rcases lv_unit z k with e | e <;> rw [e] <;> decide
  obtain ⟨M, hM⟩ : ∃ M, M = max (8 * n) (8 * m) := ⟨_, rfl⟩
  have hM1 : 8 * n ≤ M := by omega
  have hM2 : M ≤ 320 := by omega
  have HM := Lib.hid hM
  clear hM
  go_enter Try.func7, Try.ntmps7
  go_wp2_with fail
  refine (drive_cx A n c z _ _ w hs hz hn hc).mono ?_
  rintro e w1 ⟨v, rfl, ho1, hb1⟩
  rw [show min n 50 = n by omega] at ho1
  obtain ⟨A1, c1, rfl, -, -, g1⟩ := Owns.form ho1
  go_wp2_with fail
  refine (drive_cx B m d y _ _ w1 ((hs2.below hb1).more hb1.size) hy hm hd).mono ?_
  rintro e w2 ⟨v, rfl, ho2, hb2⟩
  rw [show min m 50 = m by omega] at ho2
  obtain ⟨A2, c2, rfl, -, -, g2⟩ := Owns.form ho2
  have hb12 := hb1.trans (hb2.mono hb1.size)
  have g1' := (g1.below hb2).more hb2.size
  clear ho1 ho2 g1
  go_wp2_with fail
  refine (mix_two A1 A2 (8 * n) (8 * m) c1 c2 _ _ _ _ w2 _ g1' g2 (by omega) (by omega) (fun k => ⟨lvs _ _ k, lvs _ _ k⟩) (fun k => ⟨lvs _ _ k, lvs _ _ k⟩)).mono ?_
  rintro e w3 ⟨v, rfl, ho3, hb3⟩
  rw [← HM.out] at ho3
  obtain ⟨A3, c3, rfl, k1, k2, g3⟩ := Owns.form ho3
  have hb13 := hb12.trans (hb3.mono hb12.size)
  have small : ∀ (f g : Bool) (i j : Nat) (p q : Nat → Int) k, ((if k < i then lv f p k else 0) + (if k < j then lv g q k else 0)).natAbs < 2 ^ 53 := fun f g i j p q k => by
    have e1 := lvs f p k
    have e2 := lvs g q k
    split <;> split <;> omega
  have R1 := read_any A3 M c3 _ _ w3 g3 (fun k _ => small true false (8 * n) (8 * m) z y k) (fun k _ => small false true (8 * n) (8 * m) z y k) k1 k2 (by omega)
  clear ho3
  go_wp2_with fail
  refine R1.mono ?_
  rintro e w4 ⟨K, p, L, q, rfl, t1, t2, hb4⟩
  clear R1
  have hb14 := hb13.trans (hb4.mono hb13.size)
  clear g1' g2 g3 hb1 hb2 hb3 hb4
  have hin1 := run_string (c := c) (hs.below hb14) (by omega)
  have hin2 := run_string (c := d) (hs2.below hb14) (by omega)
  have fin : ∀ (e : Ending) (w' : World), (e = .returned (.bool true) ∧ Below w4.heap.size w4 w') → e = .returned (.bool true) ∧ Below w.heap.size w w' := fun e w' h => ⟨h.1, hb14.trans (h.2.mono hb14.size)⟩
  by_cases hnm : n = m
  case' pos =>
    have hle : n ≤ m ∧ m ≤ n := by omega
    have u1 := told_same (q' := lv true z) (n' := 8 * n) t1 (by rw [HM.out]; omega) (fun k hk => by
      have : k < M := hk
      have hM3 := HM.out
      show (if k < 8 * n then lv true z k else 0) + (if k < 8 * m then lv false y k else 0) = _
      rw [if_pos (by omega), if_pos (by omega)]
      show lv true z k + 0 = _
      omega)
    have u2 := told_same (q' := lv true y) (n' := 8 * m) t2 (by rw [HM.out]; omega) (fun k hk => by
      have : k < M := hk
      have hM3 := HM.out
      show (if k < 8 * n then lv false z k else 0) + (if k < 8 * m then lv true y k else 0) = _
      rw [if_pos (by omega), if_pos (by omega)]
      show 0 + lv true y k = _
      omega)
    obtain ⟨rfl, o1⟩ := told_on u1 (by omega) hz
    obtain ⟨rfl, o2⟩ := told_on u2 (by omega) hy
    obtain ⟨A5, c5, rfl, -, -, m1⟩ := Owns.form o1
    obtain ⟨A6, c6, rfl, -, -, m2⟩ := Owns.form o2
    have hx1 := run_string (c := c5) m1 (by omega)
    have hx2 := run_string (c := c6) m2 (by omega)
    have hE : ((n : Int) == (m : Int)) = true := by simp; omega
    have hnm' := Lib.hid hnm
    clear hnm t1 t2 u1 u2 o1 o2 m1 m2
  case' neg =>
    have hE : ((n : Int) == (m : Int)) = false := by simp; omega
    have hnm' := Lib.hid hnm
    clear hnm t1 t2
  all_goals
    go_wp2_with fail
    refine (drive_cx A n c z _ _ w4 ((hs.below hb14).more hb14.size) hz hn hc).mono ?_
    rintro e w5 ⟨v, rfl, ho1, hb1⟩
    rw [show min n 50 = n by omega] at ho1
    obtain ⟨A1, c1, rfl, -, -, g1⟩ := Owns.form ho1
    clear ho1 hin1 hin2
    go_wp2_with fail
    refine (drive_cx B m d y _ _ w5 ((hs2.below (hb14.trans (hb1.mono hb14.size))).more (hb14.trans (hb1.mono hb14.size)).size) hy hm hd).mono ?_
    rintro e w6 ⟨v, rfl, ho2, hb2⟩
    rw [show min m 50 = m by omega] at ho2
    obtain ⟨A2, c2, rfl, -, -, g2⟩ := Owns.form ho2
    have hb56 := hb1.trans (hb2.mono hb1.size)
    have g1' := (g1.below hb2).more hb2.size
    clear ho2 g1
    go_wp2_with fail
    refine (mix_two A1 A2 (8 * n) (8 * m) c1 c2 _ _ _ _ w6 _ g1' g2 (by omega) (by omega) (fun k => ⟨lvs _ _ k, lvs _ _ k⟩) (fun k => ⟨lvs _ _ k, lvs _ _ k⟩)).mono ?_
    rintro e w7 ⟨v, rfl, ho3, hb3⟩
    rw [← HM.out] at ho3
    obtain ⟨A3, c3, rfl, k1, k2, g3⟩ := Owns.form ho3
    have hb57 := hb56.trans (hb3.mono hb56.size)
    have R2 := read_any A3 M c3 _ _ w7 g3 (fun k _ => small true true (8 * n) (8 * m) z y k) (fun k _ => small false false (8 * n) (8 * m) z y k) k1 k2 (by omega)
    clear ho3
    go_wp2_with fail
    refine R2.mono ?_
    rintro e w8 ⟨K2, p2, L2, q2, rfl, t3, t4, hb4⟩
    clear R2
    have hb58 := hb57.trans (hb4.mono hb57.size)
    obtain ⟨rfl, rfl⟩ := told_off (told_same (q' := lv false z) (n' := M) t4 rfl (fun k _ => by
      show (if k < 8 * n then (0 : Int) else 0) + (if k < 8 * m then 0 else 0) = 0
      split <;> split <;> rfl))
    have t5 : Told w8 w7.heap.size (sum2 n m z y) M K2 p2 := t3
    have hO := sum2_opp n m z y (by omega) (by omega) hz hy
    have hN := sum2_noise n m z y (by omega) (by omega)
    rw [← HM.out] at hO hN
    have hb48 : Below w4.heap.size w4 w8 := hb58
    have hs8 : Sees w8 w.heap.size A n (fun k => .int .u8 (z k)) := (hs.below hb14).keep fun p hp => hb48.cell (Nat.lt_of_lt_of_le hp hb14.size)
    have hs9 : Sees w8 w.heap.size B m (fun k => .int .u8 (y k)) := (hs2.below hb14).keep fun p hp => hb48.cell (Nat.lt_of_lt_of_le hp hb14.size)
    obtain ⟨O, hOO, hK⟩ : ∃ O : Bool, (O = true ↔ Opp n m z y) ∧ K2 = if O then 0 else 1 := by
      rcases t5 with ⟨e1, e2, _⟩ | ⟨_, _, e3, _⟩ | ⟨e1, _, e2, _⟩
      · exact ⟨true, by simpa using hO.1 e1, by simpa using e2⟩
      · rw [hN] at e3; cases e3
      · refine ⟨false, ?_, by simpa using e2⟩
        rw [e1] at hO
        simpa using hO
    have HO := Lib.hid hOO
    have HK := Lib.hid hK
    clear hOO hK t3 t4 t5 hO hN hb1 hb2 hb3 hb4 hb56 hb57 hb58 g1' g2 g3 hs hs2 small hb12 hb13 hb14
    go_wp2_with fail
    go_loopw [13, 14] (fun x i wr => ∃ (k t : Nat) (o : Bool), k ≤ n ∧ i = .int .i64 k ∧ x = .bool o ∧ wr = w8.drewN t ∧ TwoInv n m z y k o) (fun x i _ => n - (intOf i).toNat)
    case atStart => exact ⟨0, 0, _, by omega, rfl, rfl, rfl, by first | exact ⟨fun _ => ⟨hnm'.out, fun j hj => absurd hj (by omega)⟩, (fun h => by cases h)⟩ | exact ⟨(fun h => by cases h), fun _ h => hnm'.out h.1⟩⟩
    case round =>
      obtain ⟨k, t, o, hk, rfl, rfl, rfl, hinv⟩ := hrel
      cases o
      · have hOo : O = false := by
          rw [Bool.eq_false_iff]
          exact fun h => hinv.2 rfl (HO.out.1 h)
        obtain rfl : K2 = 1 := by rw [HK.out, hOo]; rfl
        clear hOo hinv
        by_cases hlt : k < n
        all_goals
          go_wp2_with (go_at_call 19; refine (known_any _).mono ?_; rintro e w9 ⟨rfl, hb9⟩)
          go_ret
          exact fin _ _ ⟨rfl, (below_drewN hb48 t).trans (hb9.mono hb48.size)⟩
      · by_cases hlt : k < n
        · obtain ⟨b0, off, rfl, -, hcell⟩ := hs8 (by omega)
          have hnm2 := (hinv.1 rfl).1
          obtain ⟨b1, off1, rfl, -, hcell1⟩ := hs9 (by omega)
          have e0 : w8.cell? ⟨b0, off + k, none⟩ = some (.int .u8 (z k)) := hcell k hlt
          have e1 : w8.cell? ⟨b1, off1 + k, none⟩ = some (.int .u8 (y k)) := hcell1 k (by omega)
          have q1 : (k : Int) < n := by omega
          have q2 : (k : Int) < m := by omega
          have hcm := compl_test (z k) (y k) (hy k (by omega))
          by_cases hzy : z k = 255 - y k
          · have hinv' : TwoInv n m z y (k + 1) true := ⟨fun _ => ⟨hnm2, fun j hj => by
              rcases Nat.lt_succ_iff_lt_or_eq.1 hj with h | rfl
              · exact (hinv.1 rfl).2 j h
              · exact hzy⟩, (fun h => by cases h)⟩
            rw [decide_eq_true hzy] at hcm
            clear hcell hcell1 hnm2 hinv hzy
            go_wp2_with fail
            go_quiet (fail)
            go_wp2
            go_roundw
            case rel => exact ⟨k + 1, _, true, by omega, by go_num, rfl, rfl, hinv'⟩
            case measure => simp [intOf]; omega
          · have hinv' : TwoInv n m z y (k + 1) false := ⟨(fun h => by cases h), fun _ h => hzy (h.2 k hlt)⟩
            rw [decide_eq_false hzy] at hcm
            clear hcell hcell1 hnm2 hinv hzy
            go_wp2_with fail
            go_quiet (fail)
            go_wp2
            go_roundw
            case rel => exact ⟨k + 1, _, false, by omega, by go_num, rfl, rfl, hinv'⟩
            case measure => simp [intOf]; omega
        · have hOo : O = true := HO.out.2 ⟨(hinv.1 rfl).1, fun j hj => (hinv.1 rfl).2 j (by omega)⟩
          obtain rfl : K2 = 0 := by rw [HK.out, hOo]; rfl
          clear hOo hinv
          go_wp2_with (go_at_call 19; refine (known_any _).mono ?_; rintro e w9 ⟨rfl, hb9⟩)
          go_ret
          exact fin _ _ ⟨rfl, (below_drewN hb48 t).trans (hb9.mono hb48.size)⟩

/-! ### THE ROW's STEP around the walk. -/
theorem own_lineTwo : ownKnob Try.prog.godebug = none := by kernel_rfl
theorem laidOut_lineTwo : laidOutB Try.prog = true := by kernel_rfl
set_option maxRecDepth 100000 in
theorem lifted_lineTwo (os : Os) (started : os.Started) (H : Type) (enc : TypeId × Value → H) :
    ReturnsInHanded {} Try.checked os 7 .any (Rows.lineTwoSpec.pre6 enc Try.prog Try.f7 Rows.lineTwoRow.domain false) (Rows.lineTwoSpec.post enc Try.prog Try.f7 false true false false) := by
  refine returnsInHanded_of_change (C := Try.checked) own_lineTwo started (by kernel_rfl) Try.func7
    (ChangeSpec.witness6 (enc := enc) (C := Try.checked) false ⟨#[], #[.slice none 0 0, .slice none 0 0], []⟩ 8 (by kernel_rfl) (by kernel_rfl) (by kernel_rfl) (by kernel_rfl)) ?_
  intro W base args ds gs before hval0 hW hcnd _
  have hval : ∀ (j : Nat) t v, Try.f7.params[j]? = some t → args[j]? = some v → Value.okWide Try.prog W .any base t v := hval0
  have hW' := hW
  obtain ⟨p, q, hA0, hV, rfl, hfz, hnd⟩ := hW
  have hA : DataW.TrodAll enc Try.prog W 0 (fun _ => true) true Try.f7.params.toList args.toList ds p := hA0
  rw [Try.params7] at hA hval
  obtain ⟨v0, vs0, d0, ds0, p0, q0, hargs, rfl, rfl, h0, r0⟩ := trodAll_cons hA
  obtain ⟨v1, vs1, d1, ds1, p1, q1, rfl, rfl, rfl, h1, r1⟩ := trodAll_cons r0
  obtain ⟨rfl, rfl, rfl⟩ := trodAll_nil r1
  obtain rfl : args = #[v0, v1] := by cases args; simp_all
  obtain ⟨rfl, rfl⟩ := trodVars_none hV
  obtain ⟨A0, n0, c0, rfl⟩ := okWide_slice Try.underlying22 (hval 0 22 v0 rfl rfl)
  have k0 := h0
  have lt0 : ∀ x ∈ p0, x.block < W.heap.size := by obtain ⟨m, hm⟩ := k0; exact DataW.trod_lt m _ _ _ hm
  obtain ⟨z0, s0⟩ := sees_bytes Try.underlying22 Try.underlying5 (by kernel_rfl) h0
  obtain ⟨A1, n1, c1, rfl⟩ := okWide_slice Try.underlying22 (hval 1 22 v1 rfl rfl)
  have k1 := h1
  have lt1 : ∀ x ∈ p1, x.block < W.heap.size := by obtain ⟨m, hm⟩ := k1; exact DataW.trod_lt m _ _ _ hm
  obtain ⟨z1, s1⟩ := sees_bytes Try.underlying22 Try.underlying5 (by kernel_rfl) h1
  clear hA0 hval0
  refine (walk_lineTwo A0 n0 c0 z0 A1 n1 c1 z1 W s0 s1).mono fun e W' ⟨he, bel⟩ => ?_
  subst he
  exact ⟨_, rfl, _, _, _, [], _, [], hW', trodAll_mk1 (shut_bool Try.underlying4 _), (trodAll_cons_mk (Below.trod laidOut_lineTwo (by kernel_rfl) (of_decide_eq_true (by kernel_rfl)) k0 bel lt0) (trodAll_cons_mk (Below.trod laidOut_lineTwo (by kernel_rfl) (of_decide_eq_true (by kernel_rfl)) k1 bel lt1) trodAll_mk0)), rfl, bel.frame _, fun h => by cases h⟩

theorem over_lineTwo : Rows.lineTwoRow.holds Try.pinned (OpenSpec.ofChange Rows.lineTwoSpec) :=
  OpenClaim.holds_of_wide 7 Try.f7 rfl rfl rfl rfl rfl rfl rfl ⟨rfl, rfl, rfl, rfl, rfl⟩ rfl rfl rfl rfl rfl (by kernel_rfl) Try.func7 (by kernel_rfl)
    (of_decide_eq_true (by kernel_rfl)) (by unfold Func.isWrapper; first | (rw [if_pos (by decide +kernel)]; kernel_rfl) | (rw [if_neg (by decide +kernel)]; exact ⟨rfl, rfl⟩))
    (fun os started H enc _ => lifted_lineTwo os started H enc)

theorem proved_lineTwo : Rows.LineTwoSaid := over_lineTwo
end Go.Proofs.Ytgchecnfdbnnpaa
