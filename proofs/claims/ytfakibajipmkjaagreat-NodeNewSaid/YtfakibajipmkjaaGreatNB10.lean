/- Texts ClMath, ClA, ClB in one. For what each says in front of its theorems. -/
import Derived.WalkKit
import Derived.IntWalk
import Derived.Test.YtfakibajipmkjaaGreatNB9
/-! ### ClMath -/
namespace Go.Proofs.YtfakibajipmkjaaGreat
namespace Clk

def sumL : List Int → Int
  | [] => 0
  | x :: l => x + sumL l
def minL : List Int → Int
  | [] => 0
  | x :: l => l.foldl min x
def maxL : List Int → Int
  | [] => 0
  | x :: l => l.foldl max x
/-- Without the least and the greatest, rounded down. -/
def avg (l : List Int) : Int :=
  if l.length = 0 then 0 else if l.length < 3 then sumL l / (l.length : Int) else (sumL l - minL l - maxL l) / ((l.length : Int) - 2)
def sorted (l : List Int) : Prop := ∀ p q, p < q → q < l.length → l.getD p 0 ≤ l.getD q 0

theorem sumL_append (l m : List Int) : sumL (l ++ m) = sumL l + sumL m := by
  induction l with
  | nil => simp [sumL]
  | cons x l ih => simp [sumL, ih]; omega
theorem sumL_perm {l m : List Int} (h : l.Perm m) : sumL l = sumL m := by
  induction h with
  | nil => rfl
  | cons x _ ih => simp [sumL, ih]
  | swap x y l => simp [sumL]; omega
  | trans _ _ h1 h2 => exact h1.trans h2
theorem foldl_min_le (l : List Int) (a : Int) : l.foldl min a ≤ a ∧ ∀ x ∈ l, l.foldl min a ≤ x := by
  induction l generalizing a with
  | nil => simp
  | cons y l ih =>
    obtain ⟨h1, h2⟩ := ih (min a y)
    refine ⟨by simp only [List.foldl_cons]; omega, fun x hx => ?_⟩
    simp only [List.foldl_cons]
    rcases List.mem_cons.1 hx with rfl | hx
    · omega
    · exact h2 x hx
theorem foldl_min_mem (l : List Int) (a : Int) : l.foldl min a = a ∨ l.foldl min a ∈ l := by
  induction l generalizing a with
  | nil => simp
  | cons y l ih =>
    simp only [List.foldl_cons, List.mem_cons]
    rcases ih (min a y) with h | h
    · rw [h]; omega
    · exact .inr (.inr h)
theorem foldl_max_le (l : List Int) (a : Int) : a ≤ l.foldl max a ∧ ∀ x ∈ l, x ≤ l.foldl max a := by
  induction l generalizing a with
  | nil => simp
  | cons y l ih =>
    obtain ⟨h1, h2⟩ := ih (max a y)
    refine ⟨by simp only [List.foldl_cons]; omega, fun x hx => ?_⟩
    simp only [List.foldl_cons]
    rcases List.mem_cons.1 hx with rfl | hx
    · omega
    · exact h2 x hx
theorem foldl_max_mem (l : List Int) (a : Int) : l.foldl max a = a ∨ l.foldl max a ∈ l := by
  induction l generalizing a with
  | nil => simp
  | cons y l ih =>
    simp only [List.foldl_cons, List.mem_cons]
    rcases ih (max a y) with h | h
    · rw [h]; omega
    · exact .inr (.inr h)
theorem minL_spec {l : List Int} (h : l ≠ []) : minL l ∈ l ∧ ∀ x ∈ l, minL l ≤ x := by
  cases l with
  | nil => exact absurd rfl h
  | cons y l =>
    obtain ⟨h1, h2⟩ := foldl_min_le l y
    refine ⟨?_, fun x hx => ?_⟩
    · rcases foldl_min_mem l y with h | h
      · show l.foldl min y ∈ y :: l; rw [h]; simp
      · exact List.mem_cons_of_mem _ h
    · rcases List.mem_cons.1 hx with rfl | hx
      · exact h1
      · exact h2 x hx
theorem maxL_spec {l : List Int} (h : l ≠ []) : maxL l ∈ l ∧ ∀ x ∈ l, x ≤ maxL l := by
  cases l with
  | nil => exact absurd rfl h
  | cons y l =>
    obtain ⟨h1, h2⟩ := foldl_max_le l y
    refine ⟨?_, fun x hx => ?_⟩
    · rcases foldl_max_mem l y with h | h
      · show l.foldl max y ∈ y :: l; rw [h]; simp
      · exact List.mem_cons_of_mem _ h
    · rcases List.mem_cons.1 hx with rfl | hx
      · exact h1
      · exact h2 x hx
theorem minL_perm {l m : List Int} (h : l.Perm m) : minL l = minL m := by
  by_cases h0 : l = []
  · subst h0; rw [h.symm.eq_nil]
  have h1 : m ≠ [] := fun e => h0 (by subst e; exact h.eq_nil)
  obtain ⟨a, b⟩ := minL_spec h0
  obtain ⟨c, d⟩ := minL_spec h1
  have := b _ (h.symm.mem_iff.1 c)
  have := d _ (h.mem_iff.1 a)
  omega
theorem maxL_perm {l m : List Int} (h : l.Perm m) : maxL l = maxL m := by
  by_cases h0 : l = []
  · subst h0; rw [h.symm.eq_nil]
  have h1 : m ≠ [] := fun e => h0 (by subst e; exact h.eq_nil)
  obtain ⟨a, b⟩ := maxL_spec h0
  obtain ⟨c, d⟩ := maxL_spec h1
  have := b _ (h.symm.mem_iff.1 c)
  have := d _ (h.mem_iff.1 a)
  omega
theorem avg_perm {l m : List Int} (h : l.Perm m) : avg l = avg m := by
  unfold avg
  rw [sumL_perm h, minL_perm h, maxL_perm h, h.length_eq]

/-- One step of insertion: two neighbours change places. -/
def swp (l : List Int) (j : Nat) : List Int := (l.set j (l.getD (j - 1) 0)).set (j - 1) (l.getD j 0)
theorem swp_length (l : List Int) (j : Nat) : (swp l j).length = l.length := by simp [swp]
theorem swp_getD (l : List Int) (j k : Nat) (h0 : 0 < j) (hj : j < l.length) : (swp l j).getD k 0 = if k = j - 1 then l.getD j 0 else if k = j then l.getD (j - 1) 0 else l.getD k 0 := by
  unfold swp
  simp only [List.getD_eq_getElem?_getD, List.getElem?_set, List.length_set]
  by_cases h1 : k = j - 1
  · subst h1; simp [show j - 1 < l.length by omega]
  · rw [if_neg (fun h => h1 h.symm), if_neg h1]
    by_cases h2 : k = j
    · subst h2; simp [hj]
    · rw [if_neg (fun h => h2 h.symm), if_neg h2]
theorem swp_perm (l : List Int) (j : Nat) (h0 : 0 < j) (hj : j < l.length) : (swp l j).Perm l := by
  obtain ⟨i, rfl⟩ : ∃ i, j = i + 1 := ⟨j - 1, by omega⟩
  unfold swp
  simp only [Nat.add_sub_cancel]
  induction l generalizing i with
  | nil => simp at hj
  | cons x l ih =>
    cases i with
    | zero =>
      cases l with
      | nil => simp at hj
      | cons y l => simpa using List.Perm.swap x y l
    | succ i =>
      simp only [List.length_cons, Nat.add_lt_add_iff_right] at hj
      have := ih i (by omega) hj
      simpa using List.Perm.cons x this

/-- What insertion sort keeps: the first i are sorted but for the one at j. -/
def ins (l : List Int) (i j : Nat) : Prop := ∀ p q, p < q → q ≤ i → q ≠ j → l.getD p 0 ≤ l.getD q 0
theorem ins_start {l : List Int} {i : Nat} (h : ∀ p q, p < q → q < i → l.getD p 0 ≤ l.getD q 0) : ins l i i := fun p q h1 h2 h3 => h p q h1 (by omega)
theorem ins_end {l : List Int} {i j : Nat} (h : ins l i j) (hj : j = 0 ∨ l.getD (j - 1) 0 ≤ l.getD j 0) : ∀ p q, p < q → q < i + 1 → l.getD p 0 ≤ l.getD q 0 := fun p q h1 h2 => by
  by_cases hq : q = j
  · subst hq
    rcases hj with hj | hj
    · omega
    · by_cases hp : p = q - 1
      · subst hp; exact hj
      · exact Int.le_trans (h p (q - 1) (by omega) (by omega) (by omega)) hj
  · exact h p q h1 (by omega) hq
theorem ins_step {l : List Int} {i j : Nat} (h : ins l i j) (h0 : 0 < j) (hji : j ≤ i) (hi : i < l.length) (hlt : l.getD j 0 < l.getD (j - 1) 0) : ins (swp l j) i (j - 1) := fun p q h1 h2 h3 => by
  rw [swp_getD l j p h0 (by omega), swp_getD l j q h0 (by omega), if_neg h3]
  by_cases hq : q = j
  · rw [if_pos hq]
    by_cases hp : p = j - 1
    · rw [if_pos hp]; omega
    · rw [if_neg hp, if_neg (by omega)]
      exact h p (j - 1) (by omega) (by omega) (by omega)
  · rw [if_neg hq]
    by_cases hp : p = j - 1
    · rw [if_pos hp]; exact h j q (by omega) h2 hq
    · rw [if_neg hp]
      by_cases hp2 : p = j
      · rw [if_pos hp2]; exact h (j - 1) q (by omega) h2 hq
      · rw [if_neg hp2]; exact h p q h1 h2 hq

/-- Of three or four that are sorted the middle ones are left. -/
theorem avg_mid {l : List Int} (hs : sorted l) (h3 : 3 ≤ l.length) (h4 : l.length ≤ 4) : avg l = sumL ((l.drop 1).take (l.length - 2)) / (((l.drop 1).take (l.length - 2)).length : Int) := by
  match l, hs, h3, h4 with
  | [a, b, c], hs, _, _ =>
    have h1 := hs 0 1 (by omega) (by simp)
    have h2 := hs 1 2 (by omega) (by simp)
    simp at h1 h2
    simp [avg, sumL, minL, maxL]
    omega
  | [a, b, c, d], hs, _, _ =>
    have h1 := hs 0 1 (by omega) (by simp)
    have h2 := hs 1 2 (by omega) (by simp)
    have h3 := hs 2 3 (by omega) (by simp)
    simp at h1 h2 h3
    simp [avg, sumL, minL, maxL]
    omega
theorem avg_small {l : List Int} (h0 : 0 < l.length) (h : l.length < 3) : avg l = sumL l / (l.length : Int) := by
  unfold avg; rw [if_neg (by omega), if_pos h]

/-- Division that goes towards nought, by one and two. -/
theorem td1 (x : Int) : x.tdiv 1 = x ∧ x.tmod 1 = 0 := by simp
theorem td2 (x : Int) : x = 2 * x.tdiv 2 + x.tmod 2 ∧ (0 ≤ x → 0 ≤ x.tmod 2 ∧ x.tmod 2 ≤ 1) ∧ (x < 0 → -1 ≤ x.tmod 2 ∧ x.tmod 2 ≤ 0) := by
  refine ⟨by have := Int.mul_tdiv_add_tmod x 2; omega, fun h => ?_, fun h => ?_⟩
  · have := Int.tmod_eq_emod_of_nonneg (b := 2) h; omega
  · have e : x.tmod 2 = -((-x).tmod 2) := by rw [Int.neg_tmod, Int.neg_neg]
    have := Int.tmod_eq_emod_of_nonneg (a := -x) (b := 2) (by omega)
    omega

theorem avg_map_sub (l : List Int) (d : Int) (h0 : 0 < l.length) (h4 : l.length ≤ 4) : avg (l.map (· - d)) = avg l - d := by
  match l, h0, h4 with
  | [a], _, _ => simp [avg, sumL]
  | [a, b], _, _ => simp [avg, sumL]; omega
  | [a, b, c], _, _ => simp [avg, sumL, minL, maxL]; omega
  | [a, b, c, d], _, _ => simp [avg, sumL, minL, maxL]; omega
theorem avg_bound {l : List Int} {B : Int} (hB : 0 ≤ B) (h : ∀ x ∈ l, -B ≤ x ∧ x ≤ B) (h4 : l.length ≤ 4) : -B ≤ avg l ∧ avg l ≤ B := by
  match l, h4 with
  | [], _ => simp [avg]; omega
  | [a], _ => simp at h; simp [avg, sumL]; omega
  | [a, b], _ => simp at h; simp [avg, sumL]; omega
  | [a, b, c], _ => simp at h; simp [avg, sumL, minL, maxL]; omega
  | [a, b, c, d], _ => simp at h; simp [avg, sumL, minL, maxL]; omega
/-- One wild number of four does not take it beyond the others. -/
theorem avg_wild (a b c w : Int) : min (min a b) c ≤ avg [a, b, c, w] ∧ avg [a, b, c, w] ≤ max (max a b) c ∧ min (min a b) c ≤ avg [a, b, c] ∧ avg [a, b, c] ≤ max (max a b) c := by
  simp [avg, sumL, minL, maxL]; omega
end Clk
end Go.Proofs.YtfakibajipmkjaaGreat

/-! ### ClA -/
namespace Go.Proofs.YtfakibajipmkjaaGreat
open Go.RowKit

theorem ret_int {k : IntKind} {a b : Int} (h : a = b) : Ending.returned (.int k a) = .returned (.int k b) := by rw [h]
theorem ret_bool {a b : Bool} (h : a = b) : Ending.returned (.bool a) = .returned (.bool b) := by rw [h]
/-- Numbers that may be. -/
def small (l : List Int) : Prop := ∀ x ∈ l, -1099511627776 ≤ x ∧ x ≤ 1099511627776
theorem small.getD {l : List Int} (h : small l) (k : Nat) : -1099511627776 ≤ l.getD k 0 ∧ l.getD k 0 ≤ 1099511627776 := by
  by_cases hk : k < l.length
  · rw [List.getD_eq_getElem?_getD, List.getElem?_eq_getElem hk, Option.getD_some]
    exact h _ (List.getElem_mem _)
  · rw [List.getD_eq_getElem?_getD, List.getElem?_eq_none (by omega)]
    exact ⟨by decide, by decide⟩
theorem SeesI.cell {w : World} {B : Nat} {A : Option Addr} {n c : Nat} {l : List Int} (h : SeesI w B (.slice A n c) l) (k : Nat) (hk : k < l.length) : ∃ b off, A = some ⟨b, off, none⟩ ∧ b < B ∧ w.cell? ⟨b, off + k, none⟩ = some (.int .i64 (l.getD k 0)) := by
  obtain ⟨A', c', e, -, -, h3, -⟩ := h.at_
  simp only [Value.slice.injEq] at e
  obtain ⟨rfl, rfl, rfl⟩ := e
  obtain ⟨b, off, hA, hb, hc⟩ := h3 (by omega)
  exact ⟨b, off, hA, hb, hc k hk⟩

set_option maxHeartbeats 1000000 in
theorem floor1_rf (a : Int) (w : World) (h : -17592186044416 ≤ a ∧ a ≤ 17592186044416) :
    Calls Tryz.prog 160 #[.int .i64 a, .int .i64 1] w fun e w' => e = .returned (.int .i64 a) ∧ w' = w := by
  obtain ⟨h1, h2⟩ := h
  obtain ⟨e1, e2⟩ := Clk.td1 a
  go_enter Tryz.func160, Tryz.ntmps160
  go_wp2
  go_ret
  exact ⟨rfl, rfl⟩
set_option maxHeartbeats 1000000 in
theorem floor2_rf (a : Int) (w : World) (h : -17592186044416 ≤ a ∧ a ≤ 17592186044416) :
    Calls Tryz.prog 160 #[.int .i64 a, .int .i64 2] w fun e w' => e = .returned (.int .i64 (a / 2)) ∧ w' = w := by
  obtain ⟨h1, h2⟩ := h
  have H := Lib.hid (Clk.td2 a)
  have b1 : -17592186044416 ≤ a.tdiv 2 ∧ a.tdiv 2 ≤ 17592186044416 := by have := H.out; omega
  obtain ⟨b1, b2⟩ := b1
  go_enter Tryz.func160, Tryz.ntmps160
  go_wp2
  · go_ret
    exact ⟨ret_int (by have := H.out; omega), rfl⟩
  · go_ret
    exact ⟨ret_int (by have := H.out; omega), rfl⟩
  · rename_i h h3
    go_ret
    refine ⟨ret_int ?_, rfl⟩
    have := H.out
    rcases h3 with h3 | h3
    · simp at h3; omega
    · omega

/-- Whether a turn may be. -/
def wiB (m n : Int) : Bool := decide (-m ≤ n ∧ n ≤ m)
set_option maxHeartbeats 1000000 in
theorem reaches_cl (m n : Int) (w : World) (h : 0 ≤ m ∧ m ≤ 9223372036854775807) :
    Calls Tryz.prog 156 #[.int .i64 m, .int .i64 n] w fun e w' => e = .returned (.bool (wiB m n)) ∧ w' = w := by
  obtain ⟨h1, h2⟩ := h
  go_enter Tryz.func156, Tryz.ntmps156
  go_wp2
  · rename_i h
    go_ret
    exact ⟨ret_bool (by unfold wiB; simp [h]), rfl⟩
  · rename_i h
    go_ret
    exact ⟨ret_bool (by unfold wiB; simp; omega), rfl⟩
set_option maxHeartbeats 1000000 in
theorem less_cm (a b : Int) (w : World) :
    Calls Tryz.prog 172 #[.int .i64 a, .int .i64 b] w fun e w' => e = .returned (.bool (decide (a < b))) ∧ w' = w := by
  go_enter Tryz.func172, Tryz.ntmps172
  go_wp2
  go_ret
  exact ⟨rfl, rfl⟩
set_option maxRecDepth 100000 in
set_option maxHeartbeats 1000000 in
theorem len64_bt (x : Int) (w : World) (h : 0 ≤ x ∧ x < 256) :
    Calls Tryz.prog 176 #[.int .u64 x] w fun e w' => ∃ n : Int, e = .returned (.int .i64 n) ∧ w' = w := by
  obtain ⟨h1, h2⟩ := h
  have d1 : decide (4294967296 ≤ x) = false := by simp; omega
  go_enter Tryz.func176, Tryz.ntmps176
  go_wp2
  go_ret
  exact ⟨_, rfl, rfl⟩
set_option maxRecDepth 100000 in
set_option maxHeartbeats 1000000 in
theorem len_bt (x : Int) (w : World) (h : 0 ≤ x ∧ x < 256) :
    Calls Tryz.prog 165 #[.int .u64 x] w fun e w' => ∃ n : Int, e = .returned (.int .i64 n) ∧ w' = w := by
  go_enter Tryz.func165, Tryz.ntmps165
  go_wp2_with (go_at_call 176; refine (len64_bt x _ h).mono ?_; rintro e w' ⟨n, rfl, rfl⟩)
  go_ret
  exact ⟨_, rfl, rfl⟩
end Go.Proofs.YtfakibajipmkjaaGreat

/-! ### ClB -/
namespace Go.Proofs.YtfakibajipmkjaaGreat
open Go.RowKit
open Clk (ins swp)

/-- What sorting leaves. -/
def Srt (w : World) (B : Nat) (v : Value) (l : List Int) (w' : World) : Prop := ∃ l' : List Int, l'.Perm l ∧ Clk.sorted l' ∧ OwnsI w' B v l' ∧ Below B w w'

set_option maxRecDepth 100000 in
set_option maxHeartbeats 4000000 in
theorem isort_sl (l : List Int) (g n c : Nat) (w : World) (B : Nat) (how : OwnsI w B (.slice (some ⟨g, 0, none⟩) n c) l) (hn : n = l.length) (h0 : 0 < n) (h12 : n ≤ 12) :
    Calls Tryz.prog 166 #[.slice (some ⟨g, 0, none⟩) n c, .int .i64 0, .int .i64 n] w fun e w' => e = .returned (.tuple #[]) ∧ Srt w B (.slice (some ⟨g, 0, none⟩) n c) l w' := by
  have HN := Lib.hid hn
  clear hn
  have hBg := how.lt g rfl
  go_enter Tryz.func166, Tryz.ntmps166
  go_wp2
  go_loopw [6] (fun i wr => ∃ (k : Nat) (m : List Int), 1 ≤ k ∧ k ≤ n ∧ i = .int .i64 k ∧ m.Perm l ∧ (∀ p q, p < q → q < k → m.getD p 0 ≤ m.getD q 0) ∧ OwnsI wr B (.slice (some ⟨g, 0, none⟩) n c) m ∧ Below B w wr) (fun i _ => n - (intOf i).toNat)
  case atStart => exact ⟨1, l, by omega, by omega, rfl, List.Perm.refl _, fun p q _ _ => by omega, how, Below.refl _ _⟩
  case round =>
    obtain ⟨k, m, hk1, hk, rfl, hp, hs, ho, hb⟩ := hrel
    have hm := Lib.hid hp.length_eq
    by_cases hlt : k < n
    · have q1 : decide ((k : Int) < (n : Nat)) = true := by simp; omega
      go_wp2
      go_loopw [7] (fun j wi => ∃ (t : Nat) (m' : List Int), t ≤ k ∧ j = .int .i64 t ∧ m'.Perm l ∧ ins m' k t ∧ OwnsI wi B (.slice (some ⟨g, 0, none⟩) n c) m' ∧ Below B w wi) (fun j _ => (intOf j).toNat)
      case atStart => exact ⟨k, m, by omega, rfl, hp, Clk.ins_start hs, ho, hb⟩
      case round =>
        obtain ⟨t, m', ht, rfl, hp', hi, ho', hb'⟩ := hrel
        have hm' := Lib.hid hp'.length_eq
        by_cases h00 : 0 < t
        · have c1 := ho'.cell (i := t) (by have := HN.out; have := hm'.out; omega) (by have := HN.out; have := hm'.out; omega)
          have c2 := ho'.cell (i := t - 1) (by have := HN.out; have := hm'.out; omega) (by have := HN.out; have := hm'.out; omega)
          have f1 := ho'.frozen (by have := HN.out; have := hm'.out; omega) t
          have f2 := ho'.frozen (by have := HN.out; have := hm'.out; omega) (t - 1)
          have q2 : decide ((0 : Int) < (t : Nat)) = true := by simp; omega
          have hdn := fun nq => Lib.hid (ho'.below (below_drewN (Below.refl wr.heap.size wr) nq) (Nat.le_refl _))
          have hbn := fun nq => Lib.hid (hb'.trans (below_drewN (Below.refl B wr) nq))
          by_cases hless : m'.getD t 0 < m'.getD (t - 1) 0
          · have hstep := Lib.hid (Clk.ins_step hi h00 ht (by have := HN.out; have := hm'.out; omega) hless)
            have hset : ∀ W, OwnsI W B (.slice (some ⟨g, 0, none⟩) n c) m' → OwnsI ((W.setCell ⟨g, t, none⟩ (.int .i64 (m'.getD (t - 1) 0))).setCell ⟨g, t - 1, none⟩ (.int .i64 (m'.getD t 0))) B (.slice (some ⟨g, 0, none⟩) n c) (swp m' t) := fun W hW => (hW.set (by have := HN.out; have := hm'.out; omega) t (m'.getD (t - 1) 0) (by have := HN.out; have := hm'.out; omega)).set (by simp; have := HN.out; have := hm'.out; omega) (t - 1) (m'.getD t 0) (by simp; have := HN.out; have := hm'.out; omega)
            have hset := Lib.hid hset
            obtain ⟨s, rfl⟩ : ∃ s, t = s + 1 := ⟨t - 1, by omega⟩
            simp only [Nat.add_sub_cancel] at c2 f2 hless hset
            generalize m'.getD (s + 1) 0 = x at *
            generalize m'.getD s 0 = y at *
            have q3 : decide (x < y) = true := by simp; omega
            go_wp2
            go_quiet ((go_at_call 172; exact Calls.quiet_of_same (less_cm _ _ _)))
            go_wp2
            go_region
            go_wp2
            go_roundw
            case rel => exact ⟨s, swp m' (s + 1), by omega, rfl, (Clk.swp_perm m' (s + 1) h00 (by have := HN.out; have := hm'.out; omega)).trans hp', hstep.out, hset.out _ (hdn _).out, ((hbn _).out.setCell (p := ⟨g, s + 1, none⟩) hBg.1 _).setCell (p := ⟨g, s, none⟩) hBg.1 _⟩
            case measure => simp [intOf]
          · have hend := Lib.hid (Clk.ins_end hi (.inr (by omega)))
            generalize m'.getD t 0 = x at *
            generalize m'.getD (t - 1) 0 = y at *
            have q3 : decide (x < y) = false := decide_eq_false (by omega)
            go_wp2
            go_quiet ((go_at_call 172; exact Calls.quiet_of_same (less_cm _ _ _)))
            go_wp2
            go_roundw
            case rel => exact ⟨k + 1, m', by omega, by omega, by go_num, hp', hend.out, (hdn _).out, (hbn _).out⟩
            case measure => simp [intOf]; omega
        · have hend := Lib.hid (Clk.ins_end hi (.inl (by omega)))
          have hdn := fun nq => Lib.hid (ho'.below (below_drewN (Below.refl wr.heap.size wr) nq) (Nat.le_refl _))
          have hbn := fun nq => Lib.hid (hb'.trans (below_drewN (Below.refl B wr) nq))
          have q2 : decide ((0 : Int) < (t : Nat)) = false := decide_eq_false (by omega)
          go_wp2
          go_quiet (fail)
          go_wp2
          go_roundw
          case rel => exact ⟨k + 1, m', by omega, by omega, by go_num, hp', hend.out, (hdn _).out, (hbn _).out⟩
          case measure => simp [intOf]; omega
    · have q1 : decide ((k : Int) < (n : Nat)) = false := by simp; omega
      have hkn : k = n := by omega
      have hfin : Clk.sorted m := fun p q h1 h2 => hs p q h1 (by have := HN.out; have := hm.out; omega)
      have hfin := Lib.hid hfin
      clear hkn hs
      go_wp2
      exact bodyPost_end (results_none (by rfl) _ _ _) rfl ⟨rfl, m, hp, hfin.out, ho, hb⟩

set_option maxRecDepth 100000 in
set_option maxHeartbeats 4000000 in
theorem pdq_sl (l : List Int) (g n c : Nat) (k : Int) (w : World) (B : Nat) (how : OwnsI w B (.slice (some ⟨g, 0, none⟩) n c) l) (hn : n = l.length) (h0 : 0 < n) (h12 : n ≤ 12) :
    Calls Tryz.prog 164 #[.slice (some ⟨g, 0, none⟩) n c, .int .i64 0, .int .i64 n, .int .i64 k] w fun e w' => e = .returned (.tuple #[]) ∧ Srt w B (.slice (some ⟨g, 0, none⟩) n c) l w' := by
  have H := Lib.hid (isort_sl l g n c w B how hn h0 h12)
  clear how hn
  have q1 : decide ((n : Int) ≤ 12) = true := by simp; omega
  go_enter Tryz.func164, Tryz.ntmps164
  go_wp2_with fail
  refine wp_loop_once ?_
  go_wp2_with fail
  refine H.out.mono ?_
  rintro e w' ⟨rfl, hs⟩
  go_wp2
  exact bodyPost_ret (results_none (by rfl) _ _ _) rfl ⟨rfl, hs⟩
set_option maxRecDepth 100000 in
set_option maxHeartbeats 4000000 in
/-- slices.Sort of a short list that the call owns. -/
theorem sort_sl (l : List Int) (g n c : Nat) (w : World) (B : Nat) (how : OwnsI w B (.slice (some ⟨g, 0, none⟩) n c) l) (hn : n = l.length) (h0 : 0 < n) (h12 : n ≤ 12) :
    Calls Tryz.prog 162 #[.slice (some ⟨g, 0, none⟩) n c] w fun e w' => e = .returned (.tuple #[]) ∧ Srt w B (.slice (some ⟨g, 0, none⟩) n c) l w' := by
  have H := fun k => Lib.hid (pdq_sl l g n c k w B how hn h0 h12)
  have K := Lib.hid (len_bt (n : Int) w (by omega))
  clear how hn
  go_enter Tryz.func162, Tryz.ntmps162
  go_wp2_with fail
  refine K.out.mono ?_
  rintro e w' ⟨k, rfl, rfl⟩
  go_wp2_with fail
  refine (H k).out.mono ?_
  rintro e w' ⟨rfl, hs⟩
  go_wp2
  exact bodyPost_end (results_none (by rfl) _ _ _) rfl ⟨rfl, hs⟩
set_option maxRecDepth 100000 in
set_option maxHeartbeats 4000000 in
/-- slices.Clone of a list that is not nil. -/
theorem clone_sl (l : List Int) (v : Value) (w : World) (B : Nat) (hv : SeesI w B v l) (h0 : 0 < l.length) (h4 : l.length ≤ 1000) :
    Calls Tryz.prog 161 #[v] w fun e w' => ∃ v', e = .returned v' ∧ OwnsI w' w.heap.size v' l ∧ Below w.heap.size w w' := by
  obtain ⟨A, c, rfl, h1, h2, h3, h4'⟩ := hv.at_
  obtain ⟨b, off, rfl, hb, hc⟩ := h3 h0
  have H := Lib.hid (owns_emptyi w 3 rfl w.heap.size w.heap.size (Nat.le_refl _) rfl)
  have hs := Lib.hid ((hv.alloc (.cells #[] 3)))
  have q0 := Lib.run_eql_slice_nil (P := Tryz.prog) w 107 3 (some ⟨b, off, none⟩) l.length c 0 0 Tryz.underlying107
  clear hv h3 h4' hc
  go_enter Tryz.func161, Tryz.ntmps161
  go_wp2_with (at_builtin; go_loud (refine wpList_pushI _ rfl (.tmp 5) (.tmp 6) 107 rfl w.heap.size infoInt Tryz.underlying107 _ [] H.out rfl _ _ l rfl hs.out (by simp) (by simp; omega) ?_))
  intro v' w' ho he
  go_wp2
  go_ret
  exact ⟨_, rfl, by simpa using ho, ((Below.refl _ _).alloc (Nat.le_refl _) _).trans (he.toBelow (by simp) (fun j hj => by simp [Value.ownBlock] at hj; omega))⟩
end Go.Proofs.YtfakibajipmkjaaGreat
