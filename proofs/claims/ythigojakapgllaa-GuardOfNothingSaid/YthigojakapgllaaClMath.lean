/- The mathematics of clocks: averages of lists of integers. No condition. -/
import Derived.WalkKit
namespace Go.Proofs.Ythigojakapgllaa
namespace Clk

def sumL : List Int → Int
  | [] => 0
  | x :: l => x + sumL l
def minL : List Int → Int
  | [] => 0
  | x :: l => l.foldl min x
def maxL : List Int → Int
  | [] => 0
  | x :: l => l.foldl max x
/-- Without the least and the greatest, rounded down. -/
def avg (l : List Int) : Int :=
  if l.length = 0 then 0 else if l.length < 3 then sumL l / (l.length : Int) else (sumL l - minL l - maxL l) / ((l.length : Int) - 2)
def sorted (l : List Int) : Prop := ∀ p q, p < q → q < l.length → l.getD p 0 ≤ l.getD q 0

theorem sumL_append (l m : List Int) : sumL (l ++ m) = sumL l + sumL m := by
  induction l with
  | nil => simp [sumL]
  | cons x l ih => simp [sumL, ih]; omega
theorem sumL_perm {l m : List Int} (h : l.Perm m) : sumL l = sumL m := by
  induction h with
  | nil => rfl
  | cons x _ ih => simp [sumL, ih]
  | swap x y l => simp [sumL]; omega
  | trans _ _ h1 h2 => exact h1.trans h2
theorem foldl_min_le (l : List Int) (a : Int) : l.foldl min a ≤ a ∧ ∀ x ∈ l, l.foldl min a ≤ x := by
  induction l generalizing a with
  | nil => simp
  | cons y l ih =>
    obtain ⟨h1, h2⟩ := ih (min a y)
    refine ⟨by simp only [List.foldl_cons]; omega, fun x hx => ?_⟩
    simp only [List.foldl_cons]
    rcases List.mem_cons.1 hx with rfl | hx
    · omega
    · exact h2 x hx
theorem foldl_min_mem (l : List Int) (a : Int) : l.foldl min a = a ∨ l.foldl min a ∈ l := by
  induction l generalizing a with
  | nil => simp
  | cons y l ih =>
    simp only [List.foldl_cons, List.mem_cons]
    rcases ih (min a y) with h | h
    · rw [h]; omega
    · exact .inr (.inr h)
theorem foldl_max_le (l : List Int) (a : Int) : a ≤ l.foldl max a ∧ ∀ x ∈ l, x ≤ l.foldl max a := by
  induction l generalizing a with
  | nil => simp
  | cons y l ih =>
    obtain ⟨h1, h2⟩ := ih (max a y)
    refine ⟨by simp only [List.foldl_cons]; omega, fun x hx => ?_⟩
    simp only [List.foldl_cons]
    rcases List.mem_cons.1 hx with rfl | hx
    · omega
    · exact h2 x hx
theorem foldl_max_mem (l : List Int) (a : Int) : l.foldl max a = a ∨ l.foldl max a ∈ l := by
  induction l generalizing a with
  | nil => simp
  | cons y l ih =>
    simp only [List.foldl_cons, List.mem_cons]
    rcases ih (max a y) with h | h
    · rw [h]; omega
    · exact .inr (.inr h)
theorem minL_spec {l : List Int} (h : l ≠ []) : minL l ∈ l ∧ ∀ x ∈ l, minL l ≤ x := by
  cases l with
  | nil => exact absurd rfl h
  | cons y l =>
    obtain ⟨h1, h2⟩ := foldl_min_le l y
    refine ⟨?_, fun x hx => ?_⟩
    · rcases foldl_min_mem l y with h | h
      · show l.foldl min y ∈ y :: l; rw [h]; simp
      · exact List.mem_cons_of_mem _ h
    · rcases List.mem_cons.1 hx with rfl | hx
      · exact h1
      · exact h2 x hx
theorem maxL_spec {l : List Int} (h : l ≠ []) : maxL l ∈ l ∧ ∀ x ∈ l, x ≤ maxL l := by
  cases l with
  | nil => exact absurd rfl h
  | cons y l =>
    obtain ⟨h1, h2⟩ := foldl_max_le l y
    refine ⟨?_, fun x hx => ?_⟩
    · rcases foldl_max_mem l y with h | h
      · show l.foldl max y ∈ y :: l; rw [h]; simp
      · exact List.mem_cons_of_mem _ h
    · rcases List.mem_cons.1 hx with rfl | hx
      · exact h1
      · exact h2 x hx
theorem minL_perm {l m : List Int} (h : l.Perm m) : minL l = minL m := by
  by_cases h0 : l = []
  · subst h0; rw [h.symm.eq_nil]
  have h1 : m ≠ [] := fun e => h0 (by subst e; exact h.eq_nil)
  obtain ⟨a, b⟩ := minL_spec h0
  obtain ⟨c, d⟩ := minL_spec h1
  have := b _ (h.symm.mem_iff.1 c)
  have := d _ (h.mem_iff.1 a)
  omega
theorem maxL_perm {l m : List Int} (h : l.Perm m) : maxL l = maxL m := by
  by_cases h0 : l = []
  · subst h0; rw [h.symm.eq_nil]
  have h1 : m ≠ [] := fun e => h0 (by subst e; exact h.eq_nil)
  obtain ⟨a, b⟩ := maxL_spec h0
  obtain ⟨c, d⟩ := maxL_spec h1
  have := b _ (h.symm.mem_iff.1 c)
  have := d _ (h.mem_iff.1 a)
  omega
theorem avg_perm {l m : List Int} (h : l.Perm m) : avg l = avg m := by
  unfold avg
  rw [sumL_perm h, minL_perm h, maxL_perm h, h.length_eq]

/-- One step of insertion: two neighbours change places. -/
def swp (l : List Int) (j : Nat) : List Int := (l.set j (l.getD (j - 1) 0)).set (j - 1) (l.getD j 0)
theorem swp_length (l : List Int) (j : Nat) : (swp l j).length = l.length := by simp [swp]
theorem swp_getD (l : List Int) (j k : Nat) (h0 : 0 < j) (hj : j < l.length) : (swp l j).getD k 0 = if k = j - 1 then l.getD j 0 else if k = j then l.getD (j - 1) 0 else l.getD k 0 := by
  unfold swp
  simp only [List.getD_eq_getElem?_getD, List.getElem?_set, List.length_set]
  by_cases h1 : k = j - 1
  · subst h1; simp [show j - 1 < l.length by omega]
  · rw [if_neg (fun h => h1 h.symm), if_neg h1]
    by_cases h2 : k = j
    · subst h2; simp [hj]
    · rw [if_neg (fun h => h2 h.symm), if_neg h2]
theorem swp_perm (l : List Int) (j : Nat) (h0 : 0 < j) (hj : j < l.length) : (swp l j).Perm l := by
  obtain ⟨i, rfl⟩ : ∃ i, j = i + 1 := ⟨j - 1, by omega⟩
  unfold swp
  simp only [Nat.add_sub_cancel]
  induction l generalizing i with
  | nil => simp at hj
  | cons x l ih =>
    cases i with
    | zero =>
      cases l with
      | nil => simp at hj
      | cons y l => simpa using List.Perm.swap x y l
    | succ i =>
      simp only [List.length_cons, Nat.add_lt_add_iff_right] at hj
      have := ih i (by omega) hj
      simpa using List.Perm.cons x this

/-- What insertion sort keeps: the first i are sorted but for the one at j. -/
def ins (l : List Int) (i j : Nat) : Prop := ∀ p q, p < q → q ≤ i → q ≠ j → l.getD p 0 ≤ l.getD q 0
theorem ins_start {l : List Int} {i : Nat} (h : ∀ p q, p < q → q < i → l.getD p 0 ≤ l.getD q 0) : ins l i i := fun p q h1 h2 h3 => h p q h1 (by omega)
theorem ins_end {l : List Int} {i j : Nat} (h : ins l i j) (hj : j = 0 ∨ l.getD (j - 1) 0 ≤ l.getD j 0) : ∀ p q, p < q → q < i + 1 → l.getD p 0 ≤ l.getD q 0 := fun p q h1 h2 => by
  by_cases hq : q = j
  · subst hq
    rcases hj with hj | hj
    · omega
    · by_cases hp : p = q - 1
      · subst hp; exact hj
      · exact Int.le_trans (h p (q - 1) (by omega) (by omega) (by omega)) hj
  · exact h p q h1 (by omega) hq
theorem ins_step {l : List Int} {i j : Nat} (h : ins l i j) (h0 : 0 < j) (hji : j ≤ i) (hi : i < l.length) (hlt : l.getD j 0 < l.getD (j - 1) 0) : ins (swp l j) i (j - 1) := fun p q h1 h2 h3 => by
  rw [swp_getD l j p h0 (by omega), swp_getD l j q h0 (by omega), if_neg h3]
  by_cases hq : q = j
  · rw [if_pos hq]
    by_cases hp : p = j - 1
    · rw [if_pos hp]; omega
    · rw [if_neg hp, if_neg (by omega)]
      exact h p (j - 1) (by omega) (by omega) (by omega)
  · rw [if_neg hq]
    by_cases hp : p = j - 1
    · rw [if_pos hp]; exact h j q (by omega) h2 hq
    · rw [if_neg hp]
      by_cases hp2 : p = j
      · rw [if_pos hp2]; exact h (j - 1) q (by omega) h2 hq
      · rw [if_neg hp2]; exact h p q h1 h2 hq

/-- Of three or four that are sorted the middle ones are left. -/
theorem avg_mid {l : List Int} (hs : sorted l) (h3 : 3 ≤ l.length) (h4 : l.length ≤ 4) : avg l = sumL ((l.drop 1).take (l.length - 2)) / (((l.drop 1).take (l.length - 2)).length : Int) := by
  match l, hs, h3, h4 with
  | [a, b, c], hs, _, _ =>
    have h1 := hs 0 1 (by omega) (by simp)
    have h2 := hs 1 2 (by omega) (by simp)
    simp at h1 h2
    simp [avg, sumL, minL, maxL]
    omega
  | [a, b, c, d], hs, _, _ =>
    have h1 := hs 0 1 (by omega) (by simp)
    have h2 := hs 1 2 (by omega) (by simp)
    have h3 := hs 2 3 (by omega) (by simp)
    simp at h1 h2 h3
    simp [avg, sumL, minL, maxL]
    omega
theorem avg_small {l : List Int} (h0 : 0 < l.length) (h : l.length < 3) : avg l = sumL l / (l.length : Int) := by
  unfold avg; rw [if_neg (by omega), if_pos h]

/-- Division that goes towards nought, by one and two. -/
theorem td1 (x : Int) : x.tdiv 1 = x ∧ x.tmod 1 = 0 := by simp
theorem td2 (x : Int) : x = 2 * x.tdiv 2 + x.tmod 2 ∧ (0 ≤ x → 0 ≤ x.tmod 2 ∧ x.tmod 2 ≤ 1) ∧ (x < 0 → -1 ≤ x.tmod 2 ∧ x.tmod 2 ≤ 0) := by
  refine ⟨by have := Int.mul_tdiv_add_tmod x 2; omega, fun h => ?_, fun h => ?_⟩
  · have := Int.tmod_eq_emod_of_nonneg (b := 2) h; omega
  · have e : x.tmod 2 = -((-x).tmod 2) := by rw [Int.neg_tmod, Int.neg_neg]
    have := Int.tmod_eq_emod_of_nonneg (a := -x) (b := 2) (by omega)
    omega

theorem avg_map_sub (l : List Int) (d : Int) (h0 : 0 < l.length) (h4 : l.length ≤ 4) : avg (l.map (· - d)) = avg l - d := by
  match l, h0, h4 with
  | [a], _, _ => simp [avg, sumL]
  | [a, b], _, _ => simp [avg, sumL]; omega
  | [a, b, c], _, _ => simp [avg, sumL, minL, maxL]; omega
  | [a, b, c, d], _, _ => simp [avg, sumL, minL, maxL]; omega
theorem avg_bound {l : List Int} {B : Int} (hB : 0 ≤ B) (h : ∀ x ∈ l, -B ≤ x ∧ x ≤ B) (h4 : l.length ≤ 4) : -B ≤ avg l ∧ avg l ≤ B := by
  match l, h4 with
  | [], _ => simp [avg]; omega
  | [a], _ => simp at h; simp [avg, sumL]; omega
  | [a, b], _ => simp at h; simp [avg, sumL]; omega
  | [a, b, c], _ => simp at h; simp [avg, sumL, minL, maxL]; omega
  | [a, b, c, d], _ => simp at h; simp [avg, sumL, minL, maxL]; omega
/-- One wild number of four does not take it beyond the others. -/
theorem avg_wild (a b c w : Int) : min (min a b) c ≤ avg [a, b, c, w] ∧ avg [a, b, c, w] ≤ max (max a b) c ∧ min (min a b) c ≤ avg [a, b, c] ∧ avg [a, b, c] ≤ max (max a b) c := by
  simp [avg, sumL, minL, maxL]; omega
end Clk
end Go.Proofs.Ythigojakapgllaa
