/- The average's contracts: mean, matronref5.Average, clock.Average, known, few. For lists of at most four numbers that may be. -/
import Derived.Test.YthigojakapgllaaClB
namespace Go.Proofs.Ythigojakapgllaa
open Go.RowKit
open Clk (sumL minL maxL avg)

theorem sum_take (l : List Int) (k : Nat) (h : k < l.length) : sumL (l.take (k + 1)) = sumL (l.take k) + l.getD k 0 := by
  rw [List.take_succ_eq_append_getElem h, Clk.sumL_append, List.getD_eq_getElem?_getD, List.getElem?_eq_getElem h]
  simp [sumL]
theorem fold_take (f : Int → Int → Int) (a : Int) (l : List Int) (k : Nat) (h : k < l.length) : (l.take (k + 1)).foldl f a = f ((l.take k).foldl f a) (l.getD k 0) := by
  rw [List.take_succ_eq_append_getElem h, List.foldl_append, List.getD_eq_getElem?_getD, List.getElem?_eq_getElem h]
  rfl
theorem sum_bd {l : List Int} (h : small l) (k : Nat) (hk : k ≤ 4) : -4398046511104 ≤ sumL (l.take k) ∧ sumL (l.take k) ≤ 4398046511104 := by
  have : ∀ m : List Int, small m → m.length ≤ 4 → -4398046511104 ≤ sumL m ∧ sumL m ≤ 4398046511104 := by
    intro m hm h4
    match m, hm, h4 with
    | [], _, _ => simp [sumL]
    | [a], hm, _ => simp [small] at hm; simp [sumL]; omega
    | [a, b], hm, _ => simp [small] at hm; simp [sumL]; omega
    | [a, b, c], hm, _ => simp [small] at hm; simp [sumL]; omega
    | [a, b, c, d], hm, _ => simp [small] at hm; simp [sumL]; omega
  exact this _ (fun x hx => h x (List.mem_of_mem_take hx)) (by simp; omega)

set_option maxRecDepth 100000 in
set_option maxHeartbeats 4000000 in
theorem mean_cl (l : List Int) (v : Value) (w : World) (B : Nat) (hv : SeesI w B v l) (hs : small l) (h12 : l.length = 1 ∨ l.length = 2) :
    Calls Try.prog 60 #[v] w fun e w' => e = .returned (.int .i64 (sumL l / (l.length : Int))) ∧ w' = w := by
  obtain ⟨A, c, rfl, h1, h2, h3, h4⟩ := hv.at_
  obtain ⟨b, off, rfl, hb, hc⟩ := h3 (by omega)
  have HS := Lib.hid (sum_take l)
  have HB := Lib.hid (fun k => hs.getD k)
  have HC : Hid (∀ k, k < l.length → w.cell? ⟨b, off + k, none⟩ = some (.int .i64 (l.getD k 0))) := Lib.hid hc
  have HT := Lib.hid (sum_bd hs)
  have HF : Hid (∀ k, k = l.length → sumL (l.take k) = sumL l) := Lib.hid (fun k hk => by rw [hk, List.take_length])
  clear hv h3 h4 hc hs
  have go : ∀ N : Nat, l.length = N → (N = 1 ∨ N = 2) → Calls Try.prog 60 #[.slice (some ⟨b, off, none⟩) N c] w fun e w' => e = .returned (.int .i64 (sumL l / (N : Int))) ∧ w' = w := by
    intro N hN hN2
    have HN := Lib.hid hN
    clear hN
    rcases hN2 with rfl | rfl
    · go_enter Try.func60, Try.ntmps60
      go_wp2
      go_loop [3, 4, 9] (fun u r i => ∃ (k : Nat) (a : Int), k ≤ 1 ∧ i = .int .i64 k ∧ u = .int .i64 a ∧ r = .int .i64 0 ∧ a = sumL (l.take k)) (fun _ _ i => 1 - (intOf i).toNat)
      case atStart => exact ⟨0, 0, by omega, rfl, rfl, rfl, by simp [sumL]⟩
      case round =>
        obtain ⟨k, a, hk, rfl, rfl, rfl, he⟩ := hrel
        have HE := Lib.hid he
        clear he
        have bd : -4398046511104 ≤ a ∧ a ≤ 4398046511104 := by have := HE.out; have := HT.out k (by omega); omega
        obtain ⟨bd1, bd2⟩ := bd
        by_cases hlt : k < 1
        · obtain rfl : k = 0 := by omega
          have c1 := HC.out 0 (by have := HN.out; omega)
          have hst : Hid (sumL (l.take 1) = sumL (l.take 0) + l.getD 0 0) := Lib.hid (HS.out 0 (by have := HN.out; omega))
          obtain ⟨x1, x2⟩ := HB.out 0
          generalize l.getD 0 0 = x at *
          simp only [Nat.add_zero] at c1
          go_wp2
          go_round
          case rel => exact ⟨1, a + x, by omega, by go_num, by simp, by simp, by have := hst.out; have := HE.out; omega⟩
          case measure => simp [intOf]
        · obtain rfl : k = 1 := by omega
          go_wp2
          go_ret
          exact ⟨ret_int (by have := HE.out; have := HF.out 1 (by have := HN.out; omega); omega), rfl⟩
    · go_enter Try.func60, Try.ntmps60
      go_wp2
      go_loop [3, 4, 9] (fun u r i => ∃ (k : Nat) (a q : Int), k ≤ 2 ∧ i = .int .i64 k ∧ u = .int .i64 a ∧ r = .int .i64 q ∧ 2 * a + q = sumL (l.take k) ∧ -(k : Int) ≤ q ∧ q ≤ k) (fun _ _ i => 2 - (intOf i).toNat)
      case atStart => exact ⟨0, 0, 0, by omega, rfl, rfl, rfl, by simp [sumL], by omega, by omega⟩
      case round =>
        obtain ⟨k, a, q, hk, rfl, rfl, rfl, he, hq1, hq2⟩ := hrel
        have HE := Lib.hid he
        clear he
        have bd : -4398046511104 ≤ a ∧ a ≤ 4398046511104 ∧ -2 ≤ q ∧ q ≤ 2 := by have := HE.out; have := HT.out k (by omega); omega
        obtain ⟨bd1, bd2, bd3, bd4⟩ := bd
        by_cases hlt : k < 2
        · have q1 : decide ((k : Int) < 2) = true := by simp; omega
          have c1 := HC.out k (by have := HN.out; omega)
          have hst := Lib.hid (HS.out k (by have := HN.out; omega))
          obtain ⟨x1, x2⟩ := HB.out k
          generalize l.getD k 0 = x at *
          have H2 := Lib.hid (Clk.td2 x)
          have d1 : -1099511627776 ≤ x.tdiv 2 ∧ x.tdiv 2 ≤ 1099511627776 ∧ -1 ≤ x.tmod 2 ∧ x.tmod 2 ≤ 1 := by have := H2.out; omega
          obtain ⟨d1, d2, d3, d4⟩ := d1
          go_wp2
          go_round
          case rel => exact ⟨k + 1, a + x.tdiv 2, q + x.tmod 2, by omega, by go_num, rfl, rfl, by have := hst.out; have := HE.out; have := H2.out; omega, by omega, by omega⟩
          case measure => simp [intOf]; omega
        · obtain rfl : k = 2 := by omega
          have H2 := Lib.hid (Clk.td2 q)
          have d1 : -2 ≤ q.tdiv 2 ∧ q.tdiv 2 ≤ 2 ∧ -1 ≤ q.tmod 2 ∧ q.tmod 2 ≤ 1 := by have := H2.out; omega
          obtain ⟨d1, d2, d3, d4⟩ := d1
          have hf := Lib.hid (HF.out 2 (by have := HN.out; omega))
          by_cases hneg : q.tmod 2 < 0
          · have q1 : decide (q.tmod 2 < 0) = true := decide_eq_true hneg
            go_wp2
            go_ret
            exact ⟨ret_int (by have := hf.out; have := HE.out; have := H2.out; omega), rfl⟩
          · have q1 : decide (q.tmod 2 < 0) = false := decide_eq_false hneg
            go_wp2
            go_ret
            exact ⟨ret_int (by have := hf.out; have := HE.out; have := H2.out; omega), rfl⟩
  exact go _ rfl h12

theorem minL_eq (l : List Int) : minL l = l.foldl min (l.getD 0 0) := by
  cases l with
  | nil => rfl
  | cons x l => show l.foldl min x = l.foldl min (min x x); rw [show min x x = x by omega]
theorem maxL_eq (l : List Int) : maxL l = l.foldl max (l.getD 0 0) := by
  cases l with
  | nil => rfl
  | cons x l => show l.foldl max x = l.foldl max (max x x); rw [show max x x = x by omega]
theorem fold_bd {l : List Int} (h : small l) (k : Nat) : (-1099511627776 ≤ (l.take k).foldl min (l.getD 0 0) ∧ (l.take k).foldl min (l.getD 0 0) ≤ 1099511627776) ∧ (-1099511627776 ≤ (l.take k).foldl max (l.getD 0 0) ∧ (l.take k).foldl max (l.getD 0 0) ≤ 1099511627776) := by
  have h0 := h.getD 0
  constructor
  · rcases Clk.foldl_min_mem (l.take k) (l.getD 0 0) with e | e
    · omega
    · exact h _ (List.mem_of_mem_take e)
  · rcases Clk.foldl_max_mem (l.take k) (l.getD 0 0) with e | e
    · omega
    · exact h _ (List.mem_of_mem_take e)

theorem ite_min (x m : Int) : (if x < m then x else m) = min m x := by split <;> omega
theorem ite_max (x m : Int) : (if m < x then x else m) = max m x := by split <;> omega

end Go.Proofs.Ythigojakapgllaa
