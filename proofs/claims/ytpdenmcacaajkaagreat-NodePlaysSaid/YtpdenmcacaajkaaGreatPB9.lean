/- Texts ClB, ClC, ClD in one. For what each says in front of its theorems. -/
import Derived.Test.YtpdenmcacaajkaaGreatPB8
/-! ### ClB -/
namespace Go.Proofs.YtpdenmcacaajkaaGreat
open Go.RowKit
open Clk (ins swp)

/-- What sorting leaves. -/
def Srt (w : World) (B : Nat) (v : Value) (l : List Int) (w' : World) : Prop := ∃ l' : List Int, l'.Perm l ∧ Clk.sorted l' ∧ OwnsI w' B v l' ∧ Below B w w'

set_option maxRecDepth 100000 in
set_option maxHeartbeats 4000000 in
theorem isort_sl (l : List Int) (g n c : Nat) (w : World) (B : Nat) (how : OwnsI w B (.slice (some ⟨g, 0, none⟩) n c) l) (hn : n = l.length) (h0 : 0 < n) (h12 : n ≤ 12) :
    Calls Tryz.prog 203 #[.slice (some ⟨g, 0, none⟩) n c, .int .i64 0, .int .i64 n] w fun e w' => e = .returned (.tuple #[]) ∧ Srt w B (.slice (some ⟨g, 0, none⟩) n c) l w' := by
  have HN := Lib.hid hn
  clear hn
  have hBg := how.lt g rfl
  go_enter Tryz.func203, Tryz.ntmps203
  go_wp2
  go_loopw [6] (fun i wr => ∃ (k : Nat) (m : List Int), 1 ≤ k ∧ k ≤ n ∧ i = .int .i64 k ∧ m.Perm l ∧ (∀ p q, p < q → q < k → m.getD p 0 ≤ m.getD q 0) ∧ OwnsI wr B (.slice (some ⟨g, 0, none⟩) n c) m ∧ Below B w wr) (fun i _ => n - (intOf i).toNat)
  case atStart => exact ⟨1, l, by omega, by omega, rfl, List.Perm.refl _, fun p q _ _ => by omega, how, Below.refl _ _⟩
  case round =>
    obtain ⟨k, m, hk1, hk, rfl, hp, hs, ho, hb⟩ := hrel
    have hm := Lib.hid hp.length_eq
    by_cases hlt : k < n
    · have q1 : decide ((k : Int) < (n : Nat)) = true := by simp; omega
      go_wp2
      go_loopw [7] (fun j wi => ∃ (t : Nat) (m' : List Int), t ≤ k ∧ j = .int .i64 t ∧ m'.Perm l ∧ ins m' k t ∧ OwnsI wi B (.slice (some ⟨g, 0, none⟩) n c) m' ∧ Below B w wi) (fun j _ => (intOf j).toNat)
      case atStart => exact ⟨k, m, by omega, rfl, hp, Clk.ins_start hs, ho, hb⟩
      case round =>
        obtain ⟨t, m', ht, rfl, hp', hi, ho', hb'⟩ := hrel
        have hm' := Lib.hid hp'.length_eq
        by_cases h00 : 0 < t
        · have c1 := ho'.cell (i := t) (by have := HN.out; have := hm'.out; omega) (by have := HN.out; have := hm'.out; omega)
          have c2 := ho'.cell (i := t - 1) (by have := HN.out; have := hm'.out; omega) (by have := HN.out; have := hm'.out; omega)
          have f1 := ho'.frozen (by have := HN.out; have := hm'.out; omega) t
          have f2 := ho'.frozen (by have := HN.out; have := hm'.out; omega) (t - 1)
          have q2 : decide ((0 : Int) < (t : Nat)) = true := by simp; omega
          have hdn := fun nq => Lib.hid (ho'.below (below_drewN (Below.refl wr.heap.size wr) nq) (Nat.le_refl _))
          have hbn := fun nq => Lib.hid (hb'.trans (below_drewN (Below.refl B wr) nq))
          by_cases hless : m'.getD t 0 < m'.getD (t - 1) 0
          · have hstep := Lib.hid (Clk.ins_step hi h00 ht (by have := HN.out; have := hm'.out; omega) hless)
            have hset : ∀ W, OwnsI W B (.slice (some ⟨g, 0, none⟩) n c) m' → OwnsI ((W.setCell ⟨g, t, none⟩ (.int .i64 (m'.getD (t - 1) 0))).setCell ⟨g, t - 1, none⟩ (.int .i64 (m'.getD t 0))) B (.slice (some ⟨g, 0, none⟩) n c) (swp m' t) := fun W hW => (hW.set (by have := HN.out; have := hm'.out; omega) t (m'.getD (t - 1) 0) (by have := HN.out; have := hm'.out; omega)).set (by simp; have := HN.out; have := hm'.out; omega) (t - 1) (m'.getD t 0) (by simp; have := HN.out; have := hm'.out; omega)
            have hset := Lib.hid hset
            obtain ⟨s, rfl⟩ : ∃ s, t = s + 1 := ⟨t - 1, by omega⟩
            simp only [Nat.add_sub_cancel] at c2 f2 hless hset
            generalize m'.getD (s + 1) 0 = x at *
            generalize m'.getD s 0 = y at *
            have q3 : decide (x < y) = true := by simp; omega
            go_wp2
            go_quiet ((go_at_call 209; exact Calls.quiet_of_same (less_cm _ _ _)))
            go_wp2
            go_region
            go_wp2
            go_roundw
            case rel => exact ⟨s, swp m' (s + 1), by omega, rfl, (Clk.swp_perm m' (s + 1) h00 (by have := HN.out; have := hm'.out; omega)).trans hp', hstep.out, hset.out _ (hdn _).out, ((hbn _).out.setCell (p := ⟨g, s + 1, none⟩) hBg.1 _).setCell (p := ⟨g, s, none⟩) hBg.1 _⟩
            case measure => simp [intOf]
          · have hend := Lib.hid (Clk.ins_end hi (.inr (by omega)))
            generalize m'.getD t 0 = x at *
            generalize m'.getD (t - 1) 0 = y at *
            have q3 : decide (x < y) = false := decide_eq_false (by omega)
            go_wp2
            go_quiet ((go_at_call 209; exact Calls.quiet_of_same (less_cm _ _ _)))
            go_wp2
            go_roundw
            case rel => exact ⟨k + 1, m', by omega, by omega, by go_num, hp', hend.out, (hdn _).out, (hbn _).out⟩
            case measure => simp [intOf]; omega
        · have hend := Lib.hid (Clk.ins_end hi (.inl (by omega)))
          have hdn := fun nq => Lib.hid (ho'.below (below_drewN (Below.refl wr.heap.size wr) nq) (Nat.le_refl _))
          have hbn := fun nq => Lib.hid (hb'.trans (below_drewN (Below.refl B wr) nq))
          have q2 : decide ((0 : Int) < (t : Nat)) = false := decide_eq_false (by omega)
          go_wp2
          go_quiet (fail)
          go_wp2
          go_roundw
          case rel => exact ⟨k + 1, m', by omega, by omega, by go_num, hp', hend.out, (hdn _).out, (hbn _).out⟩
          case measure => simp [intOf]; omega
    · have q1 : decide ((k : Int) < (n : Nat)) = false := by simp; omega
      have hkn : k = n := by omega
      have hfin : Clk.sorted m := fun p q h1 h2 => hs p q h1 (by have := HN.out; have := hm.out; omega)
      have hfin := Lib.hid hfin
      clear hkn hs
      go_wp2
      exact bodyPost_end (results_none (by rfl) _ _ _) rfl ⟨rfl, m, hp, hfin.out, ho, hb⟩

set_option maxRecDepth 100000 in
set_option maxHeartbeats 4000000 in
theorem pdq_sl (l : List Int) (g n c : Nat) (k : Int) (w : World) (B : Nat) (how : OwnsI w B (.slice (some ⟨g, 0, none⟩) n c) l) (hn : n = l.length) (h0 : 0 < n) (h12 : n ≤ 12) :
    Calls Tryz.prog 195 #[.slice (some ⟨g, 0, none⟩) n c, .int .i64 0, .int .i64 n, .int .i64 k] w fun e w' => e = .returned (.tuple #[]) ∧ Srt w B (.slice (some ⟨g, 0, none⟩) n c) l w' := by
  have H := Lib.hid (isort_sl l g n c w B how hn h0 h12)
  clear how hn
  have q1 : decide ((n : Int) ≤ 12) = true := by simp; omega
  go_enter Tryz.func195, Tryz.ntmps195
  go_wp2_with fail
  refine wp_loop_once ?_
  go_wp2_with fail
  refine H.out.mono ?_
  rintro e w' ⟨rfl, hs⟩
  go_wp2
  exact bodyPost_ret (results_none (by rfl) _ _ _) rfl ⟨rfl, hs⟩
set_option maxRecDepth 100000 in
set_option maxHeartbeats 4000000 in
/-- slices.Sort of a short list that the call owns. -/
theorem sort_sl (l : List Int) (g n c : Nat) (w : World) (B : Nat) (how : OwnsI w B (.slice (some ⟨g, 0, none⟩) n c) l) (hn : n = l.length) (h0 : 0 < n) (h12 : n ≤ 12) :
    Calls Tryz.prog 185 #[.slice (some ⟨g, 0, none⟩) n c] w fun e w' => e = .returned (.tuple #[]) ∧ Srt w B (.slice (some ⟨g, 0, none⟩) n c) l w' := by
  have H := fun k => Lib.hid (pdq_sl l g n c k w B how hn h0 h12)
  have K := Lib.hid (len_bt (n : Int) w (by omega))
  clear how hn
  go_enter Tryz.func185, Tryz.ntmps185
  go_wp2_with fail
  refine K.out.mono ?_
  rintro e w' ⟨k, rfl, rfl⟩
  go_wp2_with fail
  refine (H k).out.mono ?_
  rintro e w' ⟨rfl, hs⟩
  go_wp2
  exact bodyPost_end (results_none (by rfl) _ _ _) rfl ⟨rfl, hs⟩
set_option maxRecDepth 100000 in
set_option maxHeartbeats 4000000 in
/-- slices.Clone of a list that is not nil. -/
theorem clone_sl (l : List Int) (v : Value) (w : World) (B : Nat) (hv : SeesI w B v l) (h0 : 0 < l.length) (h4 : l.length ≤ 1000) :
    Calls Tryz.prog 184 #[v] w fun e w' => ∃ v', e = .returned v' ∧ OwnsI w' w.heap.size v' l ∧ Below w.heap.size w w' := by
  obtain ⟨A, c, rfl, h1, h2, h3, h4'⟩ := hv.at_
  obtain ⟨b, off, rfl, hb, hc⟩ := h3 h0
  have H := Lib.hid (owns_emptyi w 3 rfl w.heap.size w.heap.size (Nat.le_refl _) rfl)
  have hs := Lib.hid ((hv.alloc (.cells #[] 3)))
  have q0 := Lib.run_eql_slice_nil (P := Tryz.prog) w 46 3 (some ⟨b, off, none⟩) l.length c 0 0 Tryz.underlying46
  clear hv h3 h4' hc
  go_enter Tryz.func184, Tryz.ntmps184
  go_wp2_with (at_builtin; go_loud (refine wpList_pushI _ rfl (.tmp 5) (.tmp 6) 46 rfl w.heap.size infoInt Tryz.underlying46 _ [] H.out rfl _ _ l rfl hs.out (by simp) (by simp; omega) ?_))
  intro v' w' ho he
  go_wp2
  go_ret
  exact ⟨_, rfl, by simpa using ho, ((Below.refl _ _).alloc (Nat.le_refl _) _).trans (he.toBelow (by simp) (fun j hj => by simp [Value.ownBlock] at hj; omega))⟩
end Go.Proofs.YtpdenmcacaajkaaGreat

/-! ### ClC -/
namespace Go.Proofs.YtpdenmcacaajkaaGreat
open Go.RowKit
open Clk (sumL minL maxL avg)

theorem sum_take (l : List Int) (k : Nat) (h : k < l.length) : sumL (l.take (k + 1)) = sumL (l.take k) + l.getD k 0 := by
  rw [List.take_succ_eq_append_getElem h, Clk.sumL_append, List.getD_eq_getElem?_getD, List.getElem?_eq_getElem h]
  simp [sumL]
theorem fold_take (f : Int → Int → Int) (a : Int) (l : List Int) (k : Nat) (h : k < l.length) : (l.take (k + 1)).foldl f a = f ((l.take k).foldl f a) (l.getD k 0) := by
  rw [List.take_succ_eq_append_getElem h, List.foldl_append, List.getD_eq_getElem?_getD, List.getElem?_eq_getElem h]
  rfl
theorem sum_bd {l : List Int} (h : small l) (k : Nat) (hk : k ≤ 4) : -4398046511104 ≤ sumL (l.take k) ∧ sumL (l.take k) ≤ 4398046511104 := by
  have : ∀ m : List Int, small m → m.length ≤ 4 → -4398046511104 ≤ sumL m ∧ sumL m ≤ 4398046511104 := by
    intro m hm h4
    match m, hm, h4 with
    | [], _, _ => simp [sumL]
    | [a], hm, _ => simp [small] at hm; simp [sumL]; omega
    | [a, b], hm, _ => simp [small] at hm; simp [sumL]; omega
    | [a, b, c], hm, _ => simp [small] at hm; simp [sumL]; omega
    | [a, b, c, d], hm, _ => simp [small] at hm; simp [sumL]; omega
  exact this _ (fun x hx => h x (List.mem_of_mem_take hx)) (by simp; omega)

set_option maxRecDepth 100000 in
set_option maxHeartbeats 4000000 in
theorem mean_cl (l : List Int) (v : Value) (w : World) (B : Nat) (hv : SeesI w B v l) (hs : small l) (h12 : l.length = 1 ∨ l.length = 2) :
    Calls Tryz.prog 186 #[v] w fun e w' => e = .returned (.int .i64 (sumL l / (l.length : Int))) ∧ w' = w := by
  obtain ⟨A, c, rfl, h1, h2, h3, h4⟩ := hv.at_
  obtain ⟨b, off, rfl, hb, hc⟩ := h3 (by omega)
  have HS := Lib.hid (sum_take l)
  have HB := Lib.hid (fun k => hs.getD k)
  have HC : Hid (∀ k, k < l.length → w.cell? ⟨b, off + k, none⟩ = some (.int .i64 (l.getD k 0))) := Lib.hid hc
  have HT := Lib.hid (sum_bd hs)
  have HF : Hid (∀ k, k = l.length → sumL (l.take k) = sumL l) := Lib.hid (fun k hk => by rw [hk, List.take_length])
  clear hv h3 h4 hc hs
  have go : ∀ N : Nat, l.length = N → (N = 1 ∨ N = 2) → Calls Tryz.prog 186 #[.slice (some ⟨b, off, none⟩) N c] w fun e w' => e = .returned (.int .i64 (sumL l / (N : Int))) ∧ w' = w := by
    intro N hN hN2
    have HN := Lib.hid hN
    clear hN
    rcases hN2 with rfl | rfl
    · go_enter Tryz.func186, Tryz.ntmps186
      go_wp2
      go_loop [3, 4, 9] (fun u r i => ∃ (k : Nat) (a : Int), k ≤ 1 ∧ i = .int .i64 k ∧ u = .int .i64 a ∧ r = .int .i64 0 ∧ a = sumL (l.take k)) (fun _ _ i => 1 - (intOf i).toNat)
      case atStart => exact ⟨0, 0, by omega, rfl, rfl, rfl, by simp [sumL]⟩
      case round =>
        obtain ⟨k, a, hk, rfl, rfl, rfl, he⟩ := hrel
        have HE := Lib.hid he
        clear he
        have bd : -4398046511104 ≤ a ∧ a ≤ 4398046511104 := by have := HE.out; have := HT.out k (by omega); omega
        obtain ⟨bd1, bd2⟩ := bd
        by_cases hlt : k < 1
        · obtain rfl : k = 0 := by omega
          have c1 := HC.out 0 (by have := HN.out; omega)
          have hst : Hid (sumL (l.take 1) = sumL (l.take 0) + l.getD 0 0) := Lib.hid (HS.out 0 (by have := HN.out; omega))
          obtain ⟨x1, x2⟩ := HB.out 0
          generalize l.getD 0 0 = x at *
          simp only [Nat.add_zero] at c1
          go_wp2
          go_round
          case rel => exact ⟨1, a + x, by omega, by go_num, by simp, by simp, by have := hst.out; have := HE.out; omega⟩
          case measure => simp [intOf]
        · obtain rfl : k = 1 := by omega
          go_wp2
          go_ret
          exact ⟨ret_int (by have := HE.out; have := HF.out 1 (by have := HN.out; omega); omega), rfl⟩
    · go_enter Tryz.func186, Tryz.ntmps186
      go_wp2
      go_loop [3, 4, 9] (fun u r i => ∃ (k : Nat) (a q : Int), k ≤ 2 ∧ i = .int .i64 k ∧ u = .int .i64 a ∧ r = .int .i64 q ∧ 2 * a + q = sumL (l.take k) ∧ -(k : Int) ≤ q ∧ q ≤ k) (fun _ _ i => 2 - (intOf i).toNat)
      case atStart => exact ⟨0, 0, 0, by omega, rfl, rfl, rfl, by simp [sumL], by omega, by omega⟩
      case round =>
        obtain ⟨k, a, q, hk, rfl, rfl, rfl, he, hq1, hq2⟩ := hrel
        have HE := Lib.hid he
        clear he
        have bd : -4398046511104 ≤ a ∧ a ≤ 4398046511104 ∧ -2 ≤ q ∧ q ≤ 2 := by have := HE.out; have := HT.out k (by omega); omega
        obtain ⟨bd1, bd2, bd3, bd4⟩ := bd
        by_cases hlt : k < 2
        · have q1 : decide ((k : Int) < 2) = true := by simp; omega
          have c1 := HC.out k (by have := HN.out; omega)
          have hst := Lib.hid (HS.out k (by have := HN.out; omega))
          obtain ⟨x1, x2⟩ := HB.out k
          generalize l.getD k 0 = x at *
          have H2 := Lib.hid (Clk.td2 x)
          have d1 : -1099511627776 ≤ x.tdiv 2 ∧ x.tdiv 2 ≤ 1099511627776 ∧ -1 ≤ x.tmod 2 ∧ x.tmod 2 ≤ 1 := by have := H2.out; omega
          obtain ⟨d1, d2, d3, d4⟩ := d1
          go_wp2
          go_round
          case rel => exact ⟨k + 1, a + x.tdiv 2, q + x.tmod 2, by omega, by go_num, rfl, rfl, by have := hst.out; have := HE.out; have := H2.out; omega, by omega, by omega⟩
          case measure => simp [intOf]; omega
        · obtain rfl : k = 2 := by omega
          have H2 := Lib.hid (Clk.td2 q)
          have d1 : -2 ≤ q.tdiv 2 ∧ q.tdiv 2 ≤ 2 ∧ -1 ≤ q.tmod 2 ∧ q.tmod 2 ≤ 1 := by have := H2.out; omega
          obtain ⟨d1, d2, d3, d4⟩ := d1
          have hf := Lib.hid (HF.out 2 (by have := HN.out; omega))
          by_cases hneg : q.tmod 2 < 0
          · have q1 : decide (q.tmod 2 < 0) = true := decide_eq_true hneg
            go_wp2
            go_ret
            exact ⟨ret_int (by have := hf.out; have := HE.out; have := H2.out; omega), rfl⟩
          · have q1 : decide (q.tmod 2 < 0) = false := decide_eq_false hneg
            go_wp2
            go_ret
            exact ⟨ret_int (by have := hf.out; have := HE.out; have := H2.out; omega), rfl⟩
  exact go _ rfl h12

theorem minL_eq (l : List Int) : minL l = l.foldl min (l.getD 0 0) := by
  cases l with
  | nil => rfl
  | cons x l => show l.foldl min x = l.foldl min (min x x); rw [show min x x = x by omega]
theorem maxL_eq (l : List Int) : maxL l = l.foldl max (l.getD 0 0) := by
  cases l with
  | nil => rfl
  | cons x l => show l.foldl max x = l.foldl max (max x x); rw [show max x x = x by omega]
theorem fold_bd {l : List Int} (h : small l) (k : Nat) : (-1099511627776 ≤ (l.take k).foldl min (l.getD 0 0) ∧ (l.take k).foldl min (l.getD 0 0) ≤ 1099511627776) ∧ (-1099511627776 ≤ (l.take k).foldl max (l.getD 0 0) ∧ (l.take k).foldl max (l.getD 0 0) ≤ 1099511627776) := by
  have h0 := h.getD 0
  constructor
  · rcases Clk.foldl_min_mem (l.take k) (l.getD 0 0) with e | e
    · omega
    · exact h _ (List.mem_of_mem_take e)
  · rcases Clk.foldl_max_mem (l.take k) (l.getD 0 0) with e | e
    · omega
    · exact h _ (List.mem_of_mem_take e)

theorem ite_min (x m : Int) : (if x < m then x else m) = min m x := by split <;> omega
theorem ite_max (x m : Int) : (if m < x then x else m) = max m x := by split <;> omega

set_option maxRecDepth 100000 in
set_option maxHeartbeats 1000000 in
theorem avg_rf (l : List Int) (v : Value) (w : World) (B : Nat) (hv : SeesI w B v l) (hs : small l) (h4 : l.length ≤ 4) :
    Calls Tryz.prog 152 #[v] w fun e w' => e = .returned (.int .i64 (avg l)) ∧ Below w.heap.size w w' := by
  obtain ⟨A, c, rfl, h1, h2, h3, -⟩ := hv.at_
  by_cases h0 : l.length = 0
  · have e : avg l = 0 := by unfold avg; rw [if_pos h0]
    rw [h0, e]
    clear hv h3
    go_enter Tryz.func152, Tryz.ntmps152
    go_wp2
    go_ret
    exact ⟨rfl, Below.refl _ _⟩
  obtain ⟨b, off, rfl, hb, hc⟩ := h3 (by omega)
  have HS := Lib.hid (sum_take l)
  have HM := Lib.hid (fold_take min (l.getD 0 0) l)
  have HX := Lib.hid (fold_take max (l.getD 0 0) l)
  have HB := Lib.hid (fun k => hs.getD k)
  have hbw : b < w.heap.size := World.block_lt_of_cell? w _ (hc 0 (by omega))
  have HC : Hid (∀ W : World, Below w.heap.size w W → ∀ k, k < l.length → W.cell? ⟨b, off + k, none⟩ = some (.int .i64 (l.getD k 0))) := Lib.hid (fun W hW k hk => (hW.cell hbw).trans (hc k hk))
  have HT := Lib.hid (sum_bd hs)
  have HD := Lib.hid (fold_bd hs)
  have HF : Hid (∀ k, k = l.length → l.take k = l) := Lib.hid (fun k hk => by rw [hk, List.take_length])
  have HA : Hid (avg l = if l.length < 3 then sumL l / (l.length : Int) else (sumL l - l.foldl min (l.getD 0 0) - l.foldl max (l.getD 0 0)) / ((l.length : Int) - 2)) := Lib.hid (by unfold avg; rw [if_neg h0, minL_eq, maxL_eq])
  clear hv h3 hc hs
  generalize hR : avg l = R at *
  clear hR
  have go : ∀ N : Nat, l.length = N → (N = 1 ∨ N = 2 ∨ N = 3 ∨ N = 4) → Calls Tryz.prog 152 #[.slice (some ⟨b, off, none⟩) N c] w fun e w' => e = .returned (.int .i64 R) ∧ Below w.heap.size w w' := by
    intro N hN hN2
    have HN := Lib.hid hN
    clear hN
    have c0 : w.cell? ⟨b, off, none⟩ = some (.int .i64 (l.getD 0 0)) := HC.out w (Below.refl _ _) 0 (by have := HN.out; omega)
    generalize l.getD 0 0 = z0 at *
    obtain ⟨nb1, nb2⟩ : 1 ≤ N ∧ N ≤ 4 := by omega
    have q0 : ((N : Int) == 0) = false := by simp; omega
    go_enter Tryz.func152, Tryz.ntmps152
    go_wp2
    go_region
    go_wp2
    go_loopw [3, 4, 5, 6] (fun u p q i wr => ∃ (k : Nat), k ≤ N ∧ i = .int .i64 k ∧ u = .int .i64 (sumL (l.take k)) ∧ p = .int .i64 ((l.take k).foldl min z0) ∧ q = .int .i64 ((l.take k).foldl max z0) ∧ Below w.heap.size w wr) (fun _ _ _ i _ => N - (intOf i).toNat)
    case atStart => exact ⟨0, by omega, rfl, by simp [sumL], by simp, by simp, (Below.refl _ _).drew⟩
    case round =>
      obtain ⟨k, hk, rfl, rfl, rfl, rfl, hbw⟩ := hrel
      obtain ⟨s1, s2⟩ := HT.out k (by omega)
      obtain ⟨⟨m1, m2⟩, ⟨x1, x2⟩⟩ := HD.out k
      by_cases hlt : k < N
      · have q1 : decide ((k : Int) < (N : Nat)) = true := by simp; omega
        have HS1 := Lib.hid (HS.out k (by have := HN.out; omega))
        have HM1 := Lib.hid (HM.out k (by have := HN.out; omega))
        have HX1 := Lib.hid (HX.out k (by have := HN.out; omega))
        have c1 := fun W hW => HC.out W hW k (by have := HN.out; omega)
        obtain ⟨y1, y2⟩ := HB.out k
        generalize l.getD k 0 = x at *
        generalize sumL (l.take k) = sm at *
        generalize (l.take k).foldl min z0 = mn at *
        generalize (l.take k).foldl max z0 = mx at *
        have c2 := c1 wr hbw
        go_wp2
        go_region
        go_wp2
        go_roundw
        case rel => exact ⟨k + 1, by omega, by go_num, by rw [HS1.out], by rw [HM1.out, ite_min], by rw [HX1.out, ite_max], hbw.drew⟩
        case measure => simp [intOf]; omega
      · have q1 : decide ((k : Int) < (N : Nat)) = false := by simp; omega
        have HK := Lib.hid (HF.out k (by have := HN.out; omega))
        rw [HK.out] at s1 s2 m1 m2 x1 x2 ⊢
        rcases hN2 with rfl | rfl | rfl | rfl
        case inl =>
          go_wp2_with fail
          refine (floor1_rf _ _ (by omega)).mono ?_
          rintro e w' ⟨rfl, rfl⟩
          go_wp2
          go_ret
          exact ⟨ret_int (by have := HA.out; have := HN.out; rw [HA.out, HN.out]; simp), hbw⟩
        case inr.inl =>
          go_wp2_with fail
          refine (floor2_rf _ _ (by omega)).mono ?_
          rintro e w' ⟨rfl, rfl⟩
          go_wp2
          go_ret
          exact ⟨ret_int (by have := HA.out; have := HN.out; rw [HA.out, HN.out]; simp), hbw⟩
        case inr.inr.inl =>
          go_wp2_with fail
          refine (floor1_rf _ _ (by omega)).mono ?_
          rintro e w' ⟨rfl, rfl⟩
          go_wp2
          go_ret
          exact ⟨ret_int (by have := HA.out; have := HN.out; rw [HA.out, HN.out]; simp), hbw⟩
        case inr.inr.inr =>
          go_wp2_with fail
          refine (floor2_rf _ _ (by omega)).mono ?_
          rintro e w' ⟨rfl, rfl⟩
          go_wp2
          go_ret
          exact ⟨ret_int (by have := HA.out; have := HN.out; rw [HA.out, HN.out]; simp), hbw⟩
  exact go _ rfl (by omega)
end Go.Proofs.YtpdenmcacaajkaaGreat

/-! ### ClD -/
namespace Go.Proofs.YtpdenmcacaajkaaGreat
open Go.RowKit
open Clk (sumL minL maxL avg)

theorem SeesI.sub {w : World} {B b off n c : Nat} {l : List Int} (h : SeesI w B (.slice (some ⟨b, off, none⟩) n c) l) (hn : n = l.length) (i j : Nat) (hij : i ≤ j) (hj : j ≤ n) (h0 : 0 < n) {o m c' : Nat} (ho : o = off + i) (hm : m = j - i) (hc : c' = c - i) :
    SeesI w B (.slice (some ⟨b, o, none⟩) m c') ((l.drop i).take (j - i)) := by
  subst ho hm hc hn
  obtain ⟨A, c', e, h1, h2, h3, -⟩ := h.at_
  simp only [Value.slice.injEq] at e
  obtain ⟨rfl, -, rfl⟩ := e
  obtain ⟨b', off', e, hb, hcell⟩ := h3 h0
  simp only [Option.some.injEq, Addr.mk.injEq] at e
  obtain ⟨rfl, rfl, -⟩ := e
  have hl : ((l.drop i).take (j - i)).length = j - i := by simp; omega
  refine ⟨_, _, by rw [hl], by rw [hl]; omega, by omega, fun _ => ⟨b, off + i, rfl, hb, fun k hk => ?_⟩, fun h => by cases h⟩
  rw [hl] at hk
  have := hcell (i + k) (by omega)
  rw [Nat.add_assoc, this]
  simp [iv, List.getD_eq_getElem?_getD, hk]

theorem OwnsI.form0 {w : World} {B : Nat} {v : Value} {l : List Int} (h : OwnsI w B v l) (h0 : 0 < l.length) : ∃ g c, v = .slice (some ⟨g, 0, none⟩) l.length c ∧ l.length ≤ c ∧ c ≤ maxLen ∧ B ≤ g ∧ g < w.heap.size := by
  rcases h.2 with ⟨-, hn⟩ | ⟨g, cap, cur, rfl, hb, hg, hn, hc, -⟩
  · omega
  · exact ⟨g, cap, rfl, hn, hc, hb, (Array.getElem?_eq_some_iff.1 hg).1⟩
theorem small.perm {l m : List Int} (h : small l) (hp : m.Perm l) : small m := fun x hx => h x (hp.mem_iff.1 hx)
theorem small.sub {l : List Int} (h : small l) (i j : Nat) : small ((l.drop i).take j) := fun x hx => h x (List.mem_of_mem_drop (List.mem_of_mem_take hx))

set_option maxRecDepth 100000 in
set_option maxHeartbeats 1000000 in
theorem avg_cl (l : List Int) (v : Value) (w : World) (B : Nat) (hB : B ≤ w.heap.size) (hv : SeesI w B v l) (hs : small l) (h4 : l.length ≤ 4) :
    Calls Tryz.prog 168 #[v] w fun e w' => e = .returned (.int .i64 (avg l)) ∧ Below w.heap.size w w' := by
  have hv0 := Lib.hid hv
  obtain ⟨A, c, rfl, h1, h2, h3, -⟩ := hv.at_
  by_cases h0 : l.length = 0
  · have e : avg l = 0 := by unfold avg; rw [if_pos h0]
    rw [h0, e]
    clear hv hv0 h3
    go_enter Tryz.func168, Tryz.ntmps168
    go_wp2
    go_ret
    exact ⟨rfl, Below.refl _ _⟩
  by_cases h3' : l.length < 3
  · have e : avg l = sumL l / (l.length : Int) := Clk.avg_small (by omega) h3'
    rw [e]
    have H := Lib.hid (mean_cl l _ w B hv hs (by omega))
    have q0 : ((l.length : Int) == 0) = false := by rw [beq_eq_false_iff_ne]; omega
    have q1 : decide ((2 : Int) < (l.length : Int)) = false := decide_eq_false (by omega)
    clear hv hv0 h3 e
    go_enter Tryz.func168, Tryz.ntmps168
    go_wp2_with fail
    refine H.out.mono ?_
    rintro e w' ⟨rfl, rfl⟩
    go_wp2
    go_ret
    exact ⟨rfl, Below.refl _ _⟩
  · have H := Lib.hid (clone_sl l _ w B hv (by omega) (by omega))
    have q0 : ((l.length : Int) == 0) = false := by rw [beq_eq_false_iff_ne]; omega
    have q1 : decide ((2 : Int) < (l.length : Int)) = true := decide_eq_true (by omega)
    clear hv hv0 h3
    go_enter Tryz.func168, Tryz.ntmps168
    go_wp2_with fail
    refine H.out.mono ?_
    rintro e w1 ⟨v1, rfl, ho, hb⟩
    obtain ⟨g, c1, rfl, k1, k2, k3, k4⟩ := ho.form0 (by omega)
    have H2 := Lib.hid (sort_sl l g l.length c1 w1 w.heap.size ho rfl (by omega) (by omega))
    clear ho
    have q2 : ¬ c1 = 1 := by omega
    go_wp2_with fail
    refine H2.out.mono ?_
    rintro e w2 ⟨rfl, m, hp, hso, ho2, hb2⟩
    have hle := hp.length_eq
    have hsub := ho2.sees.sub (by omega) 1 (l.length - 1) (by omega) (by omega) (by omega) (o := 1) (by omega) (m := l.length - 1 - 1) rfl rfl
    have hlen : ((m.drop 1).take (l.length - 1 - 1)).length = l.length - 2 := by simp; omega
    have H3 := Lib.hid (mean_cl ((m.drop 1).take (l.length - 1 - 1)) _ w2 w2.heap.size hsub ((hs.perm hp).sub _ _) (by omega))
    have e3 := Clk.avg_mid hso (by omega) (by omega)
    rw [hle, show l.length - 2 = l.length - 1 - 1 by omega, Clk.avg_perm hp] at e3
    have HE := Lib.hid e3
    clear e3 hlen hsub ho2 hso hle
    go_wp2_with fail
    refine H3.out.mono ?_
    rintro e w3 ⟨rfl, rfl⟩
    go_wp2
    go_ret
    exact ⟨ret_int (by rw [HE.out]; simp), hb.trans hb2⟩

/-- Averages of numbers written out, by a list that lies in new memory. -/
theorem avg_lit (L : List Int) (hs : small L) (h4 : L.length ≤ 4) (w : World) (cs : Array Value) (hl : cs = (L.map (Value.int .i64)).toArray) (n : Nat) (hn : n = L.length) (W : World) (hW : W = w.alloc (.cells cs 3)) (r : Int) (hr : avg L = r) :
    Calls Tryz.prog 168 #[.slice (some ⟨w.heap.size, 0, none⟩) n n] W fun e w' => e = .returned (.int .i64 r) ∧ Below w.heap.size w w' := by
  subst hW hr
  refine (avg_cl L _ _ (w.heap.size + 1) (by simp) (sees_liti w 3 cs L hl _ (Nat.lt_succ_self _) (by unfold maxLen; omega) _ _ _ rfl hn hn) hs h4).mono ?_
  rintro e w' ⟨rfl, hb⟩
  exact ⟨rfl, ((Below.refl _ _).alloc (Nat.le_refl _) _).trans (hb.mono (by simp))⟩

/-- At most four numbers that may be. -/
def fewB (l : List Int) : Bool := l.length ≤ 4 && l.all fun x => decide (-1099511627776 ≤ x) && decide (x ≤ 1099511627776)
theorem fewB_small {l : List Int} (h : fewB l = true) : small l ∧ l.length ≤ 4 := by
  simp [fewB] at h
  exact ⟨fun x hx => h.2 x hx, h.1⟩
theorem fewB_no {l : List Int} {k : Nat} (h : l.getD k 0 < -1099511627776 ∨ 1099511627776 < l.getD k 0) : fewB l = false := by
  cases hf : fewB l
  · rfl
  · have := (fewB_small hf).1.getD k
    omega
theorem fewB_end {l : List Int} (k : Nat) (hk : k = l.length ∨ k = 4) (hle : k ≤ l.length) (h : ∀ j, j < k → -1099511627776 ≤ l.getD j 0 ∧ l.getD j 0 ≤ 1099511627776) : fewB l = decide ((l.length : Int) ≤ 4) := by
  by_cases h4 : l.length ≤ 4
  · rw [decide_eq_true (by omega)]
    obtain rfl : k = l.length := by omega
    simp only [fewB, Bool.and_eq_true, decide_eq_true_eq, List.all_eq_true]
    refine ⟨h4, fun x hx => ?_⟩
    obtain ⟨i, hi, rfl⟩ := List.getElem_of_mem hx
    have := h i hi
    rw [List.getD_eq_getElem?_getD, List.getElem?_eq_getElem hi] at this
    simpa using this
  · rw [decide_eq_false (by omega)]
    simp [fewB]; omega
end Go.Proofs.YtpdenmcacaajkaaGreat
