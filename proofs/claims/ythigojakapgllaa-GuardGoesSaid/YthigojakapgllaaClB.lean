/- Sorting a short list that the call owns: insertion sort, by the library's own text. For lists of at most twelve. -/
import Derived.Test.YthigojakapgllaaClA
namespace Go.Proofs.Ythigojakapgllaa
open Go.RowKit
open Clk (ins swp)

/-- What sorting leaves. -/
def Srt (w : World) (B : Nat) (v : Value) (l : List Int) (w' : World) : Prop := ∃ l' : List Int, l'.Perm l ∧ Clk.sorted l' ∧ OwnsI w' B v l' ∧ Below B w w'

set_option maxRecDepth 100000 in
set_option maxHeartbeats 4000000 in
theorem isort_sl (l : List Int) (g n c : Nat) (w : World) (B : Nat) (how : OwnsI w B (.slice (some ⟨g, 0, none⟩) n c) l) (hn : n = l.length) (h0 : 0 < n) (h12 : n ≤ 12) :
    Calls Try.prog 63 #[.slice (some ⟨g, 0, none⟩) n c, .int .i64 0, .int .i64 n] w fun e w' => e = .returned (.tuple #[]) ∧ Srt w B (.slice (some ⟨g, 0, none⟩) n c) l w' := by
  have HN := Lib.hid hn
  clear hn
  have hBg := how.lt g rfl
  go_enter Try.func63, Try.ntmps63
  go_wp2
  go_loopw [6] (fun i wr => ∃ (k : Nat) (m : List Int), 1 ≤ k ∧ k ≤ n ∧ i = .int .i64 k ∧ m.Perm l ∧ (∀ p q, p < q → q < k → m.getD p 0 ≤ m.getD q 0) ∧ OwnsI wr B (.slice (some ⟨g, 0, none⟩) n c) m ∧ Below B w wr) (fun i _ => n - (intOf i).toNat)
  case atStart => exact ⟨1, l, by omega, by omega, rfl, List.Perm.refl _, fun p q _ _ => by omega, how, Below.refl _ _⟩
  case round =>
    obtain ⟨k, m, hk1, hk, rfl, hp, hs, ho, hb⟩ := hrel
    have hm := Lib.hid hp.length_eq
    by_cases hlt : k < n
    · have q1 : decide ((k : Int) < (n : Nat)) = true := by simp; omega
      go_wp2
      go_loopw [7] (fun j wi => ∃ (t : Nat) (m' : List Int), t ≤ k ∧ j = .int .i64 t ∧ m'.Perm l ∧ ins m' k t ∧ OwnsI wi B (.slice (some ⟨g, 0, none⟩) n c) m' ∧ Below B w wi) (fun j _ => (intOf j).toNat)
      case atStart => exact ⟨k, m, by omega, rfl, hp, Clk.ins_start hs, ho, hb⟩
      case round =>
        obtain ⟨t, m', ht, rfl, hp', hi, ho', hb'⟩ := hrel
        have hm' := Lib.hid hp'.length_eq
        by_cases h00 : 0 < t
        · have c1 := ho'.cell (i := t) (by have := HN.out; have := hm'.out; omega) (by have := HN.out; have := hm'.out; omega)
          have c2 := ho'.cell (i := t - 1) (by have := HN.out; have := hm'.out; omega) (by have := HN.out; have := hm'.out; omega)
          have f1 := ho'.frozen (by have := HN.out; have := hm'.out; omega) t
          have f2 := ho'.frozen (by have := HN.out; have := hm'.out; omega) (t - 1)
          have q2 : decide ((0 : Int) < (t : Nat)) = true := by simp; omega
          have hdn := fun nq => Lib.hid (ho'.below (below_drewN (Below.refl wr.heap.size wr) nq) (Nat.le_refl _))
          have hbn := fun nq => Lib.hid (hb'.trans (below_drewN (Below.refl B wr) nq))
          by_cases hless : m'.getD t 0 < m'.getD (t - 1) 0
          · have hstep := Lib.hid (Clk.ins_step hi h00 ht (by have := HN.out; have := hm'.out; omega) hless)
            have hset : ∀ W, OwnsI W B (.slice (some ⟨g, 0, none⟩) n c) m' → OwnsI ((W.setCell ⟨g, t, none⟩ (.int .i64 (m'.getD (t - 1) 0))).setCell ⟨g, t - 1, none⟩ (.int .i64 (m'.getD t 0))) B (.slice (some ⟨g, 0, none⟩) n c) (swp m' t) := fun W hW => (hW.set (by have := HN.out; have := hm'.out; omega) t (m'.getD (t - 1) 0) (by have := HN.out; have := hm'.out; omega)).set (by simp; have := HN.out; have := hm'.out; omega) (t - 1) (m'.getD t 0) (by simp; have := HN.out; have := hm'.out; omega)
            have hset := Lib.hid hset
            obtain ⟨s, rfl⟩ : ∃ s, t = s + 1 := ⟨t - 1, by omega⟩
            simp only [Nat.add_sub_cancel] at c2 f2 hless hset
            generalize m'.getD (s + 1) 0 = x at *
            generalize m'.getD s 0 = y at *
            have q3 : decide (x < y) = true := by simp; omega
            go_wp2
            go_quiet ((go_at_call 69; exact Calls.quiet_of_same (less_cm _ _ _)))
            go_wp2
            go_region
            go_wp2
            go_roundw
            case rel => exact ⟨s, swp m' (s + 1), by omega, rfl, (Clk.swp_perm m' (s + 1) h00 (by have := HN.out; have := hm'.out; omega)).trans hp', hstep.out, hset.out _ (hdn _).out, ((hbn _).out.setCell (p := ⟨g, s + 1, none⟩) hBg.1 _).setCell (p := ⟨g, s, none⟩) hBg.1 _⟩
            case measure => simp [intOf]
          · have hend := Lib.hid (Clk.ins_end hi (.inr (by omega)))
            generalize m'.getD t 0 = x at *
            generalize m'.getD (t - 1) 0 = y at *
            have q3 : decide (x < y) = false := decide_eq_false (by omega)
            go_wp2
            go_quiet ((go_at_call 69; exact Calls.quiet_of_same (less_cm _ _ _)))
            go_wp2
            go_roundw
            case rel => exact ⟨k + 1, m', by omega, by omega, by go_num, hp', hend.out, (hdn _).out, (hbn _).out⟩
            case measure => simp [intOf]; omega
        · have hend := Lib.hid (Clk.ins_end hi (.inl (by omega)))
          have hdn := fun nq => Lib.hid (ho'.below (below_drewN (Below.refl wr.heap.size wr) nq) (Nat.le_refl _))
          have hbn := fun nq => Lib.hid (hb'.trans (below_drewN (Below.refl B wr) nq))
          have q2 : decide ((0 : Int) < (t : Nat)) = false := decide_eq_false (by omega)
          go_wp2
          go_quiet (fail)
          go_wp2
          go_roundw
          case rel => exact ⟨k + 1, m', by omega, by omega, by go_num, hp', hend.out, (hdn _).out, (hbn _).out⟩
          case measure => simp [intOf]; omega
    · have q1 : decide ((k : Int) < (n : Nat)) = false := by simp; omega
      have hkn : k = n := by omega
      have hfin : Clk.sorted m := fun p q h1 h2 => hs p q h1 (by have := HN.out; have := hm.out; omega)
      have hfin := Lib.hid hfin
      clear hkn hs
      go_wp2
      exact bodyPost_end (results_none (by rfl) _ _ _) rfl ⟨rfl, m, hp, hfin.out, ho, hb⟩

set_option maxRecDepth 100000 in
set_option maxHeartbeats 4000000 in
theorem pdq_sl (l : List Int) (g n c : Nat) (k : Int) (w : World) (B : Nat) (how : OwnsI w B (.slice (some ⟨g, 0, none⟩) n c) l) (hn : n = l.length) (h0 : 0 < n) (h12 : n ≤ 12) :
    Calls Try.prog 61 #[.slice (some ⟨g, 0, none⟩) n c, .int .i64 0, .int .i64 n, .int .i64 k] w fun e w' => e = .returned (.tuple #[]) ∧ Srt w B (.slice (some ⟨g, 0, none⟩) n c) l w' := by
  have H := Lib.hid (isort_sl l g n c w B how hn h0 h12)
  clear how hn
  have q1 : decide ((n : Int) ≤ 12) = true := by simp; omega
  go_enter Try.func61, Try.ntmps61
  go_wp2_with fail
  refine wp_loop_once ?_
  go_wp2_with fail
  refine H.out.mono ?_
  rintro e w' ⟨rfl, hs⟩
  go_wp2
  exact bodyPost_ret (results_none (by rfl) _ _ _) rfl ⟨rfl, hs⟩
set_option maxRecDepth 100000 in
set_option maxHeartbeats 4000000 in
/-- slices.Sort of a short list that the call owns. -/
theorem sort_sl (l : List Int) (g n c : Nat) (w : World) (B : Nat) (how : OwnsI w B (.slice (some ⟨g, 0, none⟩) n c) l) (hn : n = l.length) (h0 : 0 < n) (h12 : n ≤ 12) :
    Calls Try.prog 59 #[.slice (some ⟨g, 0, none⟩) n c] w fun e w' => e = .returned (.tuple #[]) ∧ Srt w B (.slice (some ⟨g, 0, none⟩) n c) l w' := by
  have H := fun k => Lib.hid (pdq_sl l g n c k w B how hn h0 h12)
  have K := Lib.hid (len_bt (n : Int) w (by omega))
  clear how hn
  go_enter Try.func59, Try.ntmps59
  go_wp2_with fail
  refine K.out.mono ?_
  rintro e w' ⟨k, rfl, rfl⟩
  go_wp2_with fail
  refine (H k).out.mono ?_
  rintro e w' ⟨rfl, hs⟩
  go_wp2
  exact bodyPost_end (results_none (by rfl) _ _ _) rfl ⟨rfl, hs⟩
set_option maxRecDepth 100000 in
set_option maxHeartbeats 4000000 in
/-- slices.Clone of a list that is not nil. -/
theorem clone_sl (l : List Int) (v : Value) (w : World) (B : Nat) (hv : SeesI w B v l) (h0 : 0 < l.length) (h4 : l.length ≤ 1000) :
    Calls Try.prog 58 #[v] w fun e w' => ∃ v', e = .returned v' ∧ OwnsI w' w.heap.size v' l ∧ Below w.heap.size w w' := by
  obtain ⟨A, c, rfl, h1, h2, h3, h4'⟩ := hv.at_
  obtain ⟨b, off, rfl, hb, hc⟩ := h3 h0
  have H := Lib.hid (owns_emptyi w 3 rfl w.heap.size w.heap.size (Nat.le_refl _) rfl)
  have hs := Lib.hid ((hv.alloc (.cells #[] 3)))
  have q0 := Lib.run_eql_slice_nil (P := Try.prog) w 83 3 (some ⟨b, off, none⟩) l.length c 0 0 Try.underlying83
  clear hv h3 h4' hc
  go_enter Try.func58, Try.ntmps58
  go_wp2_with (at_builtin; go_loud (refine wpList_pushI _ rfl (.tmp 5) (.tmp 6) 83 rfl w.heap.size infoInt Try.underlying83 _ [] H.out rfl _ _ l rfl hs.out (by simp) (by simp; omega) ?_))
  intro v' w' ho he
  go_wp2
  go_ret
  exact ⟨_, rfl, by simpa using ho, ((Below.refl _ _).alloc (Nat.le_refl _) _).trans (he.toBelow (by simp) (fun j hj => by simp [Value.ownBlock] at hj; omega))⟩
end Go.Proofs.Ythigojakapgllaa
