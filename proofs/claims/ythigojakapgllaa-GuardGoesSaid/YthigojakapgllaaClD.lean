/- The contract of clock.Average; known, few. For lists of at most four numbers that may be. -/
import Derived.Test.YthigojakapgllaaClC
namespace Go.Proofs.Ythigojakapgllaa
open Go.RowKit
open Clk (sumL minL maxL avg)

theorem SeesI.sub {w : World} {B b off n c : Nat} {l : List Int} (h : SeesI w B (.slice (some ⟨b, off, none⟩) n c) l) (hn : n = l.length) (i j : Nat) (hij : i ≤ j) (hj : j ≤ n) (h0 : 0 < n) {o m c' : Nat} (ho : o = off + i) (hm : m = j - i) (hc : c' = c - i) :
    SeesI w B (.slice (some ⟨b, o, none⟩) m c') ((l.drop i).take (j - i)) := by
  subst ho hm hc hn
  obtain ⟨A, c', e, h1, h2, h3, -⟩ := h.at_
  simp only [Value.slice.injEq] at e
  obtain ⟨rfl, -, rfl⟩ := e
  obtain ⟨b', off', e, hb, hcell⟩ := h3 h0
  simp only [Option.some.injEq, Addr.mk.injEq] at e
  obtain ⟨rfl, rfl, -⟩ := e
  have hl : ((l.drop i).take (j - i)).length = j - i := by simp; omega
  refine ⟨_, _, by rw [hl], by rw [hl]; omega, by omega, fun _ => ⟨b, off + i, rfl, hb, fun k hk => ?_⟩, fun h => by cases h⟩
  rw [hl] at hk
  have := hcell (i + k) (by omega)
  rw [Nat.add_assoc, this]
  simp [iv, List.getD_eq_getElem?_getD, hk]

theorem OwnsI.form0 {w : World} {B : Nat} {v : Value} {l : List Int} (h : OwnsI w B v l) (h0 : 0 < l.length) : ∃ g c, v = .slice (some ⟨g, 0, none⟩) l.length c ∧ l.length ≤ c ∧ c ≤ maxLen ∧ B ≤ g ∧ g < w.heap.size := by
  rcases h.2 with ⟨-, hn⟩ | ⟨g, cap, cur, rfl, hb, hg, hn, hc, -⟩
  · omega
  · exact ⟨g, cap, rfl, hn, hc, hb, (Array.getElem?_eq_some_iff.1 hg).1⟩
theorem small.perm {l m : List Int} (h : small l) (hp : m.Perm l) : small m := fun x hx => h x (hp.mem_iff.1 hx)
theorem small.sub {l : List Int} (h : small l) (i j : Nat) : small ((l.drop i).take j) := fun x hx => h x (List.mem_of_mem_drop (List.mem_of_mem_take hx))

set_option maxRecDepth 100000 in
set_option maxHeartbeats 1000000 in
theorem avg_cl (l : List Int) (v : Value) (w : World) (B : Nat) (hB : B ≤ w.heap.size) (hv : SeesI w B v l) (hs : small l) (h4 : l.length ≤ 4) :
    Calls Try.prog 53 #[v] w fun e w' => e = .returned (.int .i64 (avg l)) ∧ Below w.heap.size w w' := by
  have hv0 := Lib.hid hv
  obtain ⟨A, c, rfl, h1, h2, h3, -⟩ := hv.at_
  by_cases h0 : l.length = 0
  · have e : avg l = 0 := by unfold avg; rw [if_pos h0]
    rw [h0, e]
    clear hv hv0 h3
    go_enter Try.func53, Try.ntmps53
    go_wp2
    go_ret
    exact ⟨rfl, Below.refl _ _⟩
  by_cases h3' : l.length < 3
  · have e : avg l = sumL l / (l.length : Int) := Clk.avg_small (by omega) h3'
    rw [e]
    have H := Lib.hid (mean_cl l _ w B hv hs (by omega))
    have q0 : ((l.length : Int) == 0) = false := by rw [beq_eq_false_iff_ne]; omega
    have q1 : decide ((2 : Int) < (l.length : Int)) = false := decide_eq_false (by omega)
    clear hv hv0 h3 e
    go_enter Try.func53, Try.ntmps53
    go_wp2_with fail
    refine H.out.mono ?_
    rintro e w' ⟨rfl, rfl⟩
    go_wp2
    go_ret
    exact ⟨rfl, Below.refl _ _⟩
  · have H := Lib.hid (clone_sl l _ w B hv (by omega) (by omega))
    have q0 : ((l.length : Int) == 0) = false := by rw [beq_eq_false_iff_ne]; omega
    have q1 : decide ((2 : Int) < (l.length : Int)) = true := decide_eq_true (by omega)
    clear hv hv0 h3
    go_enter Try.func53, Try.ntmps53
    go_wp2_with fail
    refine H.out.mono ?_
    rintro e w1 ⟨v1, rfl, ho, hb⟩
    obtain ⟨g, c1, rfl, k1, k2, k3, k4⟩ := ho.form0 (by omega)
    have H2 := Lib.hid (sort_sl l g l.length c1 w1 w.heap.size ho rfl (by omega) (by omega))
    clear ho
    have q2 : ¬ c1 = 1 := by omega
    go_wp2_with fail
    refine H2.out.mono ?_
    rintro e w2 ⟨rfl, m, hp, hso, ho2, hb2⟩
    have hle := hp.length_eq
    have hsub := ho2.sees.sub (by omega) 1 (l.length - 1) (by omega) (by omega) (by omega) (o := 1) (by omega) (m := l.length - 1 - 1) rfl rfl
    have hlen : ((m.drop 1).take (l.length - 1 - 1)).length = l.length - 2 := by simp; omega
    have H3 := Lib.hid (mean_cl ((m.drop 1).take (l.length - 1 - 1)) _ w2 w2.heap.size hsub ((hs.perm hp).sub _ _) (by omega))
    have e3 := Clk.avg_mid hso (by omega) (by omega)
    rw [hle, show l.length - 2 = l.length - 1 - 1 by omega, Clk.avg_perm hp] at e3
    have HE := Lib.hid e3
    clear e3 hlen hsub ho2 hso hle
    go_wp2_with fail
    refine H3.out.mono ?_
    rintro e w3 ⟨rfl, rfl⟩
    go_wp2
    go_ret
    exact ⟨ret_int (by rw [HE.out]; simp), hb.trans hb2⟩

/-- Averages of numbers written out, by a list that lies in new memory. -/
theorem avg_lit (L : List Int) (hs : small L) (h4 : L.length ≤ 4) (w : World) (cs : Array Value) (hl : cs = (L.map (Value.int .i64)).toArray) (n : Nat) (hn : n = L.length) (W : World) (hW : W = w.alloc (.cells cs 3)) (r : Int) (hr : avg L = r) :
    Calls Try.prog 53 #[.slice (some ⟨w.heap.size, 0, none⟩) n n] W fun e w' => e = .returned (.int .i64 r) ∧ Below w.heap.size w w' := by
  subst hW hr
  refine (avg_cl L _ _ (w.heap.size + 1) (by simp) (sees_liti w 3 cs L hl _ (Nat.lt_succ_self _) (by unfold maxLen; omega) _ _ _ rfl hn hn) hs h4).mono ?_
  rintro e w' ⟨rfl, hb⟩
  exact ⟨rfl, ((Below.refl _ _).alloc (Nat.le_refl _) _).trans (hb.mono (by simp))⟩

/-- At most four numbers that may be. -/
def fewB (l : List Int) : Bool := l.length ≤ 4 && l.all fun x => decide (-1099511627776 ≤ x) && decide (x ≤ 1099511627776)
theorem fewB_small {l : List Int} (h : fewB l = true) : small l ∧ l.length ≤ 4 := by
  simp [fewB] at h
  exact ⟨fun x hx => h.2 x hx, h.1⟩
theorem fewB_no {l : List Int} {k : Nat} (h : l.getD k 0 < -1099511627776 ∨ 1099511627776 < l.getD k 0) : fewB l = false := by
  cases hf : fewB l
  · rfl
  · have := (fewB_small hf).1.getD k
    omega
theorem fewB_end {l : List Int} (k : Nat) (hk : k = l.length ∨ k = 4) (hle : k ≤ l.length) (h : ∀ j, j < k → -1099511627776 ≤ l.getD j 0 ∧ l.getD j 0 ≤ 1099511627776) : fewB l = decide ((l.length : Int) ≤ 4) := by
  by_cases h4 : l.length ≤ 4
  · rw [decide_eq_true (by omega)]
    obtain rfl : k = l.length := by omega
    simp only [fewB, Bool.and_eq_true, decide_eq_true_eq, List.all_eq_true]
    refine ⟨h4, fun x hx => ?_⟩
    obtain ⟨i, hi, rfl⟩ := List.getElem_of_mem hx
    have := h i hi
    rw [List.getD_eq_getElem?_getD, List.getElem?_eq_getElem hi] at this
    simpa using this
  · rw [decide_eq_false (by omega)]
    simp [fewB]; omega
end Go.Proofs.Ythigojakapgllaa
