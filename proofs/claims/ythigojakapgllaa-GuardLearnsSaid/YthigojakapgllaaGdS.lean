/- A guardian in silence: the laws' own scripts. -/
import Derived.Test.YthigojakapgllaaGdL
namespace Go.Proofs.Ythigojakapgllaa
open Go.RowKit

/-- Behind a Cold frame of slot 0, and k silent slots. -/
def silG (N k : Nat) : G := if k < 2 * N then { newG (someT N 1) with kn := true, slot := (1 + k) % N, now := 0, si := k, l := [] } else { newG (someT N 1) with kn := false, slot := 0, now := 0, si := 2 * N, l := [] }
theorem newG_n (N : Nat) (dr : Int) : (newG (someT N dr)).n = N := someL_length N
theorem silG_start (N : Nat) (h4 : 4 ≤ N) : (newG (someT N 1)).told 0 0 = silG N 0 := by
  unfold silG G.told
  rw [if_pos (by omega), newG_n]
  show G.mk _ _ _ _ _ _ _ _ _ = G.mk _ _ _ _ _ _ _ _ _
  congr 1
  exact (newG_n N 1).symm
theorem mod_next (N k : Nat) (h4 : 4 ≤ N) (h8 : N ≤ 8) : (k % N + 1 = N → (k + 1) % N = 0) ∧ (k % N + 1 ≠ N → (k + 1) % N = k % N + 1) := by
  rcases (by omega : N = 4 ∨ N = 5 ∨ N = 6 ∨ N = 7 ∨ N = 8) with rfl | rfl | rfl | rfl | rfl <;> omega
theorem silG_next (N k : Nat) (h4 : 4 ≤ N) (h8 : N ≤ 8) : (silG N k).ended [] 0 = silG N (k + 1) := by
  obtain ⟨m1, m2⟩ := mod_next N (1 + k) h4 h8
  by_cases h : k < 2 * N
  · have e0 : silG N k = { newG (someT N 1) with kn := true, slot := (1 + k) % N, now := 0, si := k, l := [] } := if_pos h
    rw [e0]
    unfold G.ended
    simp only [if_true, List.length_nil, Nat.lt_irrefl, if_false]
    unfold G.missed
    simp only
    rw [newG_n]
    by_cases h2 : k + 1 = 2 * N
    · rw [if_pos h2]
      unfold silG
      rw [if_neg (by omega), h2]
      show G.mk _ _ _ _ _ _ _ _ _ = G.mk _ _ _ _ _ _ _ _ _
      congr 1
      exact (newG_n N 1).symm
    · rw [if_neg h2]
      unfold silG
      rw [if_pos (by omega)]
      unfold G.on
      simp only
      rw [newG_n, termV_nil, Int.add_zero]
      by_cases h3 : (1 + k) % N + 1 = N
      · rw [if_pos h3, show 1 + (k + 1) = 1 + k + 1 by omega, m1 h3]
      · rw [if_neg h3, show 1 + (k + 1) = 1 + k + 1 by omega, m2 h3]
  · have e0 : ∀ j, ¬ j < 2 * N → silG N j = { newG (someT N 1) with kn := false, slot := 0, now := 0, si := 2 * N, l := [] } := fun j hj => if_neg hj
    rw [e0 k h, e0 (k + 1) (by omega)]
    exact ended_not _ rfl (tells_short (by simp) _) 0
theorem silG_ok (N k : Nat) (h4 : 4 ≤ N) (h8 : N ≤ 8) : (silG N k).Ok 0 := by
  have hm := Nat.mod_lt (1 + k) (show 0 < N by omega)
  unfold silG
  split
  · refine ⟨by rw [newG_n]; omega, by rw [newG_n]; exact hm, (fun x hx => by cases hx), ?_, ?_, ?_, ?_⟩
    · show (0 : Int) ≤ 4 * 1 + 9 ∧ (4 * 1 + 9 : Int) ≤ _; omega
    · show _ ≤ (0 : Int) ∧ (0 : Int) ≤ _; omega
    · show _ ≤ (0 : Int) - 0 ∧ (0 : Int) - 0 ≤ _; omega
    · show k ≤ 1000; omega
  · refine ⟨by rw [newG_n]; omega, by rw [newG_n]; show 0 < N; omega, (fun x hx => by cases hx), ?_, ?_, ?_, ?_⟩
    · show (0 : Int) ≤ 4 * 1 + 9 ∧ (4 * 1 + 9 : Int) ≤ _; omega
    · show _ ≤ (0 : Int) ∧ (0 : Int) ≤ _; omega
    · show _ ≤ (0 : Int) - 0 ∧ (0 : Int) - 0 ≤ _; omega
    · show 2 * N ≤ 1000; omega
/-- The laws' Cold frame of slot s. -/
theorem end_cold (N : Nat) (h4 : 4 ≤ N) (h8 : N ≤ 8) (at_ : Int) (ha : -1000000 ≤ at_ ∧ at_ ≤ 1000000) (g : Nat) (v : Value) (W : World) (h : GAt W g (newG (someT N 1))) (hv : SeesL W W.heap.size v (lawF 3 0).bytes) :
    Calls Try.prog 14 #[.pointer (some ⟨g, 0, none⟩), v, .int .i64 at_] W fun e w' => e = .returned (.tuple #[]) ∧ GAt w' g ((newG (someT N 1)).told 0 at_) ∧ Only g W w' := by
  have := end_gd g _ v _ at_ W h (newG_ok N 1 h4 h8 (by omega) at_ ha) hv (lawF_ok (by omega) (by omega))
  rw [show (newG (someT N 1)).ended (lawF 3 0).bytes at_ = (newG (someT N 1)).told 0 at_ from ended_told _ rfl (by omega) 0 (by rw [newG_n]; omega) (by rw [newG_n]; omega) at_] at this
  exact this
theorem end_sil (N k : Nat) (h4 : 4 ≤ N) (h8 : N ≤ 8) (g : Nat) (W : World) (h : GAt W g (silG N k)) :
    Calls Try.prog 14 #[.pointer (some ⟨g, 0, none⟩), .slice none 0 0, .int .i64 0] W fun e w' => e = .returned (.tuple #[]) ∧ GAt w' g (silG N (k + 1)) ∧ Only g W w' := by
  have := end_gd g _ (.slice none 0 0) [] 0 W h (silG_ok N k h4 h8) SeesL.nil (fun x hx => by cases hx)
  rw [silG_next N k h4 h8] at this
  exact this
end Go.Proofs.Ythigojakapgllaa
