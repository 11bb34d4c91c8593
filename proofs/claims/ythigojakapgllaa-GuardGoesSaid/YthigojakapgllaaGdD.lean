/- The contracts of a guardian's Pass and of slices.Index. For times that may be. -/
import Derived.Test.YthigojakapgllaaGdB
import Derived.BigQuiet
namespace Go.Proofs.Ythigojakapgllaa
open Go.RowKit

def bools8 (f : Nat → Bool) : Value := .agg #[.bool (f 0), .bool (f 1), .bool (f 2), .bool (f 3), .bool (f 4), .bool (f 5), .bool (f 6), .bool (f 7)]
def ints8 (f : Nat → Int) : Value := .agg #[.int .i64 (f 0), .int .i64 (f 1), .int .i64 (f 2), .int .i64 (f 3), .int .i64 (f 4), .int .i64 (f 5), .int .i64 (f 6), .int .i64 (f 7)]
/-- The first of n, or -1. -/
def fst (f : Nat → Bool) (n : Nat) : Int := match (List.range n).find? f with | some k => (k : Nat) | none => -1
theorem fst_none {f : Nat → Bool} {n : Nat} (h : ∀ k, k < n → f k = false) : fst f n = -1 := by
  unfold fst
  rw [List.find?_eq_none.2 (fun k hk => by simp [h k (List.mem_range.1 hk)])]
theorem fst_hit {f : Nat → Bool} {n k : Nat} (hk : k < n) (hf : f k = true) (h : ∀ j, j < k → f j = false) : fst f n = (k : Nat) := by
  unfold fst
  rw [List.find?_range_eq_some.2 ⟨hf, List.mem_range.2 hk, fun j hj => by simp [h j hj]⟩]
set_option maxRecDepth 100000 in
set_option maxHeartbeats 1000000 in
theorem index_sl (b n c : Nat) (f : Nat → Bool) (w : World) (h : ∀ k, k < n → w.cell? ⟨b, k, none⟩ = some (.bool (f k))) (hn : n ≤ 8) :
    Calls Try.prog 28 #[.slice (some ⟨b, 0, none⟩) n c, .bool true] w fun e w' => e = .returned (.int .i64 (fst f n)) ∧ w = w' := by
  have H := Lib.hid h
  have F0 := Lib.hid (fst_none (f := f) (n := n))
  have F1 := fun k h1 h2 h3 => Lib.hid (fst_hit (f := f) (n := n) (k := k) h1 h2 h3)
  generalize fst f n = r at *
  clear h
  go_enter Try.func28, Try.ntmps28
  go_wp2
  go_loopw [8] (fun i wr => ∃ k : Nat, k ≤ n ∧ i = .int .i64 k ∧ Hid (∀ j, j < k → f j = false) ∧ w = wr) (fun i _ => n - (intOf i).toNat)
  case atStart => exact ⟨0, by omega, rfl, Lib.hid (fun j hj => by omega), rfl⟩
  case round =>
    obtain ⟨k, hk, rfl, hz, rfl⟩ := hrel
    by_cases hlt : k < n
    · have q1 : decide ((k : Int) < (n : Int)) = true := decide_eq_true (by omega)
      have ck := H.out k hlt
      cases hf : f k
      · rw [hf] at ck
        go_wp2
        go_roundw
        case rel => exact ⟨k + 1, by omega, by go_num, Lib.hid (fun j hj => by
          by_cases e : j = k
          · subst e; exact hf
          · exact hz.out j (by omega)), trivial⟩
        case measure => simp [intOf]; omega
      · rw [hf] at ck
        have e1 := F1 k hlt hf hz.out
        go_wp2
        go_ret
        exact ⟨by rw [e1.out]; rfl, rfl⟩
    · have q1 : decide ((k : Int) < (n : Int)) = false := decide_eq_false (by omega)
      have e1 := F0.out (fun j hj => hz.out j (by omega))
      go_wp2
      go_ret
      exact ⟨by rw [e1]; rfl, rfl⟩
/-- Who may be heard. -/
def G.pass (s : G) (f : Nat → Bool) (a : Nat → Int) : Int := if s.kn then (if f s.slot && nearB (a s.slot) s.now s.wi then (s.slot : Nat) else -1) else fst f s.n
theorem b8_get (f : Nat → Bool) (k : Nat) (hk : k < 8) : (#[.bool (f 0), .bool (f 1), .bool (f 2), .bool (f 3), .bool (f 4), .bool (f 5), .bool (f 6), .bool (f 7)] : Array Value)[k]? = some (.bool (f k)) := by
  rcases (by omega : k = 0 ∨ k = 1 ∨ k = 2 ∨ k = 3 ∨ k = 4 ∨ k = 5 ∨ k = 6 ∨ k = 7) with rfl | rfl | rfl | rfl | rfl | rfl | rfl | rfl <;> rfl
theorem i8_get (f : Nat → Int) (k : Nat) (hk : k < 8) : (#[.int .i64 (f 0), .int .i64 (f 1), .int .i64 (f 2), .int .i64 (f 3), .int .i64 (f 4), .int .i64 (f 5), .int .i64 (f 6), .int .i64 (f 7)] : Array Value)[k]? = some (.int .i64 (f k)) := by
  rcases (by omega : k = 0 ∨ k = 1 ∨ k = 2 ∨ k = 3 ∨ k = 4 ∨ k = 5 ∨ k = 6 ∨ k = 7) with rfl | rfl | rfl | rfl | rfl | rfl | rfl | rfl <;> rfl
set_option maxRecDepth 100000 in
set_option maxHeartbeats 4000000 in
theorem pass_gd (g : Nat) (s : G) (f : Nat → Bool) (a : Nat → Int) (w : World) (h : GAt w g s) (hn : s.n ≤ 8) (hs : s.slot < 8) (hnow : time s.now) (hat : time (a s.slot)) (hwi : 0 ≤ s.wi ∧ s.wi ≤ 2305843009213693952) :
    Calls Try.prog 16 #[.pointer (some ⟨g, 0, none⟩), bools8 f, ints8 a] w fun e w' => e = .returned (.int .i64 (s.pass f a)) ∧ Below w.heap.size w w' := by
  have hB := ((Below.refl w.heap.size w).alloc (Nat.le_refl _) (.cells #[.bool (f 0), .bool (f 1), .bool (f 2), .bool (f 3), .bool (f 4), .bool (f 5), .bool (f 6), .bool (f 7)] 22)).alloc (by simp) (.cells #[.int .i64 (a 0), .int .i64 (a 1), .int .i64 (a 2), .int .i64 (a 3), .int .i64 (a 4), .int .i64 (a 5), .int .i64 (a 6), .int .i64 (a 7)] 23)
  have hX := (Blk.new w _ rfl #[.bool (f 0), .bool (f 1), .bool (f 2), .bool (f 3), .bool (f 4), .bool (f 5), .bool (f 6), .bool (f 7)] 22).alloc (.cells #[.int .i64 (a 0), .int .i64 (a 1), .int .i64 (a 2), .int .i64 (a 3), .int .i64 (a 4), .int .i64 (a 5), .int .i64 (a 6), .int .i64 (a 7)] 23)
  have hY := Blk.new (w.alloc (.cells #[.bool (f 0), .bool (f 1), .bool (f 2), .bool (f 3), .bool (f 4), .bool (f 5), .bool (f 6), .bool (f 7)] 22)) (w.heap.size + 1) (by simp) #[.int .i64 (a 0), .int .i64 (a 1), .int .i64 (a 2), .int .i64 (a 3), .int .i64 (a 4), .int .i64 (a 5), .int .i64 (a 6), .int .i64 (a 7)] 23
  have hG := h.below hB h.lt
  unfold bools8 ints8
  go_enter Try.func16, Try.ntmps16
  generalize hw0 : (w.alloc (.cells #[.bool (f 0), .bool (f 1), .bool (f 2), .bool (f 3), .bool (f 4), .bool (f 5), .bool (f 6), .bool (f 7)] 22)).alloc (.cells #[.int .i64 (a 0), .int .i64 (a 1), .int .i64 (a 2), .int .i64 (a 3), .int .i64 (a 4), .int .i64 (a 5), .int .i64 (a 6), .int .i64 (a 7)] 23) = w0 at *
  have c17 := hG.1.cell 17 (x := .bool s.kn) rfl
  unfold G.pass
  cases hk : s.kn
  · rw [hk] at c17
    have c8 := hG.1.cell 8 (x := .int .i64 (s.n : Nat)) rfl
    have hI := Lib.hid (index_sl w.heap.size s.n 8 f w0 (fun k hk => hX.cell k (b8_get f k (by omega))) hn)
    simp only [Bool.false_eq_true, if_false]
    generalize fst f s.n = r at *
    have i1 : (0 : Int) ≤ (s.n : Int) := by omega
    have i2 : (s.n : Int) ≤ 8 := by omega
    clear hX hY h hG
    go_wp2_with fail
    refine hI.out.mono ?_
    rintro e w2 ⟨rfl, rfl⟩
    go_wp2
    go_ret
    exact ⟨rfl, hB⟩
  · rw [hk] at c17
    have cx := hX.cell s.slot (b8_get f s.slot hs)
    have cy := hY.cell s.slot (i8_get a s.slot hs)
    have c9 := hG.1.cell 9 (x := .int .i64 s.wi) rfl
    have c16 := hG.1.cell 16 (x := .int .i64 s.now) rfl
    have c18 := hG.1.cell 18 (x := .int .i64 (s.slot : Nat)) rfl
    have i1 : (0 : Int) ≤ (s.slot : Int) := by omega
    have i2 : (s.slot : Int) < 8 := by omega
    have hN := fun W => Lib.hid ((near_gd (a s.slot) s.now s.wi W hat hnow hwi).mono fun e w' (h : e = .returned (.bool (nearB (a s.slot) s.now s.wi)) ∧ W = w') => (⟨h.1, h.2.symm⟩ : e = .returned (.bool (nearB (a s.slot) s.now s.wi)) ∧ w' = W))
    have HB : Hid (∀ n, Below w.heap.size w (w0.drewN n)) := Lib.hid fun n => below_drewN hB n
    have H18 : Hid (∀ n, (w0.drewN n).cell? ⟨g, 18, none⟩ = some (.int .i64 (s.slot : Nat))) := Lib.hid fun n => (hG.1.drewN n).cell 18 rfl
    generalize f s.slot = q at *
    generalize a s.slot = x at *
    generalize nearB x s.now s.wi = q2 at *
    clear hX hY h hG
    cases q
    · clear hN
      simp only [Bool.false_and, Bool.false_eq_true, if_false, if_true]
      go_wp2_with fail
      go_quiet (fail)
      all_goals
        go_wp2
        all_goals
          go_ret
          exact ⟨rfl, HB.out _⟩
    · cases q2
      all_goals
        simp only [Bool.true_and, Bool.false_eq_true, if_false, if_true]
        go_wp2_with fail
        go_quiet (first | (go_at_call 29; refine Calls.quiet_of_same (hN _).out))
        have c18' := H18.out nq
        have hB' := HB.out nq
        generalize w0.drewN nq = w3 at *
        go_wp2
        go_ret
        exact ⟨rfl, hB'⟩
set_option maxRecDepth 100000 in
set_option maxHeartbeats 1000000 in
theorem pass_nil (f : Nat → Bool) (a : Nat → Int) (w : World) :
    Calls Try.prog 16 #[.pointer none, bools8 f, ints8 a] w fun e w' => e = .returned (.int .i64 (-1)) ∧ Below w.heap.size w w' := by
  have hB := ((Below.refl w.heap.size w).alloc (Nat.le_refl _) (.cells #[.bool (f 0), .bool (f 1), .bool (f 2), .bool (f 3), .bool (f 4), .bool (f 5), .bool (f 6), .bool (f 7)] 22)).alloc (by simp) (.cells #[.int .i64 (a 0), .int .i64 (a 1), .int .i64 (a 2), .int .i64 (a 3), .int .i64 (a 4), .int .i64 (a 5), .int .i64 (a 6), .int .i64 (a 7)] 23)
  unfold bools8 ints8
  go_enter Try.func16, Try.ntmps16
  go_wp2
  go_ret
  exact ⟨rfl, hB⟩
end Go.Proofs.Ythigojakapgllaa
