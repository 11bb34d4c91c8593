/- The law's 'alike' and 'known'. For stores that are alike. -/
import Derived.Test.YtnjllegnkbhciaaStR
import Derived.Test.YtnjllegnkbhciaaStC
namespace Go.Proofs.Ytnjllegnkbhciaa
open Go.RowKit

set_option maxRecDepth 100000 in
set_option maxHeartbeats 2000000 in
theorem alike_st (F F' : List Nat) (g g' : Nat) (s : MS) (w : World) (h : CAt F w g s) (h' : RAt F' w g' s) :
    Calls Try.prog 23 #[.pointer (some ⟨g, 0, none⟩), .pointer (some ⟨g', 0, none⟩)] w fun e w' => e = .returned (.bool true) ∧ Below w.heap.size w w' := by
  have hok := h.2
  have HG := fun n W (h : CAt F W g s) => Lib.hid (get_st F g s n W h)
  have HR := fun n W (h : RAt F' W g' s) => Lib.hid (get_rf F' g' s n W h)
  have HS := fun n u v W B C (hu : SeesL W B u (s.gd n)) (hv : SeesL W C v (s.gd n)) => Lib.hid (same_rf u v (s.gd n) (s.gd n) (s.ga n) (s.ga n) (s.gg n) (s.gg n) B C W hu hv (hok.gd n).2 (hok.gd n).2)
  simp only [decide_true, Bool.and_true] at HS
  go_enter Try.func23, Try.ntmps23
  go_wp2_with fail
  go_loopw [5] (fun i wr => ∃ k : Int, -1 ≤ k ∧ k ≤ 9 ∧ i = .int .i64 k ∧ Below w.heap.size w wr) (fun i _ => (9 - intOf i).toNat)
  case atStart => exact ⟨-1, by omega, by omega, rfl, Below.refl _ _⟩
  case round =>
    obtain ⟨k, hk, hk9, rfl, hb⟩ := hrel
    by_cases hlt : k ≤ 8
    · have r1 : decide (k ≤ 8) = true := decide_eq_true hlt
      go_wp2_with fail
      refine (HG k _ (SAt.below h hb)).out.mono ?_
      rintro _ w1 ⟨v1, rfl, s1, -, b1⟩
      have hb1 := hb.trans (b1.mono hb.size)
      go_wp2_with fail
      refine (HR k _ (SAt.below h' hb1)).out.mono ?_
      rintro _ w2 ⟨v2, rfl, s2, b2⟩
      have hb2 := hb1.trans (b2.mono hb1.size)
      have s1 := s1.below b2
      go_wp2_with fail
      refine (HS k _ _ _ _ _ s1 s2).out.mono ?_
      rintro _ w3 ⟨rfl, b3⟩
      have hb3 := hb2.trans (b3.mono hb2.size)
      clear s1 s2 b1 b2 b3 hb hb1 hb2
      go_wp2
      go_roundw
      case rel => exact ⟨k + 1, by omega, by omega, by go_num, hb3⟩
      case measure => simp [intOf]; omega
    · have r1 : decide (k ≤ 8) = false := decide_eq_false hlt
      go_wp2
      go_ret
      exact ⟨rfl, hb⟩
set_option maxRecDepth 100000 in
set_option maxHeartbeats 2000000 in
theorem known_st (w : World) :
    Calls Try.prog 24 #[] w fun e w' => e = .returned (.bool true) ∧ Below w.heap.size w w' := by
  have N := fun W => Lib.hid (new_st W)
  have Fd := field_d
  have Fa := field_a
  have Fg := field_g
  go_enter Try.func24, Try.ntmps24
  go_wp2_with fail
  refine (N _).out.mono ?_
  rintro _ w1 ⟨g, rfl, hg, h1, b1⟩
  have h1 := h1 [g]
  have G := fun s n W (h : CAt [g] W g s) => Lib.hid (get_st [g] g s n W h)
  have P := fun W v B (h : CAt [g] W g MS.new) (hF : g < W.heap.size) (hv : SeesL W B v [7]) => Lib.hid (put_st [g] g MS.new 3 v [7] B W h (by simp) (by simpa using hF) hv (fun x hx => by simp at hx; subst hx; omega))
  have A := fun s W (h : CAt [g] W g s) => Lib.hid (age_st [g] g s W h (by simp))
  have hgl := SAt.lt h1
  go_wp2_with fail
  refine (G _ 3 _ h1).out.mono ?_
  rintro _ w2 ⟨v2, rfl, s2, -, b2⟩
  obtain ⟨A2, c2, rfl, -⟩ := s2.at_
  clear s2
  have h2 := SAt.below h1 b2
  have hb2 := b1.trans (b2.mono b1.size)
  clear h1 b1 b2
  have e2 : MS.new.ga 3 = -1 := by decide
  rw [e2]
  have hgl := SAt.lt h2
  have hS := sees_lit w2 5 #[.int .u8 7] [7] rfl (w2.heap.size + 1) (by omega) (by simp [maxLen]) w2.heap.size 1 1 rfl rfl rfl
  have hb3 := hb2.alloc hb2.size (.cells #[.int .u8 7] 5)
  have h3 := SAt.below h2 ((Below.refl w2.heap.size w2).alloc (Nat.le_refl _) (.cells #[.int .u8 7] 5))
  go_wp2_with fail
  refine (P _ _ _ h3 (by simp; omega) hS).out.mono ?_
  rintro _ w3 ⟨rfl, h4, o4⟩
  have hb4 := hb3.trans (o4.below hg (SAt.lt h3))
  clear h2 h3 hb2 hb3 hS o4 P
  go_wp2_with fail
  refine (A _ _ h4).out.mono ?_
  rintro _ w4 ⟨rfl, h5, o5⟩
  have hb5 := hb4.trans (o5.below hg (SAt.lt h4))
  clear h4 hb4 o5
  go_wp2_with fail
  refine (A _ _ h5).out.mono ?_
  rintro _ w5 ⟨rfl, h6, o6⟩
  have hb6 := hb5.trans (o6.below hg (SAt.lt h5))
  clear h5 hb5 o6
  have hs : ∃ s, s = (((MS.new.put 3 [7]).age).age) ∧ s.gd 3 = [7] ∧ s.ga 3 = 2 ∧ s.gg 3 = false := ⟨_, rfl, by decide, by decide, by decide⟩
  obtain ⟨s, hs, d3, a3, g3⟩ := hs
  rw [← hs] at h6
  clear hs
  have G := G s 3
  rw [d3, a3, g3] at G
  go_wp2_with fail
  refine (G _ h6).out.mono ?_
  rintro _ w6 ⟨v6, rfl, s6, -, b6⟩
  obtain ⟨A6, c6, rfl, -⟩ := s6.at_
  clear s6
  have hb7 := hb6.trans (b6.mono hb6.size)
  have h7 := SAt.below h6 b6
  clear h6 hb6 b6
  go_wp2_with fail
  refine (G _ h7).out.mono ?_
  rintro _ w7 ⟨v7, rfl, s7, -, b7⟩
  have hb8 := hb7.trans (b7.mono hb7.size)
  have h8 := SAt.below h7 b7
  have R := run_textL s7
  obtain ⟨A7, c7, rfl, -⟩ := s7.at_
  have T : textL [7] = ⟨#[7]⟩ := by decide
  rw [T] at R
  have R : (convert 27 9 (.slice A7 1 c7)).run Try.prog w7 = .ok (.string ⟨#[7]⟩) w7 := R
  clear h7 hb7 b7 T s7
  go_wp2_with fail
  refine (G _ h8).out.mono ?_
  rintro _ w8 ⟨v8, rfl, s8, -, b8⟩
  obtain ⟨A8, c8, rfl, -⟩ := s8.at_
  clear s8
  have hb9 := hb8.trans (b8.mono hb8.size)
  go_wp2
  go_ret
  exact ⟨rfl, hb9⟩
end Go.Proofs.Ytnjllegnkbhciaa
