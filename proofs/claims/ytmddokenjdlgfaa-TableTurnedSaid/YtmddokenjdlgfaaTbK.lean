/- The contract of the laws' own 'known'. -/
import Derived.Test.YtmddokenjdlgfaaTbJ
namespace Go.Proofs.Ytmddokenjdlgfaa
open Go.RowKit
open Tb (D T)

theorem someT_is : ∀ n, 4 ≤ n → n ≤ 8 → (someT n).is = true := by
  intro n h4 h8
  have : n = 4 ∨ n = 5 ∨ n = 6 ∨ n = 7 ∨ n = 8 := by omega
  rcases this with rfl | rfl | rfl | rfl | rfl <;> decide +kernel
theorem known_len : (someT 4).bytes.length = 27 := by decide +kernel
theorem known_head : (someT 4).bytes.take 4 = [77, 84, 82, 78] := by decide +kernel
theorem text_mtrn : textL [77, 84, 82, 78] = { data := #[77, 84, 82, 78] } := by decide +kernel
/-- What is seen of a list's first part. -/
theorem OwnsL.first {w : World} {B : Nat} {g n c : Nat} {l : List Int} (h : OwnsL w B (.slice (some ⟨g, 0, none⟩) n c) l) (m : Nat) (hm : m ≤ l.length) : SeesL w w.heap.size (.slice (some ⟨g, 0, none⟩) m c) (l.take m) := by
  obtain ⟨A, c', hv, h1, h2, h3, h4⟩ := h.sees.at_
  simp only [Value.slice.injEq] at hv
  obtain ⟨rfl, rfl, rfl⟩ := hv
  have hl : (l.take m).length = m := by rw [List.length_take]; omega
  refine ⟨_, c, by rw [hl], by omega, h2, ?_, fun h => by cases h⟩
  rw [hl]
  exact (h3.less hm).alike fun k hk => by unfold bv; simp [List.getD_eq_getElem?_getD, hk]

set_option maxRecDepth 100000 in
set_option maxHeartbeats 4000000 in
theorem known_tb (w : World) : Calls Try.prog 19 #[] w fun e w' => e = .returned (.bool true) ∧ Below w.heap.size w w' := by
  have hs := fun W => some_tb 4 (by omega) W
  have hi4 := someT_is 4 (by omega) (by omega)
  have hp := fun v W (h : SeesT W W.heap.size v (someL 4)) => pack_tb (someT 4) v W W.heap.size (Nat.le_refl _) h
  have hi := fun v W (h : SeesT W W.heap.size v (someL 4)) => is_tb (someT 4) v W W.heap.size (Nat.le_refl _) h
  have hz := fun W => is_tb Tb.zero (.slice none 0 0) W W.heap.size (Nat.le_refl _) SeesT.nil
  rw [Tb.zero_is] at hz
  rw [hi4] at hi
  unfold Pk pkR pkE at hp
  simp only [hi4, if_true] at hp
  have hl := known_len
  have hh := known_head
  unfold tabV at hs hp hi hz
  unfold someT at hs hp hi
  unfold Tb.zero at hz
  simp only at hs hp hi hz
  change (Tb.T.bytes ⟨someL 4, 1, 10, 20⟩).length = 27 at hl
  change (Tb.T.bytes ⟨someL 4, 1, 10, 20⟩).take 4 = _ at hh
  generalize Tb.T.bytes ⟨someL 4, 1, 10, 20⟩ = bs at *
  generalize someL 4 = ls at *
  have hs := fun W => Lib.hid (hs W)
  have hp := fun v W h => Lib.hid (hp v W h)
  have hi := fun v W h => Lib.hid (hi v W h)
  have hz := fun W => Lib.hid (hz W)
  have hl := Lib.hid hl
  have hh := Lib.hid hh
  go_enter Try.func19, Try.ntmps19
  go_wp2_with fail
  refine (hs w).out.mono ?_
  rintro e w1 ⟨v1, rfl, ho1, hb1⟩
  go_wp2_with fail
  refine (hp v1 w1 ho1.sees).out.mono ?_
  rintro e w2 ⟨v2, rfl, ho2, hb⟩
  have hb2 := hb1.trans (hb.mono hb1.size)
  obtain ⟨g, c, rfl, hgb, h3⟩ : ∃ g c, v2 = .slice (some ⟨g, 0, none⟩) 27 c ∧ w1.heap.size ≤ g ∧ 27 ≤ c := by
    rcases ho2.2 with ⟨-, h2⟩ | ⟨g, cap, cur, h1, h2, h3, h4, -⟩
    · have := hl.out; omega
    · exact ⟨g, cap, by rw [h1, hl.out], h2, by rw [hl.out] at h4; exact h4⟩
  have hf := ho2.first 4 (by have := hl.out; omega)
  rw [hh.out] at hf
  have kt := run_textL hf
  rw [text_mtrn] at kt
  have q1 : (4 : Int) ≤ (c : Nat) := by omega
  clear hf hb hl hh ho2
  go_wp2_with fail
  refine (hs w2).out.mono ?_
  rintro e w3 ⟨v3, rfl, ho3, hb3⟩
  have hb3' := hb2.trans (hb3.mono hb2.size)
  go_wp2_with fail
  refine (hi v3 w3 ho3.sees).out.mono ?_
  rintro e w4 ⟨rfl, hb4⟩
  have hb4' := hb3'.trans (hb4.mono hb3'.size)
  go_wp2_with fail
  refine (hz w4).out.mono ?_
  rintro e w5 ⟨rfl, hb5⟩
  have hb5' := hb4'.trans (hb5.mono hb4'.size)
  go_wp2
  go_ret
  exact ⟨rfl, hb5'⟩
end Go.Proofs.Ytmddokenjdlgfaa
