/- What the laws' frames tell a guardian. -/
import Derived.Test.YthigojakapgllaaGdG
import Derived.Test.YthigojakapgllaaFrR
namespace Go.Proofs.Ythigojakapgllaa
open Go.RowKit
open Clk (avg)
open Fr (St F)

/-- A law's frame. -/
def lawF (k s : Int) : F := ⟨k, ⟨0, s, 0⟩, []⟩
theorem lawF_is {k s : Int} (hk : 1 ≤ k ∧ k ≤ 3) (hs : 0 ≤ s ∧ s < 8) : (lawF k s).is = true := by
  rw [Fr.F.is_iff]
  refine ⟨hk, ?_, by simp [lawF]⟩
  rw [Fr.St.may_iff]
  simp only [lawF]
  omega
theorem lawF_ok {k s : Int} (hk : 1 ≤ k ∧ k ≤ 3) (hs : 0 ≤ s ∧ s < 8) : bytesL (lawF k s).bytes := Fr.F.bytes_ok (lawF_is hk hs) (fun x hx => by cases hx)
theorem enc_law {k s : Int} (hk : 1 ≤ k ∧ k ≤ 3) (hs : 0 ≤ s ∧ s < 8) (W : World) :
    Calls Try.prog 13 #[.agg #[.int .i64 k, .int .i64 0, .int .i64 s, .int .i64 0, .slice none 0 0]] W fun e w' => ∃ v, e = .returned (.tuple #[v, .int .i64 0]) ∧ OwnsL w' W.heap.size v (lawF k s).bytes ∧ Below W.heap.size W w' := by
  have h := encode_ref (lawF k s) (.slice none 0 0) W SeesL.nil (fun x hx => by cases hx)
  unfold Enc at h
  rw [(encR_is (lawF_is hk hs)).1, (encR_is (lawF_is hk hs)).2] at h
  exact h
theorem z0_may : z0.may = true := by decide
theorem tells_law {k s : Int} (hk : 2 ≤ k ∧ k ≤ 3) (hs : 0 ≤ s ∧ s < 8) (n : Nat) : tells (lawF k s).bytes n = decide (s < (n : Int)) ∧ (Fr.res (lawF k s).bytes z0).st.s = s := by
  obtain ⟨h1, h2, h3⟩ := Fr.back (lawF_is ⟨by omega, hk.2⟩ hs) z0 z0_may
  have h4 : Fr.sumB (lawF k s).bytes z0 = true := h3.2 (fun h => by have : k = 1 := h; omega)
  have hr : Fr.res (lawF k s).bytes z0 = lawF k s := by
    unfold Fr.res
    rw [h1, h4, h2]
    simp only [Bool.and_self, if_true]
    rw [if_neg (show ¬ (lawF k s).k = 1 from fun h => by have : k = 1 := h; omega)]
  have he : Fr.err (lawF k s).bytes z0 = 0 := by simp [Fr.err, h1, h4]
  unfold tells
  rw [hr, he]
  refine ⟨?_, rfl⟩
  have e1 : decide ((lawF k s).k = 1) = false := decide_eq_false (show ¬ k = 1 by omega)
  rw [e1]
  simp only [decide_true, Bool.not_false, Bool.and_self, Bool.true_and]
  rfl
theorem tells_kd {l : List Int} (h : Fr.kd l = 1) (n : Nat) : tells l n = false := by
  unfold tells
  by_cases he : Fr.err l z0 = 0
  · have hr : (Fr.res l z0).k = 1 := by
      unfold Fr.err at he
      unfold Fr.res
      cases h1 : Fr.formB l z0
      · rw [h1] at he; simp at he
      · cases h2 : Fr.sumB l z0
        · rw [h1, h2] at he; simp at he
        · simpa [Fr.rd] using h
    simp [hr]
  · simp [he]
theorem tells_one (s : Int) (n : Nat) : tells (lawF 1 s).bytes n = false := tells_kd (by simp [Fr.kd, lawF, Fr.F.bytes, Fr.F.body, Fr.F.head]) n
theorem tells_short {l : List Int} (h : l.length < 4) (n : Nat) : tells l n = false := by
  have hf : Fr.formB l z0 = false := by
    rw [Bool.eq_false_iff]; intro e; simp only [Fr.formB, Bool.and_eq_true, decide_eq_true_eq] at e; omega
  unfold tells
  simp [Fr.err, hf]
theorem termV_nil (m : Int) : termV m [] = 0 := by
  unfold termV
  rw [show avg [] = 0 from rfl]
  split <;> rfl
/-- It was told the slot. -/
def G.told (s : G) (k : Nat) (at_ : Int) : G := { s with kn := true, slot := (k + 1) % s.n, now := at_, si := 0, l := [] }
theorem ended_told (s : G) (hkn : s.kn = false) {k : Int} (hk : 2 ≤ k ∧ k ≤ 3) (sl : Nat) (hsl : sl < s.n) (hn : s.n ≤ 8) (at_ : Int) : s.ended (lawF k sl).bytes at_ = s.told sl at_ := by
  obtain ⟨h1, h2⟩ := tells_law hk (s := (sl : Int)) ⟨by omega, by omega⟩ s.n
  unfold G.ended
  rw [hkn]
  simp only [Bool.false_eq_true, if_false]
  unfold G.learnt
  rw [h1, h2, if_pos (by simp; omega)]
  unfold G.on G.told
  simp only [Int.toNat_natCast]
  by_cases e : sl + 1 = s.n
  · rw [if_pos e, e, termV_nil, Int.add_zero, Nat.mod_self]
  · rw [if_neg e, Nat.mod_eq_of_lt (by omega)]
theorem ended_not (s : G) (hkn : s.kn = false) {l : List Int} (h : tells l s.n = false) (at_ : Int) : s.ended l at_ = s := by
  unfold G.ended G.learnt
  rw [hkn, h]
  rfl
/-- A new one of some(n, drift) may be told. -/
theorem newG_ok (n : Nat) (dr : Int) (h4 : 4 ≤ n) (h8 : n ≤ 8) (hd : 0 ≤ dr ∧ dr ≤ 200) (at_ : Int) (ha : -1000000 ≤ at_ ∧ at_ ≤ 1000000) : (newG (someT n dr)).Ok at_ := by
  have hn : (newG (someT n dr)).n = n := someL_length n
  have hl : (newG (someT n dr)).lm = 4 * dr + 9 := rfl
  refine ⟨by omega, by rw [hn]; show 0 < n; omega, (fun x hx => by cases hx), by rw [hl]; omega, ?_, ?_, ?_⟩
  · show _ ≤ (0 : Int) ∧ (0 : Int) ≤ _; omega
  · show _ ≤ at_ - 0 ∧ at_ - 0 ≤ _; omega
  · show 0 ≤ 1000; omega
end Go.Proofs.Ythigojakapgllaa
