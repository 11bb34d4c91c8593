/- Texts GdB, GdD in one. For what each says in front of its theorems. -/
import Derived.BigQuiet
import Derived.Test.YtmlnkkalajnjhaaSB11
/-! ### GdB -/
namespace Go.Proofs.Ytmlnkkalajnjhaa
open Go.RowKit
open Clk (avg)

def time (x : Int) : Prop := -2305843009213693952 ≤ x ∧ x ≤ 2305843009213693952
set_option maxRecDepth 100000 in
set_option maxHeartbeats 1000000 in
theorem less_gd (a b : Int) (w : World) (ha : time a) (hb : time b) :
    Calls Try.prog 72 #[.int .i64 a, .int .i64 b] w fun e w' => e = .returned (.int .i64 (a - b)) ∧ w = w' := by
  unfold time at ha hb
  have z1 : IntKind.i64.wrap (a - b) = a - b := IntWalk.i64_in _ (by omega)
  by_cases h : a < b
  · have q1 : decide (b ≤ a) = false := decide_eq_false (by omega)
    have q2 : decide (a < b) = true := decide_eq_true (by omega)
    have q3 : decide (0 ≤ a - b) = false := decide_eq_false (by omega)
    go_enter Try.func72, Try.ntmps72
    go_wp2
    go_ret
    exact ⟨rfl, rfl⟩
  · have q1 : decide (b ≤ a) = true := decide_eq_true (by omega)
    have q2 : decide (a < b) = false := decide_eq_false (by omega)
    have q3 : decide (a - b < 0) = false := decide_eq_false (by omega)
    go_enter Try.func72, Try.ntmps72
    go_wp2
    go_ret
    exact ⟨rfl, rfl⟩
def nearB (a b m : Int) : Bool := decide (-m ≤ a - b ∧ a - b ≤ m)
theorem u64_sub (a b : Int) (ha : time a) (hb : time b) (h : a ≤ b) : IntKind.u64.wrap (IntKind.u64.wrap b - IntKind.u64.wrap a) = b - a := by
  unfold time at ha hb
  have e : ∀ x, IntKind.u64.wrap x = x % 18446744073709551616 := fun x => rfl
  rw [e, e, e]
  omega
set_option maxRecDepth 100000 in
set_option maxHeartbeats 1000000 in
theorem near_gd (a b m : Int) (w : World) (ha : time a) (hb : time b) (hm : 0 ≤ m ∧ m ≤ 2305843009213693952) :
    Calls Try.prog 57 #[.int .i64 a, .int .i64 b, .int .i64 m] w fun e w' => e = .returned (.bool (nearB a b m)) ∧ w = w' := by
  have h1 := Lib.hid (u64_sub a b ha hb)
  have h2 := Lib.hid (u64_sub b a hb ha)
  unfold time at ha hb
  go_enter Try.func57, Try.ntmps57
  go_wp2
  all_goals
    go_ret
    refine ⟨?_, rfl⟩
    refine ret_bool ?_
    first
      | (rw [h1.out (by omega)]; unfold nearB; congr 1; apply propext; omega)
      | (rw [h2.out (by omega)]; unfold nearB; congr 1; apply propext; omega)
      | (rw [show IntKind.u64.wrap 0 = 0 from rfl]; unfold nearB; congr 1; apply propext; omega)
/-- The slot goes on. -/
def G.on (s : G) : G := if s.slot + 1 = s.n then { s with slot := 0, now := s.now + termV s.lm s.l, l := [] } else { s with slot := s.slot + 1 }
theorem grd_slot (s : G) (k : Nat) : (grd s).setIfInBounds 18 (.int .i64 (k : Nat)) = grd { s with slot := k } := by simp [grd]
theorem grd_now (s : G) (k : Int) : (grd s).setIfInBounds 16 (.int .i64 k) = grd { s with now := k } := by simp [grd]
theorem grd_si (s : G) (k : Nat) : (grd s).setIfInBounds 19 (.int .i64 (k : Nat)) = grd { s with si := k } := by simp [grd]
theorem grd_kn (s : G) (k : Bool) : (grd s).setIfInBounds 17 (.bool k) = grd { s with kn := k } := by simp [grd]
set_option maxRecDepth 100000 in
set_option maxHeartbeats 1000000 in
theorem goOn_gd (g : Nat) (s : G) (w : World) (h : GAt w g s) (hs : s.slot < s.n) (hn : s.n ≤ 8) (hsm : small s.l) (hm : 0 ≤ s.lm ∧ s.lm ≤ 9223372036854775807) (hnow : s.slot + 1 = s.n → time (s.now + termV s.lm s.l)) :
    Calls Try.prog 70 #[.pointer (some ⟨g, 0, none⟩)] w fun e w' => e = .returned (.tuple #[]) ∧ GAt w' g s.on ∧ Only g w w' := by
  have c8 := h.1.cell 8 (x := .int .i64 (s.n : Nat)) rfl
  have c18 := h.1.cell 18 (x := .int .i64 (s.slot : Nat)) rfl
  have f18 := h.1.frozen 18
  have z1 : IntKind.i64.wrap ((s.slot : Int) + 1) = (s.slot : Int) + 1 := IntWalk.i64_in _ (by omega)
  by_cases hc : s.slot + 1 = s.n
  · have z2 : Int.tmod ((s.slot : Int) + 1) (s.n : Int) = 0 := by rw [show ((s.slot : Int) + 1) = (s.n : Int) by omega]; simp
    have z3 : ¬ (s.n : Int) = 0 := by omega
    have H1 : Hid (GAt (w.setCell ⟨g, 18, none⟩ (.int .i64 0)).drew g { s with slot := 0 }) := Lib.hid ⟨((h.1.set 18 (.int .i64 (0 : Nat))).drew).eq (grd_slot s 0), h.2⟩
    go_enter Try.func70, Try.ntmps70
    go_wp2
    go_region
    have hO := Lib.hid (((Only.refl g w).set 18 (.int .i64 0)).drew)
    have c18' := H1.out.1.cell 18 (x := .int .i64 (0 : Nat)) rfl
    generalize hw1 : (w.setCell ⟨g, 18, none⟩ (.int .i64 0)).drew = w1 at *
    have hT := Lib.hid (term_gd g { s with slot := 0 } w1 H1.out hsm hm)
    have T0 := Lib.hid (hnow hc)
    simp only at hT
    generalize hv : termV s.lm s.l = v at *
    generalize wiB s.lm (avg s.l) = q at *
    go_wp2_with fail
    refine hT.out.mono ?_
    rintro e w2 ⟨rfl, hb2⟩
    have H2 := Lib.hid (H1.out.below hb2 H1.out.lt)
    have hO2 := Lib.hid (hO.out.trans (only_of_below g hb2))
    have c16 := H2.out.1.cell 16 (x := .int .i64 s.now) rfl
    have f16 := H2.out.1.frozen 16
    have z4 : IntKind.i64.wrap (s.now + v) = s.now + v := IntWalk.i64_in _ (by have := T0.out; unfold time at this; omega)
    have H3 := Lib.hid (show GAt (w2.setCell ⟨g, 16, none⟩ (.int .i64 (s.now + v))) g { s with slot := 0, now := s.now + v } from ⟨(H2.out.1.set 16 (.int .i64 (s.now + v))).eq (grd_now _ _), H2.out.2⟩)
    have hO3 := Lib.hid (hO2.out.set 16 (.int .i64 (s.now + v)))
    generalize hw3 : w2.setCell ⟨g, 16, none⟩ (.int .i64 (s.now + v)) = w3 at *
    go_wp2_with fail
    refine (clear_gd g _ _ H3.out).mono ?_
    rintro e w4 ⟨rfl, H4, hO4⟩
    go_wp2
    refine bodyPost_end (results_none (by rfl) _ _ _) rfl ⟨rfl, ?_, hO3.out.trans hO4⟩
    unfold G.on
    rw [if_pos hc, hv]
    exact H4
  · have e1 : ((s.slot + 1 : Nat) : Int) = (s.slot : Int) + 1 := by omega
    have z2 : Int.tmod ((s.slot : Int) + 1) (s.n : Int) = (s.slot : Int) + 1 := Int.tmod_eq_of_lt (by omega) (by omega)
    have z3 : ¬ (s.n : Int) = 0 := by omega
    have H1 : Hid (GAt (w.setCell ⟨g, 18, none⟩ (.int .i64 ((s.slot : Int) + 1))).drew g { s with slot := s.slot + 1 }) := Lib.hid ⟨((h.1.set 18 (.int .i64 ((s.slot : Int) + 1))).drew).eq (by rw [← e1]; exact grd_slot s (s.slot + 1)), h.2⟩
    have hO := Lib.hid (((Only.refl g w).set 18 (.int .i64 ((s.slot : Int) + 1))).drew)
    have z4 : (((s.slot : Int) + 1) == 0) = false := by rw [beq_eq_false_iff_ne]; omega
    go_enter Try.func70, Try.ntmps70
    go_wp2
    go_region
    go_wp2
    refine bodyPost_ret (results_none (by rfl) _ _ _) rfl ⟨rfl, ?_, hO.out⟩
    unfold G.on
    rw [if_neg hc]
    exact H1.out
theorem small.keep4 {l : List Int} (h : small l) {n : Int} (hn : -1099511627776 ≤ n ∧ n ≤ 1099511627776) : small (keep4 l n) := by
  unfold Go.Proofs.Ytmlnkkalajnjhaa.keep4
  split
  · intro x hx
    rcases List.mem_append.1 hx with h1 | h1
    · exact h x (List.mem_of_mem_drop h1)
    · simp at h1; subst h1; exact hn
  · intro x hx
    rcases List.mem_append.1 hx with h1 | h1
    · exact h x h1
    · simp at h1; subst h1; exact hn
/-- A slot with bytes. -/
def G.heard (s : G) (at_ : Int) : G := (if s.sy s.slot then { s with si := 0, l := keep4 s.l (at_ - s.now) } else { s with si := 0 }).on
/-- A slot without. -/
def G.missed (s : G) : G := if s.si + 1 = 2 * s.n then { s with si := s.si + 1, kn := false, slot := 0 } else ({ s with si := s.si + 1 } : G).on
theorem grd_sy (s : G) (k : Nat) (hk : k < 8) : (grd s)[k]? = some (.bool (s.sy k)) := by
  rcases (by omega : k = 0 ∨ k = 1 ∨ k = 2 ∨ k = 3 ∨ k = 4 ∨ k = 5 ∨ k = 6 ∨ k = 7) with rfl | rfl | rfl | rfl | rfl | rfl | rfl | rfl <;> rfl
set_option maxRecDepth 100000 in
set_option maxHeartbeats 1000000 in
theorem hear_gd (g : Nat) (s : G) (at_ : Int) (w : World) (h : GAt w g s) (hs : s.slot < s.n) (hn : s.n ≤ 8) (hsm : small s.l) (hm : 0 ≤ s.lm ∧ s.lm ≤ 9223372036854775807)
    (hat : time at_) (hnw : time s.now) (hd : s.sy s.slot = true → -1099511627776 ≤ at_ - s.now ∧ at_ - s.now ≤ 1099511627776) (hnow : s.slot + 1 = s.n → time (s.now + termV s.lm (if s.sy s.slot then keep4 s.l (at_ - s.now) else s.l))) :
    Calls Try.prog 61 #[.pointer (some ⟨g, 0, none⟩), .int .i64 at_] w fun e w' => e = .returned (.tuple #[]) ∧ GAt w' g (s.heard at_) ∧ Only g w w' := by
  have f19 := h.1.frozen 19
  have c19 := h.1.cell 19 (x := .int .i64 (s.si : Nat)) rfl
  have H1 : Hid (GAt (w.setCell ⟨g, 19, none⟩ (.int .i64 0)) g { s with si := 0 }) := Lib.hid ⟨(h.1.set 19 (.int .i64 ((0 : Nat) : Int))).eq (grd_si s 0), h.2⟩
  have hO1 := Lib.hid ((Only.refl g w).set 19 (.int .i64 0))
  generalize hw1 : w.setCell ⟨g, 19, none⟩ (.int .i64 0) = w1 at *
  have c18 := H1.out.1.cell 18 (x := .int .i64 (s.slot : Nat)) rfl
  have cs := H1.out.1.cell s.slot (grd_sy _ s.slot (by omega))
  simp only at cs
  have hN := Lib.hid hnow
  have i1 : (0 : Int) ≤ (s.slot : Int) := by omega
  have i2 : (s.slot : Int) < 8 := by omega
  clear h hnow
  unfold G.heard
  cases hq : s.sy s.slot
  · rw [hq] at hN cs
    go_enter Try.func61, Try.ntmps61
    go_wp2
    go_region
    have H2 : GAt w1.drew g { s with si := 0 } := H1.out
    go_wp2_with fail
    refine (goOn_gd g _ _ H2 hs hn hsm hm (fun h => by simpa using hN.out h)).mono ?_
    rintro e w4 ⟨rfl, H4, hO4⟩
    go_wp2
    exact bodyPost_end (results_none (by rfl) _ _ _) rfl ⟨rfl, H4, hO1.out.drew.trans hO4⟩
  · rw [hq] at hN cs
    have hLs := fun W => Lib.hid (less_gd at_ s.now W hat hnw)
    have hM := fun W (h : GAt W g { s with si := 0 }) => Lib.hid (measure_gd g _ (at_ - s.now) W h)
    have hK := Lib.hid (hsm.keep4 (hd hq))
    have c16 := H1.out.1.cell 16 (x := .int .i64 s.now) rfl
    simp only at hM
    generalize hl2 : keep4 s.l (at_ - s.now) = l2 at *
    clear hd
    go_enter Try.func61, Try.ntmps61
    go_wp2
    go_region
    go_wp2
    go_region_with (first
      | (go_at_call 72; refine (hLs _).out.mono ?_; rintro e w2 ⟨rfl, rfl⟩)
      | (go_at_call 71; refine (hM w1.drew.drew H1.out).out.mono ?_; rintro e w2 ⟨rfl, H2, hO2⟩))
    go_wp2_with fail
    refine (goOn_gd g _ _ H2 hs hn hK.out hm (fun h => by simpa using hN.out h)).mono ?_
    rintro e w4 ⟨rfl, H4, hO4⟩
    go_wp2
    exact bodyPost_end (results_none (by rfl) _ _ _) rfl ⟨rfl, H4, (hO1.out.drew.drew.trans hO2).trans hO4⟩
set_option maxRecDepth 100000 in
set_option maxHeartbeats 1000000 in
theorem miss_gd (g : Nat) (s : G) (w : World) (h : GAt w g s) (hs : s.slot < s.n) (hn : s.n ≤ 8) (hsm : small s.l) (hm : 0 ≤ s.lm ∧ s.lm ≤ 9223372036854775807) (hsi : s.si ≤ 1000)
    (hnow : s.slot + 1 = s.n → time (s.now + termV s.lm s.l)) :
    Calls Try.prog 62 #[.pointer (some ⟨g, 0, none⟩)] w fun e w' => e = .returned (.tuple #[]) ∧ GAt w' g s.missed ∧ Only g w w' := by
  have f19 := h.1.frozen 19
  have c19 := h.1.cell 19 (x := .int .i64 (s.si : Nat)) rfl
  have e1 : ((s.si + 1 : Nat) : Int) = (s.si : Int) + 1 := by omega
  have z1 : IntKind.i64.wrap ((s.si : Int) + 1) = (s.si : Int) + 1 := IntWalk.i64_in _ (by omega)
  have z2 : IntKind.i64.wrap (2 * (s.n : Int)) = 2 * (s.n : Int) := IntWalk.i64_in _ (by omega)
  have H1 : Hid (GAt (w.setCell ⟨g, 19, none⟩ (.int .i64 ((s.si : Int) + 1))) g { s with si := s.si + 1 }) := Lib.hid ⟨(h.1.set 19 (.int .i64 ((s.si : Int) + 1))).eq (by rw [← e1]; exact grd_si s (s.si + 1)), h.2⟩
  have hO1 := Lib.hid ((Only.refl g w).set 19 (.int .i64 ((s.si : Int) + 1)))
  generalize hw1 : w.setCell ⟨g, 19, none⟩ (.int .i64 ((s.si : Int) + 1)) = w1 at *
  have c8 := H1.out.1.cell 8 (x := .int .i64 (s.n : Nat)) rfl
  have d19 : w1.cell? ⟨g, 19, none⟩ = some (.int .i64 ((s.si : Int) + 1)) := by rw [← e1]; exact H1.out.1.cell 19 rfl
  have hN := Lib.hid hnow
  clear h hnow
  unfold G.missed
  by_cases hq : s.si + 1 = 2 * s.n
  · rw [if_pos hq]
    have q1 : ((s.si : Int) + 1 == 2 * (s.n : Int)) = true := by rw [beq_iff_eq]; omega
    have f17 := H1.out.1.frozen 17
    have f18 := H1.out.1.frozen 18
    have c17 := H1.out.1.cell 17 (x := .bool s.kn) rfl
    have c18 := H1.out.1.cell 18 (x := .int .i64 (s.slot : Nat)) rfl
    have H2 : Hid (GAt ((w1.drew.setCell ⟨g, 17, none⟩ (.bool false)).setCell ⟨g, 18, none⟩ (.int .i64 0)) g { s with si := s.si + 1, kn := false, slot := 0 }) := Lib.hid ⟨((H1.out.1.drew.set 17 (.bool false)).set 18 (.int .i64 ((0 : Nat) : Int))).eq (by rw [grd_kn, grd_slot]), H1.out.2⟩
    go_enter Try.func62, Try.ntmps62
    go_wp2
    go_region
    go_wp2
    exact bodyPost_ret (results_none (by rfl) _ _ _) rfl ⟨rfl, H2.out, (hO1.out.drew.set 17 _).set 18 _⟩
  · rw [if_neg hq]
    have q1 : ((s.si : Int) + 1 == 2 * (s.n : Int)) = false := by rw [beq_eq_false_iff_ne]; omega
    go_enter Try.func62, Try.ntmps62
    go_wp2
    go_region
    have H2 : GAt w1.drew g { s with si := s.si + 1 } := H1.out
    go_wp2_with fail
    refine (goOn_gd g _ _ H2 hs hn hsm hm hN.out).mono ?_
    rintro e w4 ⟨rfl, H4, hO4⟩
    go_wp2
    exact bodyPost_end (results_none (by rfl) _ _ _) rfl ⟨rfl, H4, hO1.out.drew.trans hO4⟩
set_option maxRecDepth 100000 in
set_option maxHeartbeats 1000000 in
theorem knows_gd (g : Nat) (s : G) (w : World) (h : GAt w g s) :
    Calls Try.prog 32 #[.pointer (some ⟨g, 0, none⟩)] w fun e w' => e = .returned (.tuple #[.int .i64 (s.slot : Nat), .bool s.kn]) ∧ Below w.heap.size w w' := by
  have c17 := h.1.cell 17 (x := .bool s.kn) rfl
  have c18 := h.1.cell 18 (x := .int .i64 (s.slot : Nat)) rfl
  go_enter Try.func32, Try.ntmps32
  go_wp2
  go_region
  go_wp2
  go_ret2
  exact ⟨rfl, (Below.refl _ _).drew⟩
set_option maxRecDepth 100000 in
set_option maxHeartbeats 1000000 in
theorem knows_nil (w : World) :
    Calls Try.prog 32 #[.pointer none] w fun e w' => e = .returned (.tuple #[.int .i64 0, .bool false]) ∧ w = w' := by
  go_enter Try.func32, Try.ntmps32
  go_wp2
  go_ret2
  exact ⟨rfl, rfl⟩
set_option maxRecDepth 100000 in
set_option maxHeartbeats 1000000 in
theorem end_nil (v : Value) (x : Int) (w : World) :
    Calls Try.prog 47 #[.pointer none, v, .int .i64 x] w fun e w' => e = .returned (.tuple #[]) ∧ w = w' := by
  go_enter Try.func47, Try.ntmps47
  go_wp2
  first | exact bodyPost_ret (results_none (by rfl) _ _ _) rfl ⟨rfl, rfl⟩ | exact bodyPost_end (results_none (by rfl) _ _ _) rfl ⟨rfl, rfl⟩ | fail
end Go.Proofs.Ytmlnkkalajnjhaa

/-! ### GdD -/
namespace Go.Proofs.Ytmlnkkalajnjhaa
open Go.RowKit

def bools8 (f : Nat → Bool) : Value := .agg #[.bool (f 0), .bool (f 1), .bool (f 2), .bool (f 3), .bool (f 4), .bool (f 5), .bool (f 6), .bool (f 7)]
def ints8 (f : Nat → Int) : Value := .agg #[.int .i64 (f 0), .int .i64 (f 1), .int .i64 (f 2), .int .i64 (f 3), .int .i64 (f 4), .int .i64 (f 5), .int .i64 (f 6), .int .i64 (f 7)]
/-- The first of n, or -1. -/
def fst (f : Nat → Bool) (n : Nat) : Int := match (List.range n).find? f with | some k => (k : Nat) | none => -1
theorem fst_none {f : Nat → Bool} {n : Nat} (h : ∀ k, k < n → f k = false) : fst f n = -1 := by
  unfold fst
  rw [List.find?_eq_none.2 (fun k hk => by simp [h k (List.mem_range.1 hk)])]
theorem fst_hit {f : Nat → Bool} {n k : Nat} (hk : k < n) (hf : f k = true) (h : ∀ j, j < k → f j = false) : fst f n = (k : Nat) := by
  unfold fst
  rw [List.find?_range_eq_some.2 ⟨hf, List.mem_range.2 hk, fun j hj => by simp [h j hj]⟩]
set_option maxRecDepth 100000 in
set_option maxHeartbeats 1000000 in
theorem index_sl (b n c : Nat) (f : Nat → Bool) (w : World) (h : ∀ k, k < n → w.cell? ⟨b, k, none⟩ = some (.bool (f k))) (hn : n ≤ 8) :
    Calls Try.prog 43 #[.slice (some ⟨b, 0, none⟩) n c, .bool true] w fun e w' => e = .returned (.int .i64 (fst f n)) ∧ w = w' := by
  have H := Lib.hid h
  have F0 := Lib.hid (fst_none (f := f) (n := n))
  have F1 := fun k h1 h2 h3 => Lib.hid (fst_hit (f := f) (n := n) (k := k) h1 h2 h3)
  generalize fst f n = r at *
  clear h
  go_enter Try.func43, Try.ntmps43
  go_wp2
  go_loopw [8] (fun i wr => ∃ k : Nat, k ≤ n ∧ i = .int .i64 k ∧ Hid (∀ j, j < k → f j = false) ∧ w = wr) (fun i _ => n - (intOf i).toNat)
  case atStart => exact ⟨0, by omega, rfl, Lib.hid (fun j hj => by omega), rfl⟩
  case round =>
    obtain ⟨k, hk, rfl, hz, rfl⟩ := hrel
    by_cases hlt : k < n
    · have q1 : decide ((k : Int) < (n : Int)) = true := decide_eq_true (by omega)
      have ck := H.out k hlt
      cases hf : f k
      · rw [hf] at ck
        go_wp2
        go_roundw
        case rel => exact ⟨k + 1, by omega, by go_num, Lib.hid (fun j hj => by
          by_cases e : j = k
          · subst e; exact hf
          · exact hz.out j (by omega)), trivial⟩
        case measure => simp [intOf]; omega
      · rw [hf] at ck
        have e1 := F1 k hlt hf hz.out
        go_wp2
        go_ret
        exact ⟨by rw [e1.out]; rfl, rfl⟩
    · have q1 : decide ((k : Int) < (n : Int)) = false := decide_eq_false (by omega)
      have e1 := F0.out (fun j hj => hz.out j (by omega))
      go_wp2
      go_ret
      exact ⟨by rw [e1]; rfl, rfl⟩
/-- Who may be heard. -/
def G.pass (s : G) (f : Nat → Bool) (a : Nat → Int) : Int := if s.kn then (if f s.slot && nearB (a s.slot) s.now s.wi then (s.slot : Nat) else -1) else fst f s.n
theorem b8_get (f : Nat → Bool) (k : Nat) (hk : k < 8) : (#[.bool (f 0), .bool (f 1), .bool (f 2), .bool (f 3), .bool (f 4), .bool (f 5), .bool (f 6), .bool (f 7)] : Array Value)[k]? = some (.bool (f k)) := by
  rcases (by omega : k = 0 ∨ k = 1 ∨ k = 2 ∨ k = 3 ∨ k = 4 ∨ k = 5 ∨ k = 6 ∨ k = 7) with rfl | rfl | rfl | rfl | rfl | rfl | rfl | rfl <;> rfl
theorem i8_get (f : Nat → Int) (k : Nat) (hk : k < 8) : (#[.int .i64 (f 0), .int .i64 (f 1), .int .i64 (f 2), .int .i64 (f 3), .int .i64 (f 4), .int .i64 (f 5), .int .i64 (f 6), .int .i64 (f 7)] : Array Value)[k]? = some (.int .i64 (f k)) := by
  rcases (by omega : k = 0 ∨ k = 1 ∨ k = 2 ∨ k = 3 ∨ k = 4 ∨ k = 5 ∨ k = 6 ∨ k = 7) with rfl | rfl | rfl | rfl | rfl | rfl | rfl | rfl <;> rfl
set_option maxRecDepth 100000 in
set_option maxHeartbeats 4000000 in
theorem pass_gd (g : Nat) (s : G) (f : Nat → Bool) (a : Nat → Int) (w : World) (h : GAt w g s) (hn : s.n ≤ 8) (hs : s.slot < 8) (hnow : time s.now) (hat : time (a s.slot)) (hwi : 0 ≤ s.wi ∧ s.wi ≤ 2305843009213693952) :
    Calls Try.prog 42 #[.pointer (some ⟨g, 0, none⟩), bools8 f, ints8 a] w fun e w' => e = .returned (.int .i64 (s.pass f a)) ∧ Below w.heap.size w w' := by
  have hB := ((Below.refl w.heap.size w).alloc (Nat.le_refl _) (.cells #[.bool (f 0), .bool (f 1), .bool (f 2), .bool (f 3), .bool (f 4), .bool (f 5), .bool (f 6), .bool (f 7)] 52)).alloc (by simp) (.cells #[.int .i64 (a 0), .int .i64 (a 1), .int .i64 (a 2), .int .i64 (a 3), .int .i64 (a 4), .int .i64 (a 5), .int .i64 (a 6), .int .i64 (a 7)] 32)
  have hX := (Blk.new w _ rfl #[.bool (f 0), .bool (f 1), .bool (f 2), .bool (f 3), .bool (f 4), .bool (f 5), .bool (f 6), .bool (f 7)] 52).alloc (.cells #[.int .i64 (a 0), .int .i64 (a 1), .int .i64 (a 2), .int .i64 (a 3), .int .i64 (a 4), .int .i64 (a 5), .int .i64 (a 6), .int .i64 (a 7)] 32)
  have hY := Blk.new (w.alloc (.cells #[.bool (f 0), .bool (f 1), .bool (f 2), .bool (f 3), .bool (f 4), .bool (f 5), .bool (f 6), .bool (f 7)] 52)) (w.heap.size + 1) (by simp) #[.int .i64 (a 0), .int .i64 (a 1), .int .i64 (a 2), .int .i64 (a 3), .int .i64 (a 4), .int .i64 (a 5), .int .i64 (a 6), .int .i64 (a 7)] 32
  have hG := h.below hB h.lt
  unfold bools8 ints8
  go_enter Try.func42, Try.ntmps42
  generalize hw0 : (w.alloc (.cells #[.bool (f 0), .bool (f 1), .bool (f 2), .bool (f 3), .bool (f 4), .bool (f 5), .bool (f 6), .bool (f 7)] 52)).alloc (.cells #[.int .i64 (a 0), .int .i64 (a 1), .int .i64 (a 2), .int .i64 (a 3), .int .i64 (a 4), .int .i64 (a 5), .int .i64 (a 6), .int .i64 (a 7)] 32) = w0 at *
  have c17 := hG.1.cell 17 (x := .bool s.kn) rfl
  unfold G.pass
  cases hk : s.kn
  · rw [hk] at c17
    have c8 := hG.1.cell 8 (x := .int .i64 (s.n : Nat)) rfl
    have hI := Lib.hid (index_sl w.heap.size s.n 8 f w0 (fun k hk => hX.cell k (b8_get f k (by omega))) hn)
    simp only [Bool.false_eq_true, if_false]
    generalize fst f s.n = r at *
    have i1 : (0 : Int) ≤ (s.n : Int) := by omega
    have i2 : (s.n : Int) ≤ 8 := by omega
    clear hX hY h hG
    go_wp2_with fail
    refine hI.out.mono ?_
    rintro e w2 ⟨rfl, rfl⟩
    go_wp2
    go_ret
    exact ⟨rfl, hB⟩
  · rw [hk] at c17
    have cx := hX.cell s.slot (b8_get f s.slot hs)
    have cy := hY.cell s.slot (i8_get a s.slot hs)
    have c9 := hG.1.cell 9 (x := .int .i64 s.wi) rfl
    have c16 := hG.1.cell 16 (x := .int .i64 s.now) rfl
    have c18 := hG.1.cell 18 (x := .int .i64 (s.slot : Nat)) rfl
    have i1 : (0 : Int) ≤ (s.slot : Int) := by omega
    have i2 : (s.slot : Int) < 8 := by omega
    have hN := fun W => Lib.hid ((near_gd (a s.slot) s.now s.wi W hat hnow hwi).mono fun e w' (h : e = .returned (.bool (nearB (a s.slot) s.now s.wi)) ∧ W = w') => (⟨h.1, h.2.symm⟩ : e = .returned (.bool (nearB (a s.slot) s.now s.wi)) ∧ w' = W))
    have HB : Hid (∀ n, Below w.heap.size w (w0.drewN n)) := Lib.hid fun n => below_drewN hB n
    have H18 : Hid (∀ n, (w0.drewN n).cell? ⟨g, 18, none⟩ = some (.int .i64 (s.slot : Nat))) := Lib.hid fun n => (hG.1.drewN n).cell 18 rfl
    generalize f s.slot = q at *
    generalize a s.slot = x at *
    generalize nearB x s.now s.wi = q2 at *
    clear hX hY h hG
    cases q
    · clear hN
      simp only [Bool.false_and, Bool.false_eq_true, if_false, if_true]
      go_wp2_with fail
      go_quiet (fail)
      all_goals
        go_wp2
        all_goals
          go_ret
          exact ⟨rfl, HB.out _⟩
    · cases q2
      all_goals
        simp only [Bool.true_and, Bool.false_eq_true, if_false, if_true]
        go_wp2_with fail
        go_quiet (first | (go_at_call 57; refine Calls.quiet_of_same (hN _).out))
        have c18' := H18.out nq
        have hB' := HB.out nq
        generalize w0.drewN nq = w3 at *
        go_wp2
        go_ret
        exact ⟨rfl, hB'⟩
set_option maxRecDepth 100000 in
set_option maxHeartbeats 1000000 in
theorem pass_nil (f : Nat → Bool) (a : Nat → Int) (w : World) :
    Calls Try.prog 42 #[.pointer none, bools8 f, ints8 a] w fun e w' => e = .returned (.int .i64 (-1)) ∧ Below w.heap.size w w' := by
  have hB := ((Below.refl w.heap.size w).alloc (Nat.le_refl _) (.cells #[.bool (f 0), .bool (f 1), .bool (f 2), .bool (f 3), .bool (f 4), .bool (f 5), .bool (f 6), .bool (f 7)] 52)).alloc (by simp) (.cells #[.int .i64 (a 0), .int .i64 (a 1), .int .i64 (a 2), .int .i64 (a 3), .int .i64 (a 4), .int .i64 (a 5), .int .i64 (a 6), .int .i64 (a 7)] 32)
  unfold bools8 ints8
  go_enter Try.func42, Try.ntmps42
  go_wp2
  go_ret
  exact ⟨rfl, hB⟩
end Go.Proofs.Ytmlnkkalajnjhaa
