/- The contracts of guard's small functions. For times that may be. -/
import Derived.Test.YthigojakapgllaaGdA
namespace Go.Proofs.Ythigojakapgllaa
open Go.RowKit
open Clk (avg)

def time (x : Int) : Prop := -2305843009213693952 ≤ x ∧ x ≤ 2305843009213693952
set_option maxRecDepth 100000 in
set_option maxHeartbeats 1000000 in
theorem less_gd (a b : Int) (w : World) (ha : time a) (hb : time b) :
    Calls Try.prog 38 #[.int .i64 a, .int .i64 b] w fun e w' => e = .returned (.int .i64 (a - b)) ∧ w = w' := by
  unfold time at ha hb
  have z1 : IntKind.i64.wrap (a - b) = a - b := IntWalk.i64_in _ (by omega)
  by_cases h : a < b
  · have q1 : decide (b ≤ a) = false := decide_eq_false (by omega)
    have q2 : decide (a < b) = true := decide_eq_true (by omega)
    have q3 : decide (0 ≤ a - b) = false := decide_eq_false (by omega)
    go_enter Try.func38, Try.ntmps38
    go_wp2
    go_ret
    exact ⟨rfl, rfl⟩
  · have q1 : decide (b ≤ a) = true := decide_eq_true (by omega)
    have q2 : decide (a < b) = false := decide_eq_false (by omega)
    have q3 : decide (a - b < 0) = false := decide_eq_false (by omega)
    go_enter Try.func38, Try.ntmps38
    go_wp2
    go_ret
    exact ⟨rfl, rfl⟩
def nearB (a b m : Int) : Bool := decide (-m ≤ a - b ∧ a - b ≤ m)
theorem u64_sub (a b : Int) (ha : time a) (hb : time b) (h : a ≤ b) : IntKind.u64.wrap (IntKind.u64.wrap b - IntKind.u64.wrap a) = b - a := by
  unfold time at ha hb
  have e : ∀ x, IntKind.u64.wrap x = x % 18446744073709551616 := fun x => rfl
  rw [e, e, e]
  omega
set_option maxRecDepth 100000 in
set_option maxHeartbeats 1000000 in
theorem near_gd (a b m : Int) (w : World) (ha : time a) (hb : time b) (hm : 0 ≤ m ∧ m ≤ 2305843009213693952) :
    Calls Try.prog 29 #[.int .i64 a, .int .i64 b, .int .i64 m] w fun e w' => e = .returned (.bool (nearB a b m)) ∧ w = w' := by
  have h1 := Lib.hid (u64_sub a b ha hb)
  have h2 := Lib.hid (u64_sub b a hb ha)
  unfold time at ha hb
  go_enter Try.func29, Try.ntmps29
  go_wp2
  all_goals
    go_ret
    refine ⟨?_, rfl⟩
    refine ret_bool ?_
    first
      | (rw [h1.out (by omega)]; unfold nearB; congr 1; apply propext; omega)
      | (rw [h2.out (by omega)]; unfold nearB; congr 1; apply propext; omega)
      | (rw [show IntKind.u64.wrap 0 = 0 from rfl]; unfold nearB; congr 1; apply propext; omega)
/-- The slot goes on. -/
def G.on (s : G) : G := if s.slot + 1 = s.n then { s with slot := 0, now := s.now + termV s.lm s.l, l := [] } else { s with slot := s.slot + 1 }
theorem grd_slot (s : G) (k : Nat) : (grd s).setIfInBounds 18 (.int .i64 (k : Nat)) = grd { s with slot := k } := by simp [grd]
theorem grd_now (s : G) (k : Int) : (grd s).setIfInBounds 16 (.int .i64 k) = grd { s with now := k } := by simp [grd]
theorem grd_si (s : G) (k : Nat) : (grd s).setIfInBounds 19 (.int .i64 (k : Nat)) = grd { s with si := k } := by simp [grd]
theorem grd_kn (s : G) (k : Bool) : (grd s).setIfInBounds 17 (.bool k) = grd { s with kn := k } := by simp [grd]
set_option maxRecDepth 100000 in
set_option maxHeartbeats 1000000 in
theorem goOn_gd (g : Nat) (s : G) (w : World) (h : GAt w g s) (hs : s.slot < s.n) (hn : s.n ≤ 8) (hsm : small s.l) (hm : 0 ≤ s.lm ∧ s.lm ≤ 9223372036854775807) (hnow : s.slot + 1 = s.n → time (s.now + termV s.lm s.l)) :
    Calls Try.prog 36 #[.pointer (some ⟨g, 0, none⟩)] w fun e w' => e = .returned (.tuple #[]) ∧ GAt w' g s.on ∧ Only g w w' := by
  have c8 := h.1.cell 8 (x := .int .i64 (s.n : Nat)) rfl
  have c18 := h.1.cell 18 (x := .int .i64 (s.slot : Nat)) rfl
  have f18 := h.1.frozen 18
  have z1 : IntKind.i64.wrap ((s.slot : Int) + 1) = (s.slot : Int) + 1 := IntWalk.i64_in _ (by omega)
  by_cases hc : s.slot + 1 = s.n
  · have z2 : Int.tmod ((s.slot : Int) + 1) (s.n : Int) = 0 := by rw [show ((s.slot : Int) + 1) = (s.n : Int) by omega]; simp
    have z3 : ¬ (s.n : Int) = 0 := by omega
    have H1 : Hid (GAt (w.setCell ⟨g, 18, none⟩ (.int .i64 0)).drew g { s with slot := 0 }) := Lib.hid ⟨((h.1.set 18 (.int .i64 (0 : Nat))).drew).eq (grd_slot s 0), h.2⟩
    go_enter Try.func36, Try.ntmps36
    go_wp2
    go_region
    have hO := Lib.hid (((Only.refl g w).set 18 (.int .i64 0)).drew)
    have c18' := H1.out.1.cell 18 (x := .int .i64 (0 : Nat)) rfl
    generalize hw1 : (w.setCell ⟨g, 18, none⟩ (.int .i64 0)).drew = w1 at *
    have hT := Lib.hid (term_gd g { s with slot := 0 } w1 H1.out hsm hm)
    have T0 := Lib.hid (hnow hc)
    simp only at hT
    generalize hv : termV s.lm s.l = v at *
    generalize wiB s.lm (avg s.l) = q at *
    go_wp2_with fail
    refine hT.out.mono ?_
    rintro e w2 ⟨rfl, hb2⟩
    have H2 := Lib.hid (H1.out.below hb2 H1.out.lt)
    have hO2 := Lib.hid (hO.out.trans (only_of_below g hb2))
    have c16 := H2.out.1.cell 16 (x := .int .i64 s.now) rfl
    have f16 := H2.out.1.frozen 16
    have z4 : IntKind.i64.wrap (s.now + v) = s.now + v := IntWalk.i64_in _ (by have := T0.out; unfold time at this; omega)
    have H3 := Lib.hid (show GAt (w2.setCell ⟨g, 16, none⟩ (.int .i64 (s.now + v))) g { s with slot := 0, now := s.now + v } from ⟨(H2.out.1.set 16 (.int .i64 (s.now + v))).eq (grd_now _ _), H2.out.2⟩)
    have hO3 := Lib.hid (hO2.out.set 16 (.int .i64 (s.now + v)))
    generalize hw3 : w2.setCell ⟨g, 16, none⟩ (.int .i64 (s.now + v)) = w3 at *
    go_wp2_with fail
    refine (clear_gd g _ _ H3.out).mono ?_
    rintro e w4 ⟨rfl, H4, hO4⟩
    go_wp2
    refine bodyPost_end (results_none (by rfl) _ _ _) rfl ⟨rfl, ?_, hO3.out.trans hO4⟩
    unfold G.on
    rw [if_pos hc, hv]
    exact H4
  · have e1 : ((s.slot + 1 : Nat) : Int) = (s.slot : Int) + 1 := by omega
    have z2 : Int.tmod ((s.slot : Int) + 1) (s.n : Int) = (s.slot : Int) + 1 := Int.tmod_eq_of_lt (by omega) (by omega)
    have z3 : ¬ (s.n : Int) = 0 := by omega
    have H1 : Hid (GAt (w.setCell ⟨g, 18, none⟩ (.int .i64 ((s.slot : Int) + 1))).drew g { s with slot := s.slot + 1 }) := Lib.hid ⟨((h.1.set 18 (.int .i64 ((s.slot : Int) + 1))).drew).eq (by rw [← e1]; exact grd_slot s (s.slot + 1)), h.2⟩
    have hO := Lib.hid (((Only.refl g w).set 18 (.int .i64 ((s.slot : Int) + 1))).drew)
    have z4 : (((s.slot : Int) + 1) == 0) = false := by rw [beq_eq_false_iff_ne]; omega
    go_enter Try.func36, Try.ntmps36
    go_wp2
    go_region
    go_wp2
    refine bodyPost_ret (results_none (by rfl) _ _ _) rfl ⟨rfl, ?_, hO.out⟩
    unfold G.on
    rw [if_neg hc]
    exact H1.out
theorem small.keep4 {l : List Int} (h : small l) {n : Int} (hn : -1099511627776 ≤ n ∧ n ≤ 1099511627776) : small (keep4 l n) := by
  unfold Go.Proofs.Ythigojakapgllaa.keep4
  split
  · intro x hx
    rcases List.mem_append.1 hx with h1 | h1
    · exact h x (List.mem_of_mem_drop h1)
    · simp at h1; subst h1; exact hn
  · intro x hx
    rcases List.mem_append.1 hx with h1 | h1
    · exact h x h1
    · simp at h1; subst h1; exact hn
/-- A slot with bytes. -/
def G.heard (s : G) (at_ : Int) : G := (if s.sy s.slot then { s with si := 0, l := keep4 s.l (at_ - s.now) } else { s with si := 0 }).on
/-- A slot without. -/
def G.missed (s : G) : G := if s.si + 1 = 2 * s.n then { s with si := s.si + 1, kn := false, slot := 0 } else ({ s with si := s.si + 1 } : G).on
theorem grd_sy (s : G) (k : Nat) (hk : k < 8) : (grd s)[k]? = some (.bool (s.sy k)) := by
  rcases (by omega : k = 0 ∨ k = 1 ∨ k = 2 ∨ k = 3 ∨ k = 4 ∨ k = 5 ∨ k = 6 ∨ k = 7) with rfl | rfl | rfl | rfl | rfl | rfl | rfl | rfl <;> rfl
set_option maxRecDepth 100000 in
set_option maxHeartbeats 1000000 in
theorem hear_gd (g : Nat) (s : G) (at_ : Int) (w : World) (h : GAt w g s) (hs : s.slot < s.n) (hn : s.n ≤ 8) (hsm : small s.l) (hm : 0 ≤ s.lm ∧ s.lm ≤ 9223372036854775807)
    (hat : time at_) (hnw : time s.now) (hd : s.sy s.slot = true → -1099511627776 ≤ at_ - s.now ∧ at_ - s.now ≤ 1099511627776) (hnow : s.slot + 1 = s.n → time (s.now + termV s.lm (if s.sy s.slot then keep4 s.l (at_ - s.now) else s.l))) :
    Calls Try.prog 26 #[.pointer (some ⟨g, 0, none⟩), .int .i64 at_] w fun e w' => e = .returned (.tuple #[]) ∧ GAt w' g (s.heard at_) ∧ Only g w w' := by
  have f19 := h.1.frozen 19
  have c19 := h.1.cell 19 (x := .int .i64 (s.si : Nat)) rfl
  have H1 : Hid (GAt (w.setCell ⟨g, 19, none⟩ (.int .i64 0)) g { s with si := 0 }) := Lib.hid ⟨(h.1.set 19 (.int .i64 ((0 : Nat) : Int))).eq (grd_si s 0), h.2⟩
  have hO1 := Lib.hid ((Only.refl g w).set 19 (.int .i64 0))
  generalize hw1 : w.setCell ⟨g, 19, none⟩ (.int .i64 0) = w1 at *
  have c18 := H1.out.1.cell 18 (x := .int .i64 (s.slot : Nat)) rfl
  have cs := H1.out.1.cell s.slot (grd_sy _ s.slot (by omega))
  simp only at cs
  have hN := Lib.hid hnow
  have i1 : (0 : Int) ≤ (s.slot : Int) := by omega
  have i2 : (s.slot : Int) < 8 := by omega
  clear h hnow
  unfold G.heard
  cases hq : s.sy s.slot
  · rw [hq] at hN cs
    go_enter Try.func26, Try.ntmps26
    go_wp2
    go_region
    have H2 : GAt w1.drew g { s with si := 0 } := H1.out
    go_wp2_with fail
    refine (goOn_gd g _ _ H2 hs hn hsm hm (fun h => by simpa using hN.out h)).mono ?_
    rintro e w4 ⟨rfl, H4, hO4⟩
    go_wp2
    exact bodyPost_end (results_none (by rfl) _ _ _) rfl ⟨rfl, H4, hO1.out.drew.trans hO4⟩
  · rw [hq] at hN cs
    have hLs := fun W => Lib.hid (less_gd at_ s.now W hat hnw)
    have hM := fun W (h : GAt W g { s with si := 0 }) => Lib.hid (measure_gd g _ (at_ - s.now) W h)
    have hK := Lib.hid (hsm.keep4 (hd hq))
    have c16 := H1.out.1.cell 16 (x := .int .i64 s.now) rfl
    simp only at hM
    generalize hl2 : keep4 s.l (at_ - s.now) = l2 at *
    clear hd
    go_enter Try.func26, Try.ntmps26
    go_wp2
    go_region
    go_wp2
    go_region_with (first
      | (go_at_call 38; refine (hLs _).out.mono ?_; rintro e w2 ⟨rfl, rfl⟩)
      | (go_at_call 37; refine (hM w1.drew.drew H1.out).out.mono ?_; rintro e w2 ⟨rfl, H2, hO2⟩))
    go_wp2_with fail
    refine (goOn_gd g _ _ H2 hs hn hK.out hm (fun h => by simpa using hN.out h)).mono ?_
    rintro e w4 ⟨rfl, H4, hO4⟩
    go_wp2
    exact bodyPost_end (results_none (by rfl) _ _ _) rfl ⟨rfl, H4, (hO1.out.drew.drew.trans hO2).trans hO4⟩
set_option maxRecDepth 100000 in
set_option maxHeartbeats 1000000 in
theorem miss_gd (g : Nat) (s : G) (w : World) (h : GAt w g s) (hs : s.slot < s.n) (hn : s.n ≤ 8) (hsm : small s.l) (hm : 0 ≤ s.lm ∧ s.lm ≤ 9223372036854775807) (hsi : s.si ≤ 1000)
    (hnow : s.slot + 1 = s.n → time (s.now + termV s.lm s.l)) :
    Calls Try.prog 27 #[.pointer (some ⟨g, 0, none⟩)] w fun e w' => e = .returned (.tuple #[]) ∧ GAt w' g s.missed ∧ Only g w w' := by
  have f19 := h.1.frozen 19
  have c19 := h.1.cell 19 (x := .int .i64 (s.si : Nat)) rfl
  have e1 : ((s.si + 1 : Nat) : Int) = (s.si : Int) + 1 := by omega
  have z1 : IntKind.i64.wrap ((s.si : Int) + 1) = (s.si : Int) + 1 := IntWalk.i64_in _ (by omega)
  have z2 : IntKind.i64.wrap (2 * (s.n : Int)) = 2 * (s.n : Int) := IntWalk.i64_in _ (by omega)
  have H1 : Hid (GAt (w.setCell ⟨g, 19, none⟩ (.int .i64 ((s.si : Int) + 1))) g { s with si := s.si + 1 }) := Lib.hid ⟨(h.1.set 19 (.int .i64 ((s.si : Int) + 1))).eq (by rw [← e1]; exact grd_si s (s.si + 1)), h.2⟩
  have hO1 := Lib.hid ((Only.refl g w).set 19 (.int .i64 ((s.si : Int) + 1)))
  generalize hw1 : w.setCell ⟨g, 19, none⟩ (.int .i64 ((s.si : Int) + 1)) = w1 at *
  have c8 := H1.out.1.cell 8 (x := .int .i64 (s.n : Nat)) rfl
  have d19 : w1.cell? ⟨g, 19, none⟩ = some (.int .i64 ((s.si : Int) + 1)) := by rw [← e1]; exact H1.out.1.cell 19 rfl
  have hN := Lib.hid hnow
  clear h hnow
  unfold G.missed
  by_cases hq : s.si + 1 = 2 * s.n
  · rw [if_pos hq]
    have q1 : ((s.si : Int) + 1 == 2 * (s.n : Int)) = true := by rw [beq_iff_eq]; omega
    have f17 := H1.out.1.frozen 17
    have f18 := H1.out.1.frozen 18
    have c17 := H1.out.1.cell 17 (x := .bool s.kn) rfl
    have c18 := H1.out.1.cell 18 (x := .int .i64 (s.slot : Nat)) rfl
    have H2 : Hid (GAt ((w1.drew.setCell ⟨g, 17, none⟩ (.bool false)).setCell ⟨g, 18, none⟩ (.int .i64 0)) g { s with si := s.si + 1, kn := false, slot := 0 }) := Lib.hid ⟨((H1.out.1.drew.set 17 (.bool false)).set 18 (.int .i64 ((0 : Nat) : Int))).eq (by rw [grd_kn, grd_slot]), H1.out.2⟩
    go_enter Try.func27, Try.ntmps27
    go_wp2
    go_region
    go_wp2
    exact bodyPost_ret (results_none (by rfl) _ _ _) rfl ⟨rfl, H2.out, (hO1.out.drew.set 17 _).set 18 _⟩
  · rw [if_neg hq]
    have q1 : ((s.si : Int) + 1 == 2 * (s.n : Int)) = false := by rw [beq_eq_false_iff_ne]; omega
    go_enter Try.func27, Try.ntmps27
    go_wp2
    go_region
    have H2 : GAt w1.drew g { s with si := s.si + 1 } := H1.out
    go_wp2_with fail
    refine (goOn_gd g _ _ H2 hs hn hsm hm hN.out).mono ?_
    rintro e w4 ⟨rfl, H4, hO4⟩
    go_wp2
    exact bodyPost_end (results_none (by rfl) _ _ _) rfl ⟨rfl, H4, hO1.out.drew.trans hO4⟩
set_option maxRecDepth 100000 in
set_option maxHeartbeats 1000000 in
theorem knows_gd (g : Nat) (s : G) (w : World) (h : GAt w g s) :
    Calls Try.prog 15 #[.pointer (some ⟨g, 0, none⟩)] w fun e w' => e = .returned (.tuple #[.int .i64 (s.slot : Nat), .bool s.kn]) ∧ Below w.heap.size w w' := by
  have c17 := h.1.cell 17 (x := .bool s.kn) rfl
  have c18 := h.1.cell 18 (x := .int .i64 (s.slot : Nat)) rfl
  go_enter Try.func15, Try.ntmps15
  go_wp2
  go_region
  go_wp2
  go_ret2
  exact ⟨rfl, (Below.refl _ _).drew⟩
set_option maxRecDepth 100000 in
set_option maxHeartbeats 1000000 in
theorem now_gd (g : Nat) (s : G) (w : World) (h : GAt w g s) :
    Calls Try.prog 18 #[.pointer (some ⟨g, 0, none⟩)] w fun e w' => e = .returned (.int .i64 s.now) ∧ w = w' := by
  have c16 := h.1.cell 16 (x := .int .i64 s.now) rfl
  go_enter Try.func18, Try.ntmps18
  go_wp2
  go_ret
  exact ⟨rfl, rfl⟩
set_option maxRecDepth 100000 in
set_option maxHeartbeats 1000000 in
theorem knows_nil (w : World) :
    Calls Try.prog 15 #[.pointer none] w fun e w' => e = .returned (.tuple #[.int .i64 0, .bool false]) ∧ w = w' := by
  go_enter Try.func15, Try.ntmps15
  go_wp2
  go_ret2
  exact ⟨rfl, rfl⟩
set_option maxRecDepth 100000 in
set_option maxHeartbeats 1000000 in
theorem now_nil (w : World) :
    Calls Try.prog 18 #[.pointer none] w fun e w' => e = .returned (.int .i64 0) ∧ w = w' := by
  go_enter Try.func18, Try.ntmps18
  go_wp2
  go_ret
  exact ⟨rfl, rfl⟩
set_option maxRecDepth 100000 in
set_option maxHeartbeats 1000000 in
theorem end_nil (v : Value) (x : Int) (w : World) :
    Calls Try.prog 14 #[.pointer none, v, .int .i64 x] w fun e w' => e = .returned (.tuple #[]) ∧ w = w' := by
  go_enter Try.func14, Try.ntmps14
  go_wp2
  first | exact bodyPost_ret (results_none (by rfl) _ _ _) rfl ⟨rfl, rfl⟩ | exact bodyPost_end (results_none (by rfl) _ _ _) rfl ⟨rfl, rfl⟩ | fail
end Go.Proofs.Ythigojakapgllaa
