/- WardNone holds: a node that is not is read as nothing. For all arguments. -/
import Derived.Test.YtjoioojckekfhaaGreatVB52
namespace Go.Proofs.YtjoioojckekfhaaGreat
open Go.ChangeShapes Go.WideShapes Go.ChangeAt Go.RowKit

def rlW : List R4 := [⟨1, 10, 90, 1⟩, ⟨2, 0, 200, 0⟩]
set_option maxRecDepth 100000 in
set_option maxHeartbeats 2000000 in
theorem rules_wd (w : World) :
    Calls Tryz.prog 28 #[] w fun e w' => ∃ v, e = .returned v ∧ SeesRs w' w'.heap.size v rlW ∧ Below w.heap.size w w' := by
  go_enter Tryz.func28, Tryz.ntmps28
  go_wp2
  go_ret
  refine ⟨_, rfl, ⟨_, 2, rfl, by decide, by unfold maxLen; omega, fun _ => ⟨w.heap.size, 0, rfl, by simp, fun k hk => ?_⟩, fun h => by cases h⟩, (Below.refl w.heap.size w).alloc (Nat.le_refl _) _⟩
  have hk : k < 2 := hk
  rcases (by omega : k = 0 ∨ k = 1) with rfl | rfl <;> exact ⟨by rw [World.cell?_alloc_at _ _ _ _ rfl]; rfl, by rw [World.cell?_alloc_at _ _ _ _ rfl]; rfl, by rw [World.cell?_alloc_at _ _ _ _ rfl]; rfl, by rw [World.cell?_alloc_at _ _ _ _ rfl]; rfl⟩
/-- Not of five: nobody. -/
theorem WAt.no {B : Nat} {P : List Nat} {N x : Nat} {u : WM} {W : World} (h : WAt B P N W x u) (i : Int) (hi : i < 0 ∨ (N : Nat) ≤ i) : (∀ z, Calls Tryz.prog 37 #[.pointer (some ⟨x, 0, none⟩), .int .i64 i] (W.alloc z) fun e w' => e = .returned (.pointer none) ∧ w' = W.alloc z) := fun z => by
  obtain ⟨q, h⟩ := h.box z
  exact wnode_out h i hi
theorem WAt.no1 {B : Nat} {P : List Nat} {N x : Nat} {u : WM} {W : World} (h : WAt B P N W x u) (i : Int) (hi : i < 0 ∨ (N : Nat) ≤ i) : Calls Tryz.prog 37 #[.pointer (some ⟨x, 0, none⟩), .int .i64 i] W fun e w' => e = .returned (.pointer none) ∧ w' = W := by
  obtain ⟨q, h⟩ := h
  exact wnode_out h i hi
/-- A message's field. -/
theorem field_lost (A : Option Addr) (c : Nat) (w : World) : (Instr.field 49 (.agg #[.slice A 0 c, .int .i64 (-1), .bool false]) 1).run Tryz.prog w = .ok (.int .i64 (-1)) w := by kernel_rfl
def w5 : WM := WM.new (gsmT 5 1) (List.replicate 5 0) rlW
set_option maxRecDepth 100000 in
set_option maxHeartbeats 4000000 in
theorem core_wardNone (i n : Int) (w : World) :
    Calls Tryz.prog 7 #[.int .i64 i, .int .i64 n] w fun e w' => e = .returned (.bool true) ∧ Below w.heap.size w w' := by
  have hs := fun W => Lib.hid (show Calls Tryz.prog 14 #[.int .i64 5, .int .i64 1] W fun e w' => ∃ v, e = .returned (.agg #[v, .int .i64 1, .int .i64 10, .int .i64 13]) ∧ OwnsD w' W.heap.size v (gsmL 5) ∧ Below W.heap.size W w' from some_wd 5 1 (by omega) (by omega) W)
  have hr := fun W => Lib.hid (rules_wd W)
  have hmk : ∀ W : World, (Instr.makeSlice 31 (.int .i64 5) (.int .i64 5)).run Tryz.prog W = .ok (.slice (some ⟨W.heap.size, 0, none⟩) 5 5) (W.alloc (.cells (ics 5) 3)) := fun W => run_makeI 5 (by omega) W
  have hN := fun v dv rv W (hv : SeesT W W.heap.size v (gsmL 5)) (hdv : SeesI W W.heap.size dv (List.replicate 5 0)) (hr : SeesRs W W.heap.size rv rlW) => Lib.hid (wnew_some 5 1 rv rlW (by omega) (by omega) (by omega) (by decide) (fun k hk => by
    have hk : k < 2 := hk
    rcases (by omega : k = 0 ∨ k = 1) with rfl | rfl <;> decide) v dv W hv hdv hr)
  have hI := fun W => Lib.hid (sees_ics 5 (by omega) W)
  have hKn := fun W => Lib.hid (known_wd W)
  go_enter Tryz.func7, Tryz.ntmps7
  go_wp2_with fail
  go_region_with (first
    | (go_at_call 14; with_reducible refine (hs _).out.mono ?_; rintro e w1 ⟨v, rfl, ho, hb1⟩)
    | (go_at_call 28; with_reducible refine (hr _).out.mono ?_; rintro e w3 ⟨rv, rfl, hrv, hb3⟩)
    | (go_at_call 13; refine (hN _ _ _ _ ?_ ?_ ?_).out.mono ?_; (focus (refine (ho.sees.below ?_).more ?_ <;> (repeat' (first | with_reducible exact Below.refl _ _ | with_reducible assumption | with_reducible refine Below.alloc ?_ ?_ _ | with_reducible refine Below.drew ?_ | with_reducible refine Below.trans ?_ (Below.mono hb1 ?_) | with_reducible refine Below.trans ?_ (Below.mono hb3 ?_) | with_reducible refine Below.trans ?_ (Below.mono hb4 ?_) | (simp; done) | (simp; omega) | (have z1 := hb1.size; have z3 := hb3.size; simp at z1 z3 ⊢; omega) | (have z1 := hb1.size; have z3 := hb3.size; omega) | (have z1 := hb1.size; have z3 := hb3.size; simp at z1 z3; omega))))); (focus (first | (refine ((hI w1).out.below ?_).more ?_ <;> (repeat' (first | with_reducible exact Below.refl _ _ | with_reducible assumption | with_reducible refine Below.alloc ?_ ?_ _ | with_reducible refine Below.drew ?_ | with_reducible refine Below.trans ?_ (Below.mono hb1 ?_) | with_reducible refine Below.trans ?_ (Below.mono hb3 ?_) | with_reducible refine Below.trans ?_ (Below.mono hb4 ?_) | (simp; done) | (simp; omega) | (have z1 := hb1.size; have z3 := hb3.size; simp at z1 z3 ⊢; omega) | (have z1 := hb1.size; have z3 := hb3.size; omega) | (have z1 := hb1.size; have z3 := hb3.size; simp at z1 z3; omega))); done) | (refine ((hI w3).out.below ?_).more ?_ <;> (repeat' (first | with_reducible exact Below.refl _ _ | with_reducible assumption | with_reducible refine Below.alloc ?_ ?_ _ | with_reducible refine Below.drew ?_ | with_reducible refine Below.trans ?_ (Below.mono hb1 ?_) | with_reducible refine Below.trans ?_ (Below.mono hb3 ?_) | with_reducible refine Below.trans ?_ (Below.mono hb4 ?_) | (simp; done) | (simp; omega) | (have z1 := hb1.size; have z3 := hb3.size; simp at z1 z3 ⊢; omega) | (have z1 := hb1.size; have z3 := hb3.size; omega) | (have z1 := hb1.size; have z3 := hb3.size; simp at z1 z3; omega))); done) | (refine ((hI w).out.below ?_).more ?_ <;> (repeat' (first | with_reducible exact Below.refl _ _ | with_reducible assumption | with_reducible refine Below.alloc ?_ ?_ _ | with_reducible refine Below.drew ?_ | with_reducible refine Below.trans ?_ (Below.mono hb1 ?_) | with_reducible refine Below.trans ?_ (Below.mono hb3 ?_) | with_reducible refine Below.trans ?_ (Below.mono hb4 ?_) | (simp; done) | (simp; omega) | (have z1 := hb1.size; have z3 := hb3.size; simp at z1 z3 ⊢; omega) | (have z1 := hb1.size; have z3 := hb3.size; omega) | (have z1 := hb1.size; have z3 := hb3.size; simp at z1 z3; omega))); done) | (refine ((hI w1.drew).out.below ?_).more ?_ <;> (repeat' (first | with_reducible exact Below.refl _ _ | with_reducible assumption | with_reducible refine Below.alloc ?_ ?_ _ | with_reducible refine Below.drew ?_ | with_reducible refine Below.trans ?_ (Below.mono hb1 ?_) | with_reducible refine Below.trans ?_ (Below.mono hb3 ?_) | with_reducible refine Below.trans ?_ (Below.mono hb4 ?_) | (simp; done) | (simp; omega) | (have z1 := hb1.size; have z3 := hb3.size; simp at z1 z3 ⊢; omega) | (have z1 := hb1.size; have z3 := hb3.size; omega) | (have z1 := hb1.size; have z3 := hb3.size; simp at z1 z3; omega))); done) | (refine ((hI w3.drew).out.below ?_).more ?_ <;> (repeat' (first | with_reducible exact Below.refl _ _ | with_reducible assumption | with_reducible refine Below.alloc ?_ ?_ _ | with_reducible refine Below.drew ?_ | with_reducible refine Below.trans ?_ (Below.mono hb1 ?_) | with_reducible refine Below.trans ?_ (Below.mono hb3 ?_) | with_reducible refine Below.trans ?_ (Below.mono hb4 ?_) | (simp; done) | (simp; omega) | (have z1 := hb1.size; have z3 := hb3.size; simp at z1 z3 ⊢; omega) | (have z1 := hb1.size; have z3 := hb3.size; omega) | (have z1 := hb1.size; have z3 := hb3.size; simp at z1 z3; omega))); done) | (refine ((hI w.drew).out.below ?_).more ?_ <;> (repeat' (first | with_reducible exact Below.refl _ _ | with_reducible assumption | with_reducible refine Below.alloc ?_ ?_ _ | with_reducible refine Below.drew ?_ | with_reducible refine Below.trans ?_ (Below.mono hb1 ?_) | with_reducible refine Below.trans ?_ (Below.mono hb3 ?_) | with_reducible refine Below.trans ?_ (Below.mono hb4 ?_) | (simp; done) | (simp; omega) | (have z1 := hb1.size; have z3 := hb3.size; simp at z1 z3 ⊢; omega) | (have z1 := hb1.size; have z3 := hb3.size; omega) | (have z1 := hb1.size; have z3 := hb3.size; simp at z1 z3; omega))); done))); (focus (refine (hrv.below ?_).more ?_ <;> (repeat' (first | with_reducible exact Below.refl _ _ | with_reducible assumption | with_reducible refine Below.alloc ?_ ?_ _ | with_reducible refine Below.drew ?_ | with_reducible refine Below.trans ?_ (Below.mono hb1 ?_) | with_reducible refine Below.trans ?_ (Below.mono hb3 ?_) | with_reducible refine Below.trans ?_ (Below.mono hb4 ?_) | (simp; done) | (simp; omega) | (have z1 := hb1.size; have z3 := hb3.size; simp at z1 z3 ⊢; omega) | (have z1 := hb1.size; have z3 := hb3.size; omega) | (have z1 := hb1.size; have z3 := hb3.size; simp at z1 z3; omega))))); rintro e w4 ⟨x, rfl, hw, hb4⟩; (have hB : Below w.heap.size w w4 := by (repeat' (first | with_reducible exact Below.refl _ _ | with_reducible assumption | with_reducible refine Below.alloc ?_ ?_ _ | with_reducible refine Below.drew ?_ | with_reducible refine Below.trans ?_ (Below.mono hb1 ?_) | with_reducible refine Below.trans ?_ (Below.mono hb3 ?_) | with_reducible refine Below.trans ?_ (Below.mono hb4 ?_) | (simp; done) | (simp; omega) | (have z1 := hb1.size; have z3 := hb3.size; simp at z1 z3 ⊢; omega) | (have z1 := hb1.size; have z3 := hb3.size; omega) | (have z1 := hb1.size; have z3 := hb3.size; simp at z1 z3; omega)))))
    | fail)
  all_goals
    have hw0 : WAt w.heap.size [] 5 w4 x w5 := hw.lower (by (repeat' (first | with_reducible exact Below.refl _ _ | with_reducible assumption | with_reducible refine Below.alloc ?_ ?_ _ | with_reducible refine Below.drew ?_ | with_reducible refine Below.trans ?_ (Below.mono hb1 ?_) | with_reducible refine Below.trans ?_ (Below.mono hb3 ?_) | with_reducible refine Below.trans ?_ (Below.mono hb4 ?_) | (simp; done) | (simp; omega) | (have z1 := hb1.size; have z3 := hb3.size; simp at z1 z3 ⊢; omega) | (have z1 := hb1.size; have z3 := hb3.size; omega) | (have z1 := hb1.size; have z3 := hb3.size; simp at z1 z3; omega))))
    have hB := Lib.hid hB
    have hw0 := Lib.hid hw0
    clear hw hs hN hI hr ho hrv hb1 hb3 hb4 hmk
    by_cases hin : 0 ≤ i ∧ i < 5
    · obtain ⟨I, rfl⟩ : ∃ t : Nat, i = t := ⟨i.toNat, by omega⟩
      have q1 : decide ((0 : Int) ≤ ((I : Nat) : Int)) = true := decide_eq_true (by omega)
      have q2 : decide (((I : Nat) : Int) < 5) = true := decide_eq_true (by omega)
      have hI5 : I < 5 := by omega
      have hst : Hid (∀ W, WAt w.heap.size [] 5 W x w5 → Calls Tryz.prog 17 #[.pointer (some ⟨x, 0, none⟩), .int .i64 (I : Nat)] W fun e w' => e = .returned (.int .i64 0) ∧ Below W.heap.size W w') := Lib.hid fun W h => by
        obtain ⟨q, h⟩ := h
        exact wstate_in h I hI5
      have hck : Hid (∀ W, WAt w.heap.size [] 5 W x w5 → Calls Tryz.prog 24 #[.pointer (some ⟨x, 0, none⟩), .int .i64 (I : Nat)] W fun e w' => e = .returned (.int .i64 0) ∧ Below W.heap.size W w') := Lib.hid fun W h => by
        obtain ⟨q, h⟩ := h
        exact wclock_in h I hI5
      have hrg : Hid (∀ W, WAt w.heap.size [] 5 W x w5 → Calls Tryz.prog 25 #[.pointer (some ⟨x, 0, none⟩), .int .i64 (I : Nat), .int .i64 n] W fun e w' => e = .returned (.int .i64 0) ∧ Below W.heap.size W w') := Lib.hid fun W h => by
        obtain ⟨q, h⟩ := h
        refine (wrings_in h I hI5 n).mono ?_
        rintro e w' ⟨rfl, hb⟩
        refine ⟨?_, hb⟩
        rw [show (if isR (w5.ms I).al n then (w5.ms I).ar n.toNat else 0) = 0 from by split <;> rfl]
        rfl
      go_wp2_with fail
      refine (hst.out _ hw0.out).mono ?_
      rintro _ w6 ⟨rfl, b6⟩
      have hw6 := Lib.hid (hw0.out.below b6)
      have hB6 := Lib.hid (hB.out.trans (b6.mono hB.out.size))
      clear hw0 hB hst b6
      go_wp2_with fail
      refine (hck.out _ hw6.out).mono ?_
      rintro _ w7 ⟨rfl, b7⟩
      have hw7 := Lib.hid (hw6.out.below b7)
      have hB7 := Lib.hid (hB6.out.trans (b7.mono hB6.out.size))
      clear hw6 hB6 hck b7
      go_wp2_with fail
      refine (hrg.out _ hw7.out).mono ?_
      rintro _ w8 ⟨rfl, b8⟩
      have hB8 := Lib.hid (hB7.out.trans (b8.mono hB7.out.size))
      clear hw7 hB7 hrg b8
      go_wp2_with fail
      refine (hKn _).out.mono ?_
      rintro _ w9 ⟨rfl, b9⟩
      have hB9 := Lib.hid (hB8.out.trans (b9.mono hB8.out.size))
      clear hB8 b9 hKn
      go_wp2_with fail
      go_ret
      exact ⟨rfl, hB9.out⟩
    · have q12 : (decide ((0 : Int) ≤ i) = false ∧ i < 0) ∨ (decide ((0 : Int) ≤ i) = true ∧ decide (i < 5) = false ∧ 5 ≤ i) := by
        by_cases h0 : 0 ≤ i
        · exact .inr ⟨decide_eq_true h0, decide_eq_false (by omega), by omega⟩
        · exact .inl ⟨decide_eq_false h0, by omega⟩
      have hi : i < 0 ∨ ((5 : Nat) : Int) ≤ i := by omega
      have hst : Hid (∀ W, WAt w.heap.size [] 5 W x w5 → Calls Tryz.prog 17 #[.pointer (some ⟨x, 0, none⟩), .int .i64 i] W fun e w' => e = .returned (.int .i64 0) ∧ Below W.heap.size W w') := Lib.hid fun W h => wstate_out _ i W (h.no1 i hi)
      have hck : Hid (∀ W, WAt w.heap.size [] 5 W x w5 → Calls Tryz.prog 24 #[.pointer (some ⟨x, 0, none⟩), .int .i64 i] W fun e w' => e = .returned (.int .i64 0) ∧ Below W.heap.size W w') := Lib.hid fun W h => wclock_out _ i W (h.no1 i hi)
      have hrg : Hid (∀ W, WAt w.heap.size [] 5 W x w5 → Calls Tryz.prog 25 #[.pointer (some ⟨x, 0, none⟩), .int .i64 i, .int .i64 n] W fun e w' => e = .returned (.int .i64 0) ∧ Below W.heap.size W w') := Lib.hid fun W h => wrings_out _ i n W (h.no1 i hi)
      have hvw : Hid (∀ W, WAt w.heap.size [] 5 W x w5 → Calls Tryz.prog 18 #[.pointer (some ⟨x, 0, none⟩), .int .i64 i] W fun e w' => e = .returned (.agg #[.int .i64 0, .int .i64 0, .int .i64 0]) ∧ Below W.heap.size W w') := Lib.hid fun W h => wview_out _ i W (h.no i hi)
      have hrd : Hid (∀ W, WAt w.heap.size [] 5 W x w5 → Calls Tryz.prog 21 #[.pointer (some ⟨x, 0, none⟩), .int .i64 i, .int .i64 n] W fun e w' => ∃ A c, e = .returned (.agg #[.slice A 0 c, .int .i64 (-1), .bool false]) ∧ SeesL w' w'.heap.size (.slice A 0 c) [] ∧ Below W.heap.size W w') := Lib.hid fun W h => wread_out _ i n W (h.no i hi)
      have hsp : Hid (∀ W, WAt w.heap.size [] 5 W x w5 → Calls Tryz.prog 16 #[.pointer (some ⟨x, 0, none⟩), .agg #[.int .i64 1, .int .i64 i, .int .i64 0, .slice none 0 0, .slice none 0 0]] W fun e w' => e = .returned (.int .i64 1) ∧ Below W.heap.size W w') := Lib.hid fun W h => wstep_none _ i 0 (h.no i hi)
      clear hi
      rcases q12 with ⟨q1, -⟩ | ⟨q1, q2, -⟩
      all_goals
        go_wp2_with fail
        refine (hst.out _ hw0.out).mono ?_
        rintro _ w6 ⟨rfl, b6⟩
        have hw6 := Lib.hid (hw0.out.below b6)
        have hB6 := Lib.hid (hB.out.trans (b6.mono hB.out.size))
        clear hw0 hB hst b6
        go_wp2_with fail
        refine (hck.out _ hw6.out).mono ?_
        rintro _ w7 ⟨rfl, b7⟩
        have hw7 := Lib.hid (hw6.out.below b7)
        have hB7 := Lib.hid (hB6.out.trans (b7.mono hB6.out.size))
        clear hw6 hB6 hck b7
        go_wp2_with fail
        refine (hrg.out _ hw7.out).mono ?_
        rintro _ w8 ⟨rfl, b8⟩
        have hw8 := Lib.hid (hw7.out.below b8)
        have hB8 := Lib.hid (hB7.out.trans (b8.mono hB7.out.size))
        clear hw7 hB7 hrg b8
        go_wp2_with fail
        refine (hvw.out _ hw8.out).mono ?_
        rintro _ w9 ⟨rfl, b9⟩
        have hw9 := Lib.hid (hw8.out.below b9)
        have hB9 := Lib.hid (hB8.out.trans (b9.mono hB8.out.size))
        clear hw8 hB8 hvw b9
        go_wp2_with fail
        refine (hrd.out _ hw9.out).mono ?_
        rintro _ wa ⟨A, c, rfl, -, ba⟩
        have hwa := Lib.hid (hw9.out.below ba)
        have hBa := Lib.hid (hB9.out.trans (ba.mono hB9.out.size))
        clear hw9 hB9 hrd ba
        have hfl := field_lost A c wa
        go_wp2_with fail
        refine (hsp.out _ hwa.out).mono ?_
        rintro _ wb_ ⟨rfl, bb⟩
        clear hfl
        have hBb := Lib.hid (hBa.out.trans (bb.mono hBa.out.size))
        clear hwa hBa hsp bb
        go_wp2_with fail
        refine (hKn _).out.mono ?_
        rintro _ wc ⟨rfl, bc⟩
        have hBc := Lib.hid (hBb.out.trans (bc.mono hBb.out.size))
        clear hBb bc hKn
        go_wp2_with fail
        go_ret
        exact ⟨rfl, hBc.out⟩
theorem walk_wardNone (n k : Int) (w : World) (_h_n : -9223372036854775808 ≤ n ∧ n ≤ 9223372036854775807) (_h_k : -9223372036854775808 ≤ k ∧ k ≤ 9223372036854775807) :
    Calls Tryz.prog 7 #[.int .i64 n, .int .i64 k] w fun e w' => e = .returned (.bool true) ∧ Below w.heap.size w w' := core_wardNone n k w

/-! ### THE ROW's STEP around the walk. -/
theorem own_wardNone : ownKnob Tryz.prog.godebug = none := by kernel_rfl
theorem laidOut_wardNone : laidOutB Tryz.prog = true := by kernel_rfl
set_option maxRecDepth 100000 in
theorem lifted_wardNone (os : Os) (started : os.Started) (H : Type) (enc : TypeId × Value → H) :
    ReturnsInHanded {} Tryz.checked os 7 .any (Rows.wardNoneSpec.pre6 enc Tryz.prog Tryz.f7 Rows.wardNoneRow.domain false) (Rows.wardNoneSpec.post enc Tryz.prog Tryz.f7 false true false false) := by
  refine returnsInHanded_of_change (C := Tryz.checked) own_wardNone started (by kernel_rfl) Tryz.func7
    (ChangeSpec.witness6 (enc := enc) (C := Tryz.checked) false ⟨#[], #[.int .i64 0, .int .i64 0], []⟩ 8 (by kernel_rfl) (by kernel_rfl) (by kernel_rfl) (by kernel_rfl)) ?_
  intro W base args ds gs before hval0 hW hcnd _
  have hval : ∀ (j : Nat) t v, Tryz.f7.params[j]? = some t → args[j]? = some v → Value.okWide Tryz.prog W .any base t v := hval0
  have hW' := hW
  obtain ⟨p, q, hA0, hV, rfl, hfz, hnd⟩ := hW
  have hA : DataW.TrodAll enc Tryz.prog W 0 (fun _ => true) true Tryz.f7.params.toList args.toList ds p := hA0
  rw [Tryz.params7] at hA hval
  obtain ⟨v0, vs0, d0, ds0, p0, q0, hargs, rfl, rfl, h0, r0⟩ := trodAll_cons hA
  obtain ⟨v1, vs1, d1, ds1, p1, q1, rfl, rfl, rfl, h1, r1⟩ := trodAll_cons r0
  obtain ⟨rfl, rfl, rfl⟩ := trodAll_nil r1
  obtain rfl : args = #[v0, v1] := by cases args; simp_all
  obtain ⟨rfl, rfl⟩ := trodVars_none hV
  obtain ⟨a0, rfl, rfl, rfl, w0⟩ := open_int Tryz.underlying3 (hval 0 3 v0 rfl rfl) h0
  obtain ⟨a1, rfl, rfl, rfl, w1⟩ := open_int Tryz.underlying3 (hval 1 3 v1 rfl rfl) h1
  clear hA0 hval0
  refine (walk_wardNone a0 a1 W (bounds_i64 w0) (bounds_i64 w1)).mono fun e W' ⟨he, bel⟩ => ?_
  subst he
  exact ⟨_, rfl, _, _, _, [], _, [], hW', trodAll_mk1 (shut_bool Tryz.underlying4 _), (trodAll_cons_mk (shut_int Tryz.underlying3 w0) (trodAll_cons_mk (shut_int Tryz.underlying3 w1) trodAll_mk0)), rfl, bel.frame _, fun h => by cases h⟩

theorem over_wardNone : Rows.wardNoneRow.holds Tryz.pinned (OpenSpec.ofChange Rows.wardNoneSpec) :=
  OpenClaim.holds_of_wide 7 Tryz.f7 rfl rfl rfl rfl rfl rfl rfl ⟨rfl, rfl, rfl, rfl, rfl⟩ rfl rfl rfl rfl rfl (by kernel_rfl) Tryz.func7 (by kernel_rfl)
    (of_decide_eq_true (by kernel_rfl)) (by unfold Func.isWrapper; first | (rw [if_pos (by decide +kernel)]; kernel_rfl) | (rw [if_neg (by decide +kernel)]; exact ⟨rfl, rfl⟩))
    (fun os started H enc _ => lifted_wardNone os started H enc)

theorem proved_wardNone : Rows.WardNoneSaid := over_wardNone
end Go.Proofs.YtjoioojckekfhaaGreat
