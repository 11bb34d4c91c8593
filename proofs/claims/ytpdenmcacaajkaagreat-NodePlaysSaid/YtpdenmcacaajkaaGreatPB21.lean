/- Texts NdJ in one. For what each says in front of its theorems. -/
import Derived.Test.YtpdenmcacaajkaaGreatPB20
/-! ### NdJ -/
namespace Go.Proofs.YtpdenmcacaajkaaGreat
open Go.RowKit

/-- In its own slot, whatever its state. -/
def NM.up (m : NM) : NM := if m.st = 0 ∨ m.st = 5 then m else m.enter
def NM.upB (b : Bool) (m : NM) : Bool := if (m.st = 2 ∨ (m.st = 4 ∧ m.clique)) ∧ m.alone then false else b
set_option maxRecDepth 100000 in
set_option maxHeartbeats 2000000 in
theorem isUp_1 (b : Bool) (G : Nat → Prop) (g : Nat) (m : NM) (w : World) (h : NA b G w g m) (hst : m.st = 2) (ha : m.alone) :
    Calls Tryz.prog 68 #[.pointer (some ⟨g, 0, none⟩)] w fun e w' => e = .returned (.bool false) ∧ NA false G w' g (m.anew 1) ∧ Only g w w' := by
  have HC := fun n => Lib.hid (h.drewN n).clique_
  have HL := fun n => Lib.hid (h.drewN n).alone_
  generalize decide (m.ty.f ≤ m.ty.a) = q at HC
  rw [show decide (m.ty.a = 0) = true from decide_eq_true ha] at HL
  have HN := fun n => Lib.hid (h.drewN n)
  have C10 : ∀ n, (w.drewN n).cell? ⟨g, 10, none⟩ = some (.int .i64 2) := fun n => (h.drewN n).c10.trans (by rw [hst]; rfl)
  clear h
  go_enter Tryz.func68, Tryz.ntmps68
  go_wp2_with fail
  go_quiet (first
    | (go_at_call 106; exact Calls.quiet_of ((HC _).out))
    | (go_at_call 107; exact Calls.quiet_of_same ((HL _).out)))
  have h0 := (HN nq).out
  have c10 := C10 nq
  have o0 := Lib.hid (only_of_below g (below_drewN (Below.refl w.heap.size w) nq))
  clear HC HL HN C10
  generalize w.drewN nq = w1 at *
  have HB := Lib.hid (begin_nd b G g m 1 1 rfl w1 h0)
  have hs : (m.anew 1).st = 1 := rfl
  clear h0 hst
  generalize hq : m.anew 1 = m2 at *
  have HQ := Lib.hid hq.symm
  clear hq
  go_wp2_with fail
  refine HB.out.mono ?_
  rintro _ w2 ⟨rfl, h2, o2⟩
  have c10' := h2.c10
  rw [hs] at c10'
  clear c10 HB
  go_wp2
  go_ret
  exact ⟨rfl, HQ.out ▸ h2, o0.out.trans o2⟩
set_option maxRecDepth 100000 in
set_option maxHeartbeats 2000000 in
theorem isUp_2 (b : Bool) (G : Nat → Prop) (g : Nat) (m : NM) (w : World) (h : NA b G w g m) (hst : m.st = 2) (ha : ¬ m.alone) :
    Calls Tryz.prog 68 #[.pointer (some ⟨g, 0, none⟩)] w fun e w' => e = .returned (.bool true) ∧ NA b G w' g { m with st := 4 } ∧ Only g w w' := by
  have HC := fun n => Lib.hid (h.drewN n).clique_
  have HL := fun n => Lib.hid (h.drewN n).alone_
  generalize decide (m.ty.f ≤ m.ty.a) = q at HC
  rw [show decide (m.ty.a = 0) = false from decide_eq_false ha] at HL
  have HN := fun n => Lib.hid (h.drewN n)
  have C10 : ∀ n, (w.drewN n).cell? ⟨g, 10, none⟩ = some (.int .i64 2) := fun n => (h.drewN n).c10.trans (by rw [hst]; rfl)
  clear h
  go_enter Tryz.func68, Tryz.ntmps68
  go_wp2_with fail
  go_quiet (first
    | (go_at_call 106; exact Calls.quiet_of ((HC _).out))
    | (go_at_call 107; exact Calls.quiet_of_same ((HL _).out)))
  have h0 := (HN nq).out
  have c10 := C10 nq
  have o0 := Lib.hid (only_of_below g (below_drewN (Below.refl w.heap.size w) nq))
  clear HC HL HN C10
  generalize w.drewN nq = w1 at *
  have f10 := h0.frozen 10
  have h2 := Lib.hid (h0.sSt 4)
  have c10' := h2.out.c10
  clear h0
  go_wp2
  go_ret
  exact ⟨rfl, h2.out, o0.out.set _ _⟩
set_option maxRecDepth 100000 in
set_option maxHeartbeats 2000000 in
theorem isUp_3 (b : Bool) (G : Nat → Prop) (g : Nat) (m : NM) (w : World) (h : NA b G w g m) (hst : m.st = 3) (ha : m.alone) :
    Calls Tryz.prog 68 #[.pointer (some ⟨g, 0, none⟩)] w fun e w' => e = .returned (.bool false) ∧ NA b G w' g { m with ty := m.ty.clear } ∧ Only g w w' := by
  have HC := fun n => Lib.hid (h.drewN n).clique_
  have HL := fun n => Lib.hid (h.drewN n).alone_
  generalize decide (m.ty.f ≤ m.ty.a) = q at HC
  rw [show decide (m.ty.a = 0) = true from decide_eq_true ha] at HL
  have HN := fun n => Lib.hid (h.drewN n)
  have C10 : ∀ n, (w.drewN n).cell? ⟨g, 10, none⟩ = some (.int .i64 3) := fun n => (h.drewN n).c10.trans (by rw [hst]; rfl)
  clear h
  go_enter Tryz.func68, Tryz.ntmps68
  go_wp2_with fail
  go_quiet (first
    | (go_at_call 106; exact Calls.quiet_of ((HC _).out))
    | (go_at_call 107; exact Calls.quiet_of_same ((HL _).out)))
  have h0 := (HN nq).out
  have c10 := C10 nq
  have o0 := Lib.hid (only_of_below g (below_drewN (Below.refl w.heap.size w) nq))
  clear HC HL HN C10
  generalize w.drewN nq = w1 at *
  have HB := Lib.hid h0.clear
  clear h0
  go_wp2_with fail
  refine HB.out.mono ?_
  rintro _ w2 ⟨rfl, h2, o2⟩
  have c10' := h2.c10
  rw [show ({ m with ty := m.ty.clear } : NM).st = 3 from hst] at c10'
  clear c10 HB
  go_wp2
  go_ret
  exact ⟨rfl, h2, o0.out.trans o2⟩
set_option maxRecDepth 100000 in
set_option maxHeartbeats 2000000 in
theorem isUp_4 (b : Bool) (G : Nat → Prop) (g : Nat) (m : NM) (w : World) (h : NA b G w g m) (hst : m.st = 3) (ha : ¬ m.alone) (hc : ¬ m.clique) :
    Calls Tryz.prog 68 #[.pointer (some ⟨g, 0, none⟩)] w fun e w' => e = .returned (.bool false) ∧ NA b G w' g { m with ty := m.ty.clear } ∧ Only g w w' := by
  have HC := fun n => Lib.hid (h.drewN n).clique_
  have HL := fun n => Lib.hid (h.drewN n).alone_
  rw [show decide (m.ty.f ≤ m.ty.a) = false from decide_eq_false hc] at HC
  rw [show decide (m.ty.a = 0) = false from decide_eq_false ha] at HL
  have HN := fun n => Lib.hid (h.drewN n)
  have C10 : ∀ n, (w.drewN n).cell? ⟨g, 10, none⟩ = some (.int .i64 3) := fun n => (h.drewN n).c10.trans (by rw [hst]; rfl)
  clear h
  go_enter Tryz.func68, Tryz.ntmps68
  go_wp2_with fail
  go_quiet (first
    | (go_at_call 106; exact Calls.quiet_of ((HC _).out))
    | (go_at_call 107; exact Calls.quiet_of_same ((HL _).out)))
  have h0 := (HN nq).out
  have c10 := C10 nq
  have o0 := Lib.hid (only_of_below g (below_drewN (Below.refl w.heap.size w) nq))
  clear HC HL HN C10
  generalize w.drewN nq = w1 at *
  have HB := Lib.hid h0.clear
  clear h0
  go_wp2_with fail
  refine HB.out.mono ?_
  rintro _ w2 ⟨rfl, h2, o2⟩
  have c10' := h2.c10
  rw [show ({ m with ty := m.ty.clear } : NM).st = 3 from hst] at c10'
  clear c10 HB
  go_wp2
  go_ret
  exact ⟨rfl, h2, o0.out.trans o2⟩
set_option maxRecDepth 100000 in
set_option maxHeartbeats 2000000 in
theorem isUp_5 (b : Bool) (G : Nat → Prop) (g : Nat) (m : NM) (w : World) (h : NA b G w g m) (hst : m.st = 3) (ha : ¬ m.alone) (hc : m.clique) :
    Calls Tryz.prog 68 #[.pointer (some ⟨g, 0, none⟩)] w fun e w' => e = .returned (.bool true) ∧ NA b G w' g { m with st := 4 } ∧ Only g w w' := by
  have HC := fun n => Lib.hid (h.drewN n).clique_
  have HL := fun n => Lib.hid (h.drewN n).alone_
  rw [show decide (m.ty.f ≤ m.ty.a) = true from decide_eq_true hc] at HC
  rw [show decide (m.ty.a = 0) = false from decide_eq_false ha] at HL
  have HN := fun n => Lib.hid (h.drewN n)
  have C10 : ∀ n, (w.drewN n).cell? ⟨g, 10, none⟩ = some (.int .i64 3) := fun n => (h.drewN n).c10.trans (by rw [hst]; rfl)
  clear h
  go_enter Tryz.func68, Tryz.ntmps68
  go_wp2_with fail
  go_quiet (first
    | (go_at_call 106; exact Calls.quiet_of ((HC _).out))
    | (go_at_call 107; exact Calls.quiet_of_same ((HL _).out)))
  have h0 := (HN nq).out
  have c10 := C10 nq
  have o0 := Lib.hid (only_of_below g (below_drewN (Below.refl w.heap.size w) nq))
  clear HC HL HN C10
  generalize w.drewN nq = w1 at *
  have f10 := h0.frozen 10
  have h2 := Lib.hid (h0.sSt 4)
  have c10' := h2.out.c10
  clear h0
  go_wp2
  go_ret
  exact ⟨rfl, h2.out, o0.out.set _ _⟩
set_option maxRecDepth 100000 in
set_option maxHeartbeats 2000000 in
theorem isUp_6 (b : Bool) (G : Nat → Prop) (g : Nat) (m : NM) (w : World) (h : NA b G w g m) (hst : m.st = 4) (hc : ¬ m.clique) :
    Calls Tryz.prog 68 #[.pointer (some ⟨g, 0, none⟩)] w fun e w' => e = .returned (.bool false) ∧ NA b G w' g { m with st := 5 } ∧ Only g w w' := by
  have HC := fun n => Lib.hid (h.drewN n).clique_
  have HL := fun n => Lib.hid (h.drewN n).alone_
  rw [show decide (m.ty.f ≤ m.ty.a) = false from decide_eq_false hc] at HC
  generalize decide (m.ty.a = 0) = p at HL
  have HN := fun n => Lib.hid (h.drewN n)
  have C10 : ∀ n, (w.drewN n).cell? ⟨g, 10, none⟩ = some (.int .i64 4) := fun n => (h.drewN n).c10.trans (by rw [hst]; rfl)
  clear h
  go_enter Tryz.func68, Tryz.ntmps68
  go_wp2_with fail
  go_quiet (first
    | (go_at_call 106; exact Calls.quiet_of ((HC _).out))
    | (go_at_call 107; exact Calls.quiet_of_same ((HL _).out)))
  have h0 := (HN nq).out
  have c10 := C10 nq
  have o0 := Lib.hid (only_of_below g (below_drewN (Below.refl w.heap.size w) nq))
  clear HC HL HN C10
  generalize w.drewN nq = w1 at *
  have f10 := h0.frozen 10
  have h2 := Lib.hid (h0.sSt 5)
  have c10' := h2.out.c10
  clear h0
  go_wp2
  go_ret
  exact ⟨rfl, h2.out, o0.out.set _ _⟩
set_option maxRecDepth 100000 in
set_option maxHeartbeats 2000000 in
theorem isUp_7 (b : Bool) (G : Nat → Prop) (g : Nat) (m : NM) (w : World) (h : NA b G w g m) (hst : m.st = 4) (ha : m.alone) (hc : m.clique) :
    Calls Tryz.prog 68 #[.pointer (some ⟨g, 0, none⟩)] w fun e w' => e = .returned (.bool false) ∧ NA false G w' g (m.anew 1) ∧ Only g w w' := by
  have HC := fun n => Lib.hid (h.drewN n).clique_
  have HL := fun n => Lib.hid (h.drewN n).alone_
  rw [show decide (m.ty.f ≤ m.ty.a) = true from decide_eq_true hc] at HC
  rw [show decide (m.ty.a = 0) = true from decide_eq_true ha] at HL
  have HN := fun n => Lib.hid (h.drewN n)
  have C10 : ∀ n, (w.drewN n).cell? ⟨g, 10, none⟩ = some (.int .i64 4) := fun n => (h.drewN n).c10.trans (by rw [hst]; rfl)
  clear h
  go_enter Tryz.func68, Tryz.ntmps68
  go_wp2_with fail
  go_quiet (first
    | (go_at_call 106; exact Calls.quiet_of ((HC _).out))
    | (go_at_call 107; exact Calls.quiet_of_same ((HL _).out)))
  have h0 := (HN nq).out
  have c10 := C10 nq
  have o0 := Lib.hid (only_of_below g (below_drewN (Below.refl w.heap.size w) nq))
  clear HC HL HN C10
  generalize w.drewN nq = w1 at *
  have HB := Lib.hid (begin_nd b G g m 1 1 rfl w1 h0)
  have hs : (m.anew 1).st = 1 := rfl
  clear h0 hst
  generalize hq : m.anew 1 = m2 at *
  have HQ := Lib.hid hq.symm
  clear hq
  go_wp2_with fail
  refine HB.out.mono ?_
  rintro _ w2 ⟨rfl, h2, o2⟩
  have c10' := h2.c10
  rw [hs] at c10'
  clear c10 HB
  go_wp2
  go_ret
  exact ⟨rfl, HQ.out ▸ h2, o0.out.trans o2⟩
set_option maxRecDepth 100000 in
set_option maxHeartbeats 2000000 in
theorem isUp_8 (b : Bool) (G : Nat → Prop) (g : Nat) (m : NM) (w : World) (h : NA b G w g m) (hst : m.st = 4) (ha : ¬ m.alone) (hc : m.clique) :
    Calls Tryz.prog 68 #[.pointer (some ⟨g, 0, none⟩)] w fun e w' => e = .returned (.bool true) ∧ NA b G w' g (m) ∧ Only g w w' := by
  have HC := fun n => Lib.hid (h.drewN n).clique_
  have HL := fun n => Lib.hid (h.drewN n).alone_
  rw [show decide (m.ty.f ≤ m.ty.a) = true from decide_eq_true hc] at HC
  rw [show decide (m.ty.a = 0) = false from decide_eq_false ha] at HL
  have HN := fun n => Lib.hid (h.drewN n)
  have C10 : ∀ n, (w.drewN n).cell? ⟨g, 10, none⟩ = some (.int .i64 4) := fun n => (h.drewN n).c10.trans (by rw [hst]; rfl)
  clear h
  go_enter Tryz.func68, Tryz.ntmps68
  go_wp2_with fail
  go_quiet (first
    | (go_at_call 106; exact Calls.quiet_of ((HC _).out))
    | (go_at_call 107; exact Calls.quiet_of_same ((HL _).out)))
  have h0 := (HN nq).out
  have c10 := C10 nq
  have o0 := Lib.hid (only_of_below g (below_drewN (Below.refl w.heap.size w) nq))
  clear HC HL HN C10
  generalize w.drewN nq = w1 at *
  have h2 := Lib.hid h0
  clear h0
  go_wp2
  go_ret
  exact ⟨rfl, h2.out, o0.out⟩
set_option maxRecDepth 100000 in
set_option maxHeartbeats 2000000 in
theorem isUp_9 (b : Bool) (G : Nat → Prop) (g : Nat) (m : NM) (w : World) (h : NA b G w g m) (hst : m.st = 0) :
    Calls Tryz.prog 68 #[.pointer (some ⟨g, 0, none⟩)] w fun e w' => e = .returned (.bool false) ∧ NA b G w' g (m) ∧ Only g w w' := by
  have HC := fun n => Lib.hid (h.drewN n).clique_
  have HL := fun n => Lib.hid (h.drewN n).alone_
  generalize decide (m.ty.f ≤ m.ty.a) = q at HC
  generalize decide (m.ty.a = 0) = p at HL
  have HN := fun n => Lib.hid (h.drewN n)
  have C10 : ∀ n, (w.drewN n).cell? ⟨g, 10, none⟩ = some (.int .i64 0) := fun n => (h.drewN n).c10.trans (by rw [hst]; rfl)
  clear h
  go_enter Tryz.func68, Tryz.ntmps68
  go_wp2_with fail
  go_quiet (first
    | (go_at_call 106; exact Calls.quiet_of ((HC _).out))
    | (go_at_call 107; exact Calls.quiet_of_same ((HL _).out)))
  have h0 := (HN nq).out
  have c10 := C10 nq
  have o0 := Lib.hid (only_of_below g (below_drewN (Below.refl w.heap.size w) nq))
  clear HC HL HN C10
  generalize w.drewN nq = w1 at *
  have h2 := Lib.hid h0
  clear h0
  go_wp2
  go_ret
  exact ⟨rfl, h2.out, o0.out⟩
set_option maxRecDepth 100000 in
set_option maxHeartbeats 2000000 in
theorem isUp_10 (b : Bool) (G : Nat → Prop) (g : Nat) (m : NM) (w : World) (h : NA b G w g m) (hst : m.st = 5) :
    Calls Tryz.prog 68 #[.pointer (some ⟨g, 0, none⟩)] w fun e w' => e = .returned (.bool false) ∧ NA b G w' g (m) ∧ Only g w w' := by
  have HC := fun n => Lib.hid (h.drewN n).clique_
  have HL := fun n => Lib.hid (h.drewN n).alone_
  generalize decide (m.ty.f ≤ m.ty.a) = q at HC
  generalize decide (m.ty.a = 0) = p at HL
  have HN := fun n => Lib.hid (h.drewN n)
  have C10 : ∀ n, (w.drewN n).cell? ⟨g, 10, none⟩ = some (.int .i64 5) := fun n => (h.drewN n).c10.trans (by rw [hst]; rfl)
  clear h
  go_enter Tryz.func68, Tryz.ntmps68
  go_wp2_with fail
  go_quiet (first
    | (go_at_call 106; exact Calls.quiet_of ((HC _).out))
    | (go_at_call 107; exact Calls.quiet_of_same ((HL _).out)))
  have h0 := (HN nq).out
  have c10 := C10 nq
  have o0 := Lib.hid (only_of_below g (below_drewN (Below.refl w.heap.size w) nq))
  clear HC HL HN C10
  generalize w.drewN nq = w1 at *
  have h2 := Lib.hid h0
  clear h0
  go_wp2
  go_ret
  exact ⟨rfl, h2.out, o0.out⟩
theorem isUp_nd (b : Bool) (G : Nat → Prop) (g : Nat) (m : NM) (w : World) (h : NA b G w g m) (h5 : m.st ≤ 5) (h1 : m.st ≠ 1) :
    Calls Tryz.prog 68 #[.pointer (some ⟨g, 0, none⟩)] w fun e w' => e = .returned (.bool (decide (m.up.st = 4))) ∧ NA (m.upB b) G w' g m.up ∧ Only g w w' := by
  rcases (by omega : m.st = 0 ∨ m.st = 2 ∨ m.st = 3 ∨ m.st = 4 ∨ m.st = 5) with e | e | e | e | e
  · rw [show m.up = m by unfold NM.up; rw [if_pos (.inl e)], show m.upB b = b by unfold NM.upB; rw [if_neg (by omega)], decide_eq_false (by omega)]
    exact isUp_9 b G g m w h e
  · have hu : m.up = m.enter := by unfold NM.up; rw [if_neg (by omega)]
    rw [hu]
    by_cases ha : m.alone
    · have : m.enter = m.anew 1 := by unfold NM.enter; rw [if_pos e, if_pos ha]
      rw [this, show m.upB b = false by unfold NM.upB; rw [if_pos ⟨.inl e, ha⟩]]
      exact isUp_1 b G g m w h e ha
    · have : m.enter = { m with st := 4 } := by unfold NM.enter; rw [if_pos e, if_neg ha]
      rw [this, show m.upB b = b by unfold NM.upB; rw [if_neg (fun h => ha h.2)]]
      exact isUp_2 b G g m w h e ha
  · have hu : m.up = m.enter := by unfold NM.up; rw [if_neg (by omega)]
    rw [hu, show m.upB b = b by unfold NM.upB; rw [if_neg (by omega)]]
    by_cases ha : m.alone
    · have : m.enter = { m with ty := m.ty.clear } := by unfold NM.enter; rw [if_neg (by omega), if_pos e, if_neg (fun h => h.1 ha)]
      rw [this, show decide (({ m with ty := m.ty.clear } : NM).st = 4) = false from decide_eq_false (by show m.st ≠ 4; omega)]
      exact isUp_3 b G g m w h e ha
    · by_cases hc : m.clique
      · have : m.enter = { m with st := 4 } := by unfold NM.enter; rw [if_neg (by omega), if_pos e, if_pos ⟨ha, hc⟩]
        rw [this]
        exact isUp_5 b G g m w h e ha hc
      · have : m.enter = { m with ty := m.ty.clear } := by unfold NM.enter; rw [if_neg (by omega), if_pos e, if_neg (fun h => hc h.2)]
        rw [this, show decide (({ m with ty := m.ty.clear } : NM).st = 4) = false from decide_eq_false (by show m.st ≠ 4; omega)]
        exact isUp_4 b G g m w h e ha hc
  · have hu : m.up = m.enter := by unfold NM.up; rw [if_neg (by omega)]
    rw [hu]
    by_cases hc : m.clique
    · by_cases ha : m.alone
      · have : m.enter = m.anew 1 := by unfold NM.enter; rw [if_neg (by omega), if_neg (by omega), if_neg (fun h => h hc), if_pos ha]
        rw [this, show m.upB b = false by unfold NM.upB; rw [if_pos ⟨.inr ⟨e, hc⟩, ha⟩]]
        exact isUp_7 b G g m w h e ha hc
      · have : m.enter = m := by unfold NM.enter; rw [if_neg (by omega), if_neg (by omega), if_neg (fun h => h hc), if_neg ha]
        rw [this, show m.upB b = b by unfold NM.upB; rw [if_neg (fun h => ha h.2)], decide_eq_true e]
        exact isUp_8 b G g m w h e ha hc
    · have : m.enter = { m with st := 5 } := by unfold NM.enter; rw [if_neg (by omega), if_neg (by omega), if_pos hc]
      rw [this, show m.upB b = b by unfold NM.upB; rw [if_neg (fun h => h.1.elim (fun h => by omega) (fun h => hc h.2))]]
      exact isUp_6 b G g m w h e hc
  · rw [show m.up = m by unfold NM.up; rw [if_pos (.inr e)], show m.upB b = b by unfold NM.upB; rw [if_neg (by omega)], decide_eq_false (by omega)]
    exact isUp_10 b G g m w h e
end Go.Proofs.YtpdenmcacaajkaaGreat
