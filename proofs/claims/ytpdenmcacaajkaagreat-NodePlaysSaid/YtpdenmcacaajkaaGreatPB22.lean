/- Texts NdK in one. For what each says in front of its theorems. -/
import Derived.ScopeJumps
import Derived.WalkMore
import Derived.Deep.RegionHeld3
import Derived.Deep.RegionWith
import Derived.Test.YtpdenmcacaajkaaGreatPB21
/-! ### NdK -/
namespace Go.Proofs.YtpdenmcacaajkaaGreat
open Go.RowKit
open Fr (St F)

/-- A scope in which each jump goes on to one label ahead. -/
theorem scope_go {P : Program} {Q : Exit → Act → World → Prop} {a : Act} {w : World} {c rest : Code} (l : Nat) (hf : findLabel c l = some rest) (first : c.wp P (Exit.jump l (fun a w => rest.wp P (Exit.jump l (fun _ _ => False) Q) a w) Q) a w) : (Code.scope c).wp P Q a w :=
  wp_scope_jumps l _ (fun _ _ => 0) hf first fun a w h => Code.wp_mono (fun e a w hq => by
    cases e
    case goto l' => exact hq.2.elim
    all_goals exact hq) h
theorem NM.up_da (m : NM) : m.up.da = m.da := by
  unfold NM.up NM.enter NM.anew
  repeat' split
  all_goals rfl
/-- What is sent, of a node that sends. -/
def NM.out (m : NM) : NM := { m with ty := (m.ty.join m.i).clear }
set_option maxRecDepth 100000 in
set_option maxHeartbeats 4000000 in
theorem send_a (b : Bool) (G : Nat → Prop) (g : Nat) (m : NM) (w : World) (h : NA b G w g m) (h5 : m.st ≤ 5) (hr : 0 ≤ m.rd ∧ m.rd ≤ 65535) (hst : m.st = 1) (hw : (m.wt : Int) + 1 < m.me.li) (hl : m.me.li ≤ 1000) :
    Calls Tryz.prog 33 #[.pointer (some ⟨g, 0, none⟩)] w fun e w' => e = .returned (.slice none 0 0) ∧ NA b G w' g { m with wt := m.wt + 1 } ∧ Only g w w' := by
  have HK := Lib.hid (kind_nd b G g m w h h5 hr)
  generalize m.kindV = kv at *
  have c10 := h.c10
  have c12 := h.c12
  have c8 := h.c8
  rw [hst] at c10
  have HW := Lib.hid (waits_no b G g m w h hw hl)
  clear h c12 c8 h5 hr hw hl hst
  go_enter Tryz.func33, Tryz.ntmps33
  go_wp2_with fail
  refine scope_go 0 rfl ?_
  go_wp2_with fail
  refine HK.out.mono ?_
  rintro _ _ ⟨rfl, rfl⟩
  go_wp2_with fail
  refine HW.out.mono ?_
  rintro _ w1 ⟨rfl, h1, o1⟩
  go_wp2
  simp only [Exit.jump]
  go_ret
  exact ⟨rfl, h1, o1⟩
set_option maxRecDepth 100000 in
set_option maxHeartbeats 4000000 in
theorem send_c0 (b : Bool) (G : Nat → Prop) (g : Nat) (m : NM) (w : World) (h : NA b G w g m) (h5 : m.st ≤ 5) (hr : 0 ≤ m.rd ∧ m.rd ≤ 65535) (hst : m.st = 0) (hs : m.sl ≠ m.i) :
    Calls Tryz.prog 33 #[.pointer (some ⟨g, 0, none⟩)] w fun e w' => e = .returned (.slice none 0 0) ∧ NA b G w' g m ∧ Only g w w' := by
  have HK := Lib.hid (kind_nd b G g m w h h5 hr)
  generalize m.kindV = kv at *
  have c10 := h.c10
  have c12 := h.c12
  have c8 := h.c8
  rw [hst] at c10
  have q : (((m.sl : Nat) : Int) == ((m.i : Nat) : Int)) = false := by rw [beq_eq_false_iff_ne]; omega
  have h1 := Lib.hid h
  clear h h5 hr hst hs
  generalize ((m.sl : Nat) : Int) = y at *
  generalize ((m.i : Nat) : Int) = z at *
  go_enter Tryz.func33, Tryz.ntmps33
  go_wp2_with fail
  refine scope_go 0 rfl ?_
  go_wp2_with fail
  refine HK.out.mono ?_
  rintro _ _ ⟨rfl, rfl⟩
  go_wp2_with fail
  go_quiet (fail)
  go_wp2
  simp only [Exit.jump]
  go_ret
  exact ⟨rfl, h1.out.drewN _, only_of_below g (below_drewN (Below.refl _ _) _)⟩
set_option maxRecDepth 100000 in
set_option maxHeartbeats 4000000 in
theorem send_d0 (b : Bool) (G : Nat → Prop) (g : Nat) (m : NM) (w : World) (h : NA b G w g m) (h5 : m.st ≤ 5) (hr : 0 ≤ m.rd ∧ m.rd ≤ 65535) (hst : m.st = 0) (hs : m.sl = m.i) (hu : m.up.st ≠ 4) :
    Calls Tryz.prog 33 #[.pointer (some ⟨g, 0, none⟩)] w fun e w' => e = .returned (.slice none 0 0) ∧ NA (m.upB b) G w' g m.up ∧ Only g w w' := by
  have HK := Lib.hid (kind_nd b G g m w h h5 hr)
  generalize m.kindV = kv at *
  have c10 := h.c10
  have c12 := h.c12
  have c8 := h.c8
  rw [hst] at c10
  have HU := fun n => Lib.hid (isUp_nd b G g m (w.drewN n) (h.drewN n) h5 (by omega))
  rw [decide_eq_false hu] at HU
  rw [hs] at c12
  generalize hq : m.up = m2 at *
  generalize hq2 : m.upB b = b2 at *
  have HQ := Lib.hid (And.intro hq hq2)
  clear h h5 hr hst hs hq hu hq2
  generalize ((m.i : Nat) : Int) = z at *
  go_enter Tryz.func33, Tryz.ntmps33
  go_wp2_with fail
  refine scope_go 0 rfl ?_
  go_wp2_with fail
  refine HK.out.mono ?_
  rintro _ _ ⟨rfl, rfl⟩
  go_wp2_with fail
  go_quiet (fail)
  go_wp2_with fail
  refine (HU _).out.mono ?_
  rintro _ w1 ⟨rfl, h1, o1⟩
  go_wp2
  simp only [Exit.jump]
  go_ret
  exact ⟨rfl, h1, (only_of_below g (below_drewN (Below.refl _ _) _)).trans o1⟩
set_option maxRecDepth 100000 in
set_option maxHeartbeats 4000000 in
theorem send_c2 (b : Bool) (G : Nat → Prop) (g : Nat) (m : NM) (w : World) (h : NA b G w g m) (h5 : m.st ≤ 5) (hr : 0 ≤ m.rd ∧ m.rd ≤ 65535) (hst : m.st = 2) (hs : m.sl ≠ m.i) :
    Calls Tryz.prog 33 #[.pointer (some ⟨g, 0, none⟩)] w fun e w' => e = .returned (.slice none 0 0) ∧ NA b G w' g m ∧ Only g w w' := by
  have HK := Lib.hid (kind_nd b G g m w h h5 hr)
  generalize m.kindV = kv at *
  have c10 := h.c10
  have c12 := h.c12
  have c8 := h.c8
  rw [hst] at c10
  have q : (((m.sl : Nat) : Int) == ((m.i : Nat) : Int)) = false := by rw [beq_eq_false_iff_ne]; omega
  have h1 := Lib.hid h
  clear h h5 hr hst hs
  generalize ((m.sl : Nat) : Int) = y at *
  generalize ((m.i : Nat) : Int) = z at *
  go_enter Tryz.func33, Tryz.ntmps33
  go_wp2_with fail
  refine scope_go 0 rfl ?_
  go_wp2_with fail
  refine HK.out.mono ?_
  rintro _ _ ⟨rfl, rfl⟩
  go_wp2_with fail
  go_quiet (fail)
  go_wp2
  simp only [Exit.jump]
  go_ret
  exact ⟨rfl, h1.out.drewN _, only_of_below g (below_drewN (Below.refl _ _) _)⟩
set_option maxRecDepth 100000 in
set_option maxHeartbeats 4000000 in
theorem send_d2 (b : Bool) (G : Nat → Prop) (g : Nat) (m : NM) (w : World) (h : NA b G w g m) (h5 : m.st ≤ 5) (hr : 0 ≤ m.rd ∧ m.rd ≤ 65535) (hst : m.st = 2) (hs : m.sl = m.i) (hu : m.up.st ≠ 4) :
    Calls Tryz.prog 33 #[.pointer (some ⟨g, 0, none⟩)] w fun e w' => e = .returned (.slice none 0 0) ∧ NA (m.upB b) G w' g m.up ∧ Only g w w' := by
  have HK := Lib.hid (kind_nd b G g m w h h5 hr)
  generalize m.kindV = kv at *
  have c10 := h.c10
  have c12 := h.c12
  have c8 := h.c8
  rw [hst] at c10
  have HU := fun n => Lib.hid (isUp_nd b G g m (w.drewN n) (h.drewN n) h5 (by omega))
  rw [decide_eq_false hu] at HU
  rw [hs] at c12
  generalize hq : m.up = m2 at *
  generalize hq2 : m.upB b = b2 at *
  have HQ := Lib.hid (And.intro hq hq2)
  clear h h5 hr hst hs hq hu hq2
  generalize ((m.i : Nat) : Int) = z at *
  go_enter Tryz.func33, Tryz.ntmps33
  go_wp2_with fail
  refine scope_go 0 rfl ?_
  go_wp2_with fail
  refine HK.out.mono ?_
  rintro _ _ ⟨rfl, rfl⟩
  go_wp2_with fail
  go_quiet (fail)
  go_wp2_with fail
  refine (HU _).out.mono ?_
  rintro _ w1 ⟨rfl, h1, o1⟩
  go_wp2
  simp only [Exit.jump]
  go_ret
  exact ⟨rfl, h1, (only_of_below g (below_drewN (Below.refl _ _) _)).trans o1⟩
set_option maxRecDepth 100000 in
set_option maxHeartbeats 4000000 in
theorem send_c3 (b : Bool) (G : Nat → Prop) (g : Nat) (m : NM) (w : World) (h : NA b G w g m) (h5 : m.st ≤ 5) (hr : 0 ≤ m.rd ∧ m.rd ≤ 65535) (hst : m.st = 3) (hs : m.sl ≠ m.i) :
    Calls Tryz.prog 33 #[.pointer (some ⟨g, 0, none⟩)] w fun e w' => e = .returned (.slice none 0 0) ∧ NA b G w' g m ∧ Only g w w' := by
  have HK := Lib.hid (kind_nd b G g m w h h5 hr)
  generalize m.kindV = kv at *
  have c10 := h.c10
  have c12 := h.c12
  have c8 := h.c8
  rw [hst] at c10
  have q : (((m.sl : Nat) : Int) == ((m.i : Nat) : Int)) = false := by rw [beq_eq_false_iff_ne]; omega
  have h1 := Lib.hid h
  clear h h5 hr hst hs
  generalize ((m.sl : Nat) : Int) = y at *
  generalize ((m.i : Nat) : Int) = z at *
  go_enter Tryz.func33, Tryz.ntmps33
  go_wp2_with fail
  refine scope_go 0 rfl ?_
  go_wp2_with fail
  refine HK.out.mono ?_
  rintro _ _ ⟨rfl, rfl⟩
  go_wp2_with fail
  go_quiet (fail)
  go_wp2
  simp only [Exit.jump]
  go_ret
  exact ⟨rfl, h1.out.drewN _, only_of_below g (below_drewN (Below.refl _ _) _)⟩
set_option maxRecDepth 100000 in
set_option maxHeartbeats 4000000 in
theorem send_d3 (b : Bool) (G : Nat → Prop) (g : Nat) (m : NM) (w : World) (h : NA b G w g m) (h5 : m.st ≤ 5) (hr : 0 ≤ m.rd ∧ m.rd ≤ 65535) (hst : m.st = 3) (hs : m.sl = m.i) (hu : m.up.st ≠ 4) :
    Calls Tryz.prog 33 #[.pointer (some ⟨g, 0, none⟩)] w fun e w' => e = .returned (.slice none 0 0) ∧ NA (m.upB b) G w' g m.up ∧ Only g w w' := by
  have HK := Lib.hid (kind_nd b G g m w h h5 hr)
  generalize m.kindV = kv at *
  have c10 := h.c10
  have c12 := h.c12
  have c8 := h.c8
  rw [hst] at c10
  have HU := fun n => Lib.hid (isUp_nd b G g m (w.drewN n) (h.drewN n) h5 (by omega))
  rw [decide_eq_false hu] at HU
  rw [hs] at c12
  generalize hq : m.up = m2 at *
  generalize hq2 : m.upB b = b2 at *
  have HQ := Lib.hid (And.intro hq hq2)
  clear h h5 hr hst hs hq hu hq2
  generalize ((m.i : Nat) : Int) = z at *
  go_enter Tryz.func33, Tryz.ntmps33
  go_wp2_with fail
  refine scope_go 0 rfl ?_
  go_wp2_with fail
  refine HK.out.mono ?_
  rintro _ _ ⟨rfl, rfl⟩
  go_wp2_with fail
  go_quiet (fail)
  go_wp2_with fail
  refine (HU _).out.mono ?_
  rintro _ w1 ⟨rfl, h1, o1⟩
  go_wp2
  simp only [Exit.jump]
  go_ret
  exact ⟨rfl, h1, (only_of_below g (below_drewN (Below.refl _ _) _)).trans o1⟩
set_option maxRecDepth 100000 in
set_option maxHeartbeats 4000000 in
theorem send_c4 (b : Bool) (G : Nat → Prop) (g : Nat) (m : NM) (w : World) (h : NA b G w g m) (h5 : m.st ≤ 5) (hr : 0 ≤ m.rd ∧ m.rd ≤ 65535) (hst : m.st = 4) (hs : m.sl ≠ m.i) :
    Calls Tryz.prog 33 #[.pointer (some ⟨g, 0, none⟩)] w fun e w' => e = .returned (.slice none 0 0) ∧ NA b G w' g m ∧ Only g w w' := by
  have HK := Lib.hid (kind_nd b G g m w h h5 hr)
  generalize m.kindV = kv at *
  have c10 := h.c10
  have c12 := h.c12
  have c8 := h.c8
  rw [hst] at c10
  have q : (((m.sl : Nat) : Int) == ((m.i : Nat) : Int)) = false := by rw [beq_eq_false_iff_ne]; omega
  have h1 := Lib.hid h
  clear h h5 hr hst hs
  generalize ((m.sl : Nat) : Int) = y at *
  generalize ((m.i : Nat) : Int) = z at *
  go_enter Tryz.func33, Tryz.ntmps33
  go_wp2_with fail
  refine scope_go 0 rfl ?_
  go_wp2_with fail
  refine HK.out.mono ?_
  rintro _ _ ⟨rfl, rfl⟩
  go_wp2_with fail
  go_quiet (fail)
  go_wp2
  simp only [Exit.jump]
  go_ret
  exact ⟨rfl, h1.out.drewN _, only_of_below g (below_drewN (Below.refl _ _) _)⟩
set_option maxRecDepth 100000 in
set_option maxHeartbeats 4000000 in
theorem send_d4 (b : Bool) (G : Nat → Prop) (g : Nat) (m : NM) (w : World) (h : NA b G w g m) (h5 : m.st ≤ 5) (hr : 0 ≤ m.rd ∧ m.rd ≤ 65535) (hst : m.st = 4) (hs : m.sl = m.i) (hu : m.up.st ≠ 4) :
    Calls Tryz.prog 33 #[.pointer (some ⟨g, 0, none⟩)] w fun e w' => e = .returned (.slice none 0 0) ∧ NA (m.upB b) G w' g m.up ∧ Only g w w' := by
  have HK := Lib.hid (kind_nd b G g m w h h5 hr)
  generalize m.kindV = kv at *
  have c10 := h.c10
  have c12 := h.c12
  have c8 := h.c8
  rw [hst] at c10
  have HU := fun n => Lib.hid (isUp_nd b G g m (w.drewN n) (h.drewN n) h5 (by omega))
  rw [decide_eq_false hu] at HU
  rw [hs] at c12
  generalize hq : m.up = m2 at *
  generalize hq2 : m.upB b = b2 at *
  have HQ := Lib.hid (And.intro hq hq2)
  clear h h5 hr hst hs hq hu hq2
  generalize ((m.i : Nat) : Int) = z at *
  go_enter Tryz.func33, Tryz.ntmps33
  go_wp2_with fail
  refine scope_go 0 rfl ?_
  go_wp2_with fail
  refine HK.out.mono ?_
  rintro _ _ ⟨rfl, rfl⟩
  go_wp2_with fail
  go_quiet (fail)
  go_wp2_with fail
  refine (HU _).out.mono ?_
  rintro _ w1 ⟨rfl, h1, o1⟩
  go_wp2
  simp only [Exit.jump]
  go_ret
  exact ⟨rfl, h1, (only_of_below g (below_drewN (Below.refl _ _) _)).trans o1⟩
set_option maxRecDepth 100000 in
set_option maxHeartbeats 4000000 in
theorem send_c5 (b : Bool) (G : Nat → Prop) (g : Nat) (m : NM) (w : World) (h : NA b G w g m) (h5 : m.st ≤ 5) (hr : 0 ≤ m.rd ∧ m.rd ≤ 65535) (hst : m.st = 5) (hs : m.sl ≠ m.i) :
    Calls Tryz.prog 33 #[.pointer (some ⟨g, 0, none⟩)] w fun e w' => e = .returned (.slice none 0 0) ∧ NA b G w' g m ∧ Only g w w' := by
  have HK := Lib.hid (kind_nd b G g m w h h5 hr)
  generalize m.kindV = kv at *
  have c10 := h.c10
  have c12 := h.c12
  have c8 := h.c8
  rw [hst] at c10
  have q : (((m.sl : Nat) : Int) == ((m.i : Nat) : Int)) = false := by rw [beq_eq_false_iff_ne]; omega
  have h1 := Lib.hid h
  clear h h5 hr hst hs
  generalize ((m.sl : Nat) : Int) = y at *
  generalize ((m.i : Nat) : Int) = z at *
  go_enter Tryz.func33, Tryz.ntmps33
  go_wp2_with fail
  refine scope_go 0 rfl ?_
  go_wp2_with fail
  refine HK.out.mono ?_
  rintro _ _ ⟨rfl, rfl⟩
  go_wp2_with fail
  go_quiet (fail)
  go_wp2
  simp only [Exit.jump]
  go_ret
  exact ⟨rfl, h1.out.drewN _, only_of_below g (below_drewN (Below.refl _ _) _)⟩
set_option maxRecDepth 100000 in
set_option maxHeartbeats 4000000 in
theorem send_d5 (b : Bool) (G : Nat → Prop) (g : Nat) (m : NM) (w : World) (h : NA b G w g m) (h5 : m.st ≤ 5) (hr : 0 ≤ m.rd ∧ m.rd ≤ 65535) (hst : m.st = 5) (hs : m.sl = m.i) (hu : m.up.st ≠ 4) :
    Calls Tryz.prog 33 #[.pointer (some ⟨g, 0, none⟩)] w fun e w' => e = .returned (.slice none 0 0) ∧ NA (m.upB b) G w' g m.up ∧ Only g w w' := by
  have HK := Lib.hid (kind_nd b G g m w h h5 hr)
  generalize m.kindV = kv at *
  have c10 := h.c10
  have c12 := h.c12
  have c8 := h.c8
  rw [hst] at c10
  have HU := fun n => Lib.hid (isUp_nd b G g m (w.drewN n) (h.drewN n) h5 (by omega))
  rw [decide_eq_false hu] at HU
  rw [hs] at c12
  generalize hq : m.up = m2 at *
  generalize hq2 : m.upB b = b2 at *
  have HQ := Lib.hid (And.intro hq hq2)
  clear h h5 hr hst hs hq hu hq2
  generalize ((m.i : Nat) : Int) = z at *
  go_enter Tryz.func33, Tryz.ntmps33
  go_wp2_with fail
  refine scope_go 0 rfl ?_
  go_wp2_with fail
  refine HK.out.mono ?_
  rintro _ _ ⟨rfl, rfl⟩
  go_wp2_with fail
  go_quiet (fail)
  go_wp2_with fail
  refine (HU _).out.mono ?_
  rintro _ w1 ⟨rfl, h1, o1⟩
  go_wp2
  simp only [Exit.jump]
  go_ret
  exact ⟨rfl, h1, (only_of_below g (below_drewN (Below.refl _ _) _)).trans o1⟩
set_option maxRecDepth 100000 in
set_option maxHeartbeats 4000000 in
theorem send_b (b : Bool) (G : Nat → Prop) (g : Nat) (m : NM) (w : World) (h : NA b G w g m) (h5 : m.st ≤ 5) (hr : 0 ≤ m.rd ∧ m.rd ≤ 65535) (hst : m.st = 1) (hw : m.me.li = (m.wt : Int) + 1) (hl : m.me.li ≤ 1000) (hb : bytesL m.da) :
    Calls Tryz.prog 33 #[.pointer (some ⟨g, 0, none⟩)] w fun e w' => ∃ v, e = .returned v ∧ OwnsL w' w.heap.size v (encR ⟨m.kindV, (({ m.anew 2 with sl := m.i } : NM).out).view, (({ m.anew 2 with sl := m.i } : NM).out).da⟩) ∧ NA true G w' g (({ m.anew 2 with sl := m.i } : NM).out) ∧ Only g w w' := by
  have HK := Lib.hid (kind_nd b G g m w h h5 hr)
  generalize m.kindV = kv at *
  have c10 := h.c10
  have c12 := h.c12
  have c8 := h.c8
  rw [hst] at c10
  have HW := Lib.hid (waits_yes b G g m w h hw hl)
  have hb : bytesL (({ m.anew 2 with sl := m.i } : NM).out).da := hb
  generalize ({ m.anew 2 with sl := m.i } : NM) = m1 at *
  clear h c12 c8 h5 hr hw hl hst
  go_enter Tryz.func33, Tryz.ntmps33
  go_wp2_with fail
  refine scope_go 0 rfl ?_
  go_wp2_with fail
  refine HK.out.mono ?_
  rintro _ _ ⟨rfl, rfl⟩
  go_wp2_with fail
  refine HW.out.mono ?_
  rintro _ w1 ⟨rfl, h1, o1⟩
  have e8 := h1.c8
  have HJ := fun W (hW : NA false G W g m1) => Lib.hid (hW.join m1.i)
  clear HK c10
  go_wp2_with fail
  go_step3
  refine ⟨rfl, ?_⟩
  go_wp2_with fail
  go_still_tail 7, (by kernel_rfl)
  change wpList _ _ _ _ _ w1.drew
  go_wp2_with fail
  refine (HJ _ h1.drew).out.mono ?_
  rintro _ w2 ⟨rfl, h2, o2⟩
  have o2 := (o1.trans ((Only.refl g w1).drew)).trans o2
  have HC := Lib.hid h2.clear
  clear h1 HJ e8 o1
  go_wp2_with fail
  refine HC.out.mono ?_
  rintro _ w3 ⟨rfl, h3, o3⟩
  have o3 := o2.trans o3
  have f14 := h3.frozen 14
  have e14 := h3.c14
  have h4 := h3.sSe true
  have o4 := o3.set 14 (.bool true)
  change NA true G _ g m1.out at h4
  clear h2 h3 HC o2 o3
  go_wp2_with fail
  generalize w3.setCell ⟨g, 14, none⟩ (.bool true) = w4 at *
  clear f14 e14
  obtain ⟨A, c, e16, hD⟩ := h4.cD
  have HV := fun W (hW : Below w4.heap.size w4 W) => Lib.hid (view_nd true G g m1.out W (h4.below hW))
  have HD := fun W (hW : Below w4.heap.size w4 W) => Lib.hid (hW.cell (p := ⟨g, 16, none⟩) h4.lt |>.trans e16)
  have HE := fun W (hW : Below w4.heap.size w4 W) => Lib.hid (encode_dev ⟨kv, m1.out.view, m1.out.da⟩ (.slice A m1.out.da.length c) W ((hD.keep (kp_below hW)).1) hb)
  unfold Enc frV NM.view at HE
  unfold csV at HV
  have hb0 := Below.refl w4.heap.size w4
  clear hD
  go_region_held3 (fun W => W.cell? ⟨g, 16, none⟩ = some (.slice A m1.out.da.length c))
    ((first | exact e16 | exact y16 | exact z16 | exact (HD _ hb0.drew).out))
    (first
      | ((go_at_call 39; with_reducible refine (HV _ ?_).out.mono ?_); (focus (first | exact hb0.drew | exact hb0)); rintro _ w5 ⟨rfl, b5⟩; have b5 : Below w4.heap.size w4 w5 := hb0.drew.trans b5; have y16 := (HD _ b5).out)
      | ((go_at_call 71; with_reducible refine (HE _ ?_).out.mono ?_); (focus (first | exact b5.drew | exact b5)); rintro _ w6 ⟨v6, rfl, hv6, b6⟩; have b6 := b5.trans (b6.mono b5.size); have z16 := (HD _ b6).out))
  all_goals
    have hv7 := Lib.hid hv6
    have hsz := Nat.le_trans o4.size b5.size
    obtain ⟨A6, c6, rfl, -⟩ := hv6.sees.at_
    have hf := Lib.hid (And.intro (h4.below b6) (o4.trans (only_of_below g b6)))
    clear hv6 HV HD HE h4 o4
    go_wp2
    simp only [Exit.jump]
    go_ret
    refine ⟨_, rfl, ?_, hf.out.1, hf.out.2⟩
    exact hv7.out.base hsz
set_option maxRecDepth 100000 in
set_option maxHeartbeats 4000000 in
theorem send_e2 (b : Bool) (G : Nat → Prop) (g : Nat) (m : NM) (w : World) (h : NA b G w g m) (h5 : m.st ≤ 5) (hr : 0 ≤ m.rd ∧ m.rd ≤ 65535) (hst : m.st = 2) (hs : m.sl = m.i) (hu : m.up.st = 4) (hb : bytesL m.da) :
    Calls Tryz.prog 33 #[.pointer (some ⟨g, 0, none⟩)] w fun e w' => ∃ v, e = .returned v ∧ OwnsL w' w.heap.size v (encR ⟨m.kindV, m.up.out.view, m.up.out.da⟩) ∧ NA true G w' g m.up.out ∧ Only g w w' := by
  have HK := Lib.hid (kind_nd b G g m w h h5 hr)
  generalize m.kindV = kv at *
  have c10 := h.c10
  have c12 := h.c12
  have c8 := h.c8
  rw [hst] at c10
  have HU := fun n => Lib.hid (isUp_nd b G g m (w.drewN n) (h.drewN n) h5 (by omega))
  rw [decide_eq_true hu] at HU
  rw [hs] at c12
  have hb : bytesL m.up.out.da := by rw [show m.up.out.da = m.da from NM.up_da m]; exact hb
  generalize m.up = m1 at *
  generalize m.upB b = b1 at *
  clear h h5 hr hst hs hu
  generalize ((m.i : Nat) : Int) = z at *
  go_enter Tryz.func33, Tryz.ntmps33
  go_wp2_with fail
  refine scope_go 0 rfl ?_
  go_wp2_with fail
  refine HK.out.mono ?_
  rintro _ _ ⟨rfl, rfl⟩
  go_wp2_with fail
  go_quiet (fail)
  go_wp2_with fail
  refine (HU _).out.mono ?_
  rintro _ w1 ⟨rfl, h1, o1⟩
  have o1 := (only_of_below g (below_drewN (Below.refl _ _) _)).trans o1
  have e8 := h1.c8
  have HJ := fun W (hW : NA b1 G W g m1) => Lib.hid (hW.join m1.i)
  clear HK c10 c12 c8 HU
  go_wp2_with fail
  go_step3
  refine ⟨rfl, ?_⟩
  go_wp2_with fail
  go_still_tail 7, (by kernel_rfl)
  change wpList _ _ _ _ _ w1.drew
  go_wp2_with fail
  refine (HJ _ h1.drew).out.mono ?_
  rintro _ w2 ⟨rfl, h2, o2⟩
  have o2 := (o1.trans ((Only.refl g w1).drew)).trans o2
  have HC := Lib.hid h2.clear
  clear h1 HJ e8 o1
  go_wp2_with fail
  refine HC.out.mono ?_
  rintro _ w3 ⟨rfl, h3, o3⟩
  have o3 := o2.trans o3
  have f14 := h3.frozen 14
  have e14 := h3.c14
  have h4 := h3.sSe true
  have o4 := o3.set 14 (.bool true)
  change NA true G _ g m1.out at h4
  clear h2 h3 HC o2 o3
  go_wp2_with fail
  generalize w3.setCell ⟨g, 14, none⟩ (.bool true) = w4 at *
  clear f14 e14
  obtain ⟨A, c, e16, hD⟩ := h4.cD
  have HV := fun W (hW : Below w4.heap.size w4 W) => Lib.hid (view_nd true G g m1.out W (h4.below hW))
  have HD := fun W (hW : Below w4.heap.size w4 W) => Lib.hid (hW.cell (p := ⟨g, 16, none⟩) h4.lt |>.trans e16)
  have HE := fun W (hW : Below w4.heap.size w4 W) => Lib.hid (encode_dev ⟨kv, m1.out.view, m1.out.da⟩ (.slice A m1.out.da.length c) W ((hD.keep (kp_below hW)).1) hb)
  unfold Enc frV NM.view at HE
  unfold csV at HV
  have hb0 := Below.refl w4.heap.size w4
  clear hD
  go_region_held3 (fun W => W.cell? ⟨g, 16, none⟩ = some (.slice A m1.out.da.length c))
    ((first | exact e16 | exact y16 | exact z16 | exact (HD _ hb0.drew).out))
    (first
      | ((go_at_call 39; with_reducible refine (HV _ ?_).out.mono ?_); (focus (first | exact hb0.drew | exact hb0)); rintro _ w5 ⟨rfl, b5⟩; have b5 : Below w4.heap.size w4 w5 := hb0.drew.trans b5; have y16 := (HD _ b5).out)
      | ((go_at_call 71; with_reducible refine (HE _ ?_).out.mono ?_); (focus (first | exact b5.drew | exact b5)); rintro _ w6 ⟨v6, rfl, hv6, b6⟩; have b6 := b5.trans (b6.mono b5.size); have z16 := (HD _ b6).out))
  all_goals
    have hv7 := Lib.hid hv6
    have hsz := Nat.le_trans o4.size b5.size
    obtain ⟨A6, c6, rfl, -⟩ := hv6.sees.at_
    have hf := Lib.hid (And.intro (h4.below b6) (o4.trans (only_of_below g b6)))
    clear hv6 HV HD HE h4 o4
    go_wp2
    simp only [Exit.jump]
    go_ret
    refine ⟨_, rfl, ?_, hf.out.1, hf.out.2⟩
    exact hv7.out.base hsz
set_option maxRecDepth 100000 in
set_option maxHeartbeats 4000000 in
theorem send_e3 (b : Bool) (G : Nat → Prop) (g : Nat) (m : NM) (w : World) (h : NA b G w g m) (h5 : m.st ≤ 5) (hr : 0 ≤ m.rd ∧ m.rd ≤ 65535) (hst : m.st = 3) (hs : m.sl = m.i) (hu : m.up.st = 4) (hb : bytesL m.da) :
    Calls Tryz.prog 33 #[.pointer (some ⟨g, 0, none⟩)] w fun e w' => ∃ v, e = .returned v ∧ OwnsL w' w.heap.size v (encR ⟨m.kindV, m.up.out.view, m.up.out.da⟩) ∧ NA true G w' g m.up.out ∧ Only g w w' := by
  have HK := Lib.hid (kind_nd b G g m w h h5 hr)
  generalize m.kindV = kv at *
  have c10 := h.c10
  have c12 := h.c12
  have c8 := h.c8
  rw [hst] at c10
  have HU := fun n => Lib.hid (isUp_nd b G g m (w.drewN n) (h.drewN n) h5 (by omega))
  rw [decide_eq_true hu] at HU
  rw [hs] at c12
  have hb : bytesL m.up.out.da := by rw [show m.up.out.da = m.da from NM.up_da m]; exact hb
  generalize m.up = m1 at *
  generalize m.upB b = b1 at *
  clear h h5 hr hst hs hu
  generalize ((m.i : Nat) : Int) = z at *
  go_enter Tryz.func33, Tryz.ntmps33
  go_wp2_with fail
  refine scope_go 0 rfl ?_
  go_wp2_with fail
  refine HK.out.mono ?_
  rintro _ _ ⟨rfl, rfl⟩
  go_wp2_with fail
  go_quiet (fail)
  go_wp2_with fail
  refine (HU _).out.mono ?_
  rintro _ w1 ⟨rfl, h1, o1⟩
  have o1 := (only_of_below g (below_drewN (Below.refl _ _) _)).trans o1
  have e8 := h1.c8
  have HJ := fun W (hW : NA b1 G W g m1) => Lib.hid (hW.join m1.i)
  clear HK c10 c12 c8 HU
  go_wp2_with fail
  go_step3
  refine ⟨rfl, ?_⟩
  go_wp2_with fail
  go_still_tail 7, (by kernel_rfl)
  change wpList _ _ _ _ _ w1.drew
  go_wp2_with fail
  refine (HJ _ h1.drew).out.mono ?_
  rintro _ w2 ⟨rfl, h2, o2⟩
  have o2 := (o1.trans ((Only.refl g w1).drew)).trans o2
  have HC := Lib.hid h2.clear
  clear h1 HJ e8 o1
  go_wp2_with fail
  refine HC.out.mono ?_
  rintro _ w3 ⟨rfl, h3, o3⟩
  have o3 := o2.trans o3
  have f14 := h3.frozen 14
  have e14 := h3.c14
  have h4 := h3.sSe true
  have o4 := o3.set 14 (.bool true)
  change NA true G _ g m1.out at h4
  clear h2 h3 HC o2 o3
  go_wp2_with fail
  generalize w3.setCell ⟨g, 14, none⟩ (.bool true) = w4 at *
  clear f14 e14
  obtain ⟨A, c, e16, hD⟩ := h4.cD
  have HV := fun W (hW : Below w4.heap.size w4 W) => Lib.hid (view_nd true G g m1.out W (h4.below hW))
  have HD := fun W (hW : Below w4.heap.size w4 W) => Lib.hid (hW.cell (p := ⟨g, 16, none⟩) h4.lt |>.trans e16)
  have HE := fun W (hW : Below w4.heap.size w4 W) => Lib.hid (encode_dev ⟨kv, m1.out.view, m1.out.da⟩ (.slice A m1.out.da.length c) W ((hD.keep (kp_below hW)).1) hb)
  unfold Enc frV NM.view at HE
  unfold csV at HV
  have hb0 := Below.refl w4.heap.size w4
  clear hD
  go_region_held3 (fun W => W.cell? ⟨g, 16, none⟩ = some (.slice A m1.out.da.length c))
    ((first | exact e16 | exact y16 | exact z16 | exact (HD _ hb0.drew).out))
    (first
      | ((go_at_call 39; with_reducible refine (HV _ ?_).out.mono ?_); (focus (first | exact hb0.drew | exact hb0)); rintro _ w5 ⟨rfl, b5⟩; have b5 : Below w4.heap.size w4 w5 := hb0.drew.trans b5; have y16 := (HD _ b5).out)
      | ((go_at_call 71; with_reducible refine (HE _ ?_).out.mono ?_); (focus (first | exact b5.drew | exact b5)); rintro _ w6 ⟨v6, rfl, hv6, b6⟩; have b6 := b5.trans (b6.mono b5.size); have z16 := (HD _ b6).out))
  all_goals
    have hv7 := Lib.hid hv6
    have hsz := Nat.le_trans o4.size b5.size
    obtain ⟨A6, c6, rfl, -⟩ := hv6.sees.at_
    have hf := Lib.hid (And.intro (h4.below b6) (o4.trans (only_of_below g b6)))
    clear hv6 HV HD HE h4 o4
    go_wp2
    simp only [Exit.jump]
    go_ret
    refine ⟨_, rfl, ?_, hf.out.1, hf.out.2⟩
    exact hv7.out.base hsz
set_option maxRecDepth 100000 in
set_option maxHeartbeats 4000000 in
theorem send_e4 (b : Bool) (G : Nat → Prop) (g : Nat) (m : NM) (w : World) (h : NA b G w g m) (h5 : m.st ≤ 5) (hr : 0 ≤ m.rd ∧ m.rd ≤ 65535) (hst : m.st = 4) (hs : m.sl = m.i) (hu : m.up.st = 4) (hb : bytesL m.da) :
    Calls Tryz.prog 33 #[.pointer (some ⟨g, 0, none⟩)] w fun e w' => ∃ v, e = .returned v ∧ OwnsL w' w.heap.size v (encR ⟨m.kindV, m.up.out.view, m.up.out.da⟩) ∧ NA true G w' g m.up.out ∧ Only g w w' := by
  have HK := Lib.hid (kind_nd b G g m w h h5 hr)
  generalize m.kindV = kv at *
  have c10 := h.c10
  have c12 := h.c12
  have c8 := h.c8
  rw [hst] at c10
  have HU := fun n => Lib.hid (isUp_nd b G g m (w.drewN n) (h.drewN n) h5 (by omega))
  rw [decide_eq_true hu] at HU
  rw [hs] at c12
  have hb : bytesL m.up.out.da := by rw [show m.up.out.da = m.da from NM.up_da m]; exact hb
  generalize m.up = m1 at *
  generalize m.upB b = b1 at *
  clear h h5 hr hst hs hu
  generalize ((m.i : Nat) : Int) = z at *
  go_enter Tryz.func33, Tryz.ntmps33
  go_wp2_with fail
  refine scope_go 0 rfl ?_
  go_wp2_with fail
  refine HK.out.mono ?_
  rintro _ _ ⟨rfl, rfl⟩
  go_wp2_with fail
  go_quiet (fail)
  go_wp2_with fail
  refine (HU _).out.mono ?_
  rintro _ w1 ⟨rfl, h1, o1⟩
  have o1 := (only_of_below g (below_drewN (Below.refl _ _) _)).trans o1
  have e8 := h1.c8
  have HJ := fun W (hW : NA b1 G W g m1) => Lib.hid (hW.join m1.i)
  clear HK c10 c12 c8 HU
  go_wp2_with fail
  go_step3
  refine ⟨rfl, ?_⟩
  go_wp2_with fail
  go_still_tail 7, (by kernel_rfl)
  change wpList _ _ _ _ _ w1.drew
  go_wp2_with fail
  refine (HJ _ h1.drew).out.mono ?_
  rintro _ w2 ⟨rfl, h2, o2⟩
  have o2 := (o1.trans ((Only.refl g w1).drew)).trans o2
  have HC := Lib.hid h2.clear
  clear h1 HJ e8 o1
  go_wp2_with fail
  refine HC.out.mono ?_
  rintro _ w3 ⟨rfl, h3, o3⟩
  have o3 := o2.trans o3
  have f14 := h3.frozen 14
  have e14 := h3.c14
  have h4 := h3.sSe true
  have o4 := o3.set 14 (.bool true)
  change NA true G _ g m1.out at h4
  clear h2 h3 HC o2 o3
  go_wp2_with fail
  generalize w3.setCell ⟨g, 14, none⟩ (.bool true) = w4 at *
  clear f14 e14
  obtain ⟨A, c, e16, hD⟩ := h4.cD
  have HV := fun W (hW : Below w4.heap.size w4 W) => Lib.hid (view_nd true G g m1.out W (h4.below hW))
  have HD := fun W (hW : Below w4.heap.size w4 W) => Lib.hid (hW.cell (p := ⟨g, 16, none⟩) h4.lt |>.trans e16)
  have HE := fun W (hW : Below w4.heap.size w4 W) => Lib.hid (encode_dev ⟨kv, m1.out.view, m1.out.da⟩ (.slice A m1.out.da.length c) W ((hD.keep (kp_below hW)).1) hb)
  unfold Enc frV NM.view at HE
  unfold csV at HV
  have hb0 := Below.refl w4.heap.size w4
  clear hD
  go_region_held3 (fun W => W.cell? ⟨g, 16, none⟩ = some (.slice A m1.out.da.length c))
    ((first | exact e16 | exact y16 | exact z16 | exact (HD _ hb0.drew).out))
    (first
      | ((go_at_call 39; with_reducible refine (HV _ ?_).out.mono ?_); (focus (first | exact hb0.drew | exact hb0)); rintro _ w5 ⟨rfl, b5⟩; have b5 : Below w4.heap.size w4 w5 := hb0.drew.trans b5; have y16 := (HD _ b5).out)
      | ((go_at_call 71; with_reducible refine (HE _ ?_).out.mono ?_); (focus (first | exact b5.drew | exact b5)); rintro _ w6 ⟨v6, rfl, hv6, b6⟩; have b6 := b5.trans (b6.mono b5.size); have z16 := (HD _ b6).out))
  all_goals
    have hv7 := Lib.hid hv6
    have hsz := Nat.le_trans o4.size b5.size
    obtain ⟨A6, c6, rfl, -⟩ := hv6.sees.at_
    have hf := Lib.hid (And.intro (h4.below b6) (o4.trans (only_of_below g b6)))
    clear hv6 HV HD HE h4 o4
    go_wp2
    simp only [Exit.jump]
    go_ret
    refine ⟨_, rfl, ?_, hf.out.1, hf.out.2⟩
    exact hv7.out.base hsz
end Go.Proofs.YtpdenmcacaajkaaGreat
