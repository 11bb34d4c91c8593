/- Texts NdX in one. For what each says in front of its theorems. -/
import Derived.Test.YtpdenmcacaajkaaGreatPB23
/-! ### NdX -/
namespace Go.Proofs.YtpdenmcacaajkaaGreat
open Go.RowKit

set_option maxRecDepth 100000 in
set_option maxHeartbeats 2000000 in
theorem take_0 (b : Bool) (G : Nat → Prop) (g : Nat) (m : NM) (h : Hn) (Ax Ay : Option Addr) (nx ny cx cy : Nat) (w : World) (hm : NA b G w g m) (hst : m.st = 0) :
    Calls Tryz.prog 36 #[.pointer (some ⟨g, 0, none⟩), hdV h (.slice Ax nx cx) (.slice Ay ny cy)] w fun e w' => e = .returned (.tuple #[]) ∧ NA b G w' g m ∧ Only g w w' := by
  have hb0 := (Below.refl w.heap.size w).alloc (Nat.le_refl _) (.cells #[.int .i64 h.a, .int .i64 h.b, .slice Ax nx cx, .slice Ay ny cy, .int .i64 h.o] 39)
  have h1 := hm.below hb0
  have hX := Blk.new w w.heap.size rfl #[.int .i64 h.a, .int .i64 h.b, .slice Ax nx cx, .slice Ay ny cy, .int .i64 h.o] 39
  have hgl := hm.lt
  have c10 := h1.c10
  rw [hst] at c10
  have hk := Lib.hid h1
  unfold hdV
  clear h1 hm hst hX
  go_enter Tryz.func36, Tryz.ntmps36
  go_wp2
  exact bodyPost_end (results_none (by rfl) _ _ _) rfl ⟨rfl, hk.out, only_of_below g hb0⟩
set_option maxRecDepth 100000 in
set_option maxHeartbeats 2000000 in
theorem take_5 (b : Bool) (G : Nat → Prop) (g : Nat) (m : NM) (h : Hn) (Ax Ay : Option Addr) (nx ny cx cy : Nat) (w : World) (hm : NA b G w g m) (hst : m.st = 5) :
    Calls Tryz.prog 36 #[.pointer (some ⟨g, 0, none⟩), hdV h (.slice Ax nx cx) (.slice Ay ny cy)] w fun e w' => e = .returned (.tuple #[]) ∧ NA b G w' g m ∧ Only g w w' := by
  have hb0 := (Below.refl w.heap.size w).alloc (Nat.le_refl _) (.cells #[.int .i64 h.a, .int .i64 h.b, .slice Ax nx cx, .slice Ay ny cy, .int .i64 h.o] 39)
  have h1 := hm.below hb0
  have hX := Blk.new w w.heap.size rfl #[.int .i64 h.a, .int .i64 h.b, .slice Ax nx cx, .slice Ay ny cy, .int .i64 h.o] 39
  have hgl := hm.lt
  have c10 := h1.c10
  rw [hst] at c10
  have hk := Lib.hid h1
  unfold hdV
  clear h1 hm hst hX
  go_enter Tryz.func36, Tryz.ntmps36
  go_wp2
  exact bodyPost_end (results_none (by rfl) _ _ _) rfl ⟨rfl, hk.out, only_of_below g hb0⟩
set_option maxRecDepth 100000 in
set_option maxHeartbeats 2000000 in
theorem take_1 (b : Bool) (G : Nat → Prop) (g : Nat) (m : NM) (h : Hn) (Ax Ay : Option Addr) (nx ny cx cy : Nat) (b2 : Bool) (m2 : NM) (w : World) (hm : NA b G w g m) (hst : m.st = 1) (HL : ∀ W, Below w.heap.size w W → Calls Tryz.prog 78 #[.pointer (some ⟨g, 0, none⟩), hdV h (.slice Ax nx cx) (.slice Ay ny cy)] W fun e w' => e = .returned (.tuple #[]) ∧ NA b2 G w' g m2 ∧ Only g W w') :
    Calls Tryz.prog 36 #[.pointer (some ⟨g, 0, none⟩), hdV h (.slice Ax nx cx) (.slice Ay ny cy)] w fun e w' => e = .returned (.tuple #[]) ∧ NA b2 G w' g m2 ∧ Only g w w' := by
  have hb0 := (Below.refl w.heap.size w).alloc (Nat.le_refl _) (.cells #[.int .i64 h.a, .int .i64 h.b, .slice Ax nx cx, .slice Ay ny cy, .int .i64 h.o] 39)
  have h1 := hm.below hb0
  have hX := Blk.new w w.heap.size rfl #[.int .i64 h.a, .int .i64 h.b, .slice Ax nx cx, .slice Ay ny cy, .int .i64 h.o] 39
  have hgl := hm.lt
  have c10 := h1.c10
  rw [hst] at c10
  have HL1 := Lib.hid (HL _ hb0)
  unfold hdV at HL1 ⊢
  clear h1 hm hst hX HL
  go_enter Tryz.func36, Tryz.ntmps36
  go_wp2_with fail
  refine HL1.out.mono ?_
  rintro _ w2 ⟨rfl, h2, o2⟩
  go_wp2
  exact bodyPost_end (results_none (by rfl) _ _ _) rfl ⟨rfl, h2, (only_of_below g hb0).trans o2⟩
set_option maxRecDepth 100000 in
set_option maxHeartbeats 2000000 in
theorem take_own_211 (b : Bool) (G : Nat → Prop) (g : Nat) (m : NM) (h : Hn) (Ax Ay : Option Addr) (nx ny cx cy : Nat) (w : World) (hm : NA b G w g m) (hst : m.st = 2) (hs : m.sl = m.i) (hb : b = true) (hsy : m.me.sy = true) (hg : NG { m with ck := keep4 m.ck 0 }) :
    Calls Tryz.prog 36 #[.pointer (some ⟨g, 0, none⟩), hdV h (.slice Ax nx cx) (.slice Ay ny cy)] w fun e w' => e = .returned (.tuple #[]) ∧ NA false G w' g (({ m with ck := keep4 m.ck 0 } : NM).goOn) ∧ Only g w w' := by
  have hb0 := (Below.refl w.heap.size w).alloc (Nat.le_refl _) (.cells #[.int .i64 h.a, .int .i64 h.b, .slice Ax nx cx, .slice Ay ny cy, .int .i64 h.o] 39)
  have h1 := hm.below hb0
  have hX := Blk.new w w.heap.size rfl #[.int .i64 h.a, .int .i64 h.b, .slice Ax nx cx, .slice Ay ny cy, .int .i64 h.o] 39
  have hgl := hm.lt
  have c10 := h1.c10
  rw [hst] at c10
  have c12 := h1.c12
  have c8 := h1.c8
  have c14 := h1.c14
  have c4 := h1.c4
  rw [hb] at c14
  rw [hs] at c12
  rw [hsy] at c4
  have HM := fun n => Lib.hid ((h1.drewN n).measure 0)
  have HG := fun W (hW : NA b G W g { m with ck := keep4 m.ck 0 }) => Lib.hid (goOn_nd b G g _ W hW hg)
  have C14 := fun n => (below_drewN (Below.refl _ (w.alloc (.cells #[.int .i64 h.a, .int .i64 h.b, .slice Ax nx cx, .slice Ay ny cy, .int .i64 h.o] 39))) n).cell (p := ⟨g, 14, none⟩) h1.lt |>.trans c14
  have C4 := fun n => (below_drewN (Below.refl _ (w.alloc (.cells #[.int .i64 h.a, .int .i64 h.b, .slice Ax nx cx, .slice Ay ny cy, .int .i64 h.o] 39))) n).cell (p := ⟨g, 4, none⟩) h1.lt |>.trans c4
  have o0 := fun n => Lib.hid ((only_of_below g hb0).trans (only_of_below g (below_drewN (Below.refl _ (w.alloc (.cells #[.int .i64 h.a, .int .i64 h.b, .slice Ax nx cx, .slice Ay ny cy, .int .i64 h.o] 39))) n)))
  unfold hdV
  clear h1 hm hst hX hs hb hsy hg c14 c4 hb0
  generalize ((m.i : Nat) : Int) = z at *
  go_enter Tryz.func36, Tryz.ntmps36
  go_wp2_with fail
  go_quiet (fail)
  have c14 := C14 nq
  have c4 := C4 nq
  have o0 := o0 nq
  have HM := HM nq
  clear C14 C4
  go_wp2_with fail
  refine HM.out.mono ?_
  rintro _ w2 ⟨rfl, h2, o2⟩
  have o2 := o0.out.trans o2
  have HG2 := HG _ h2
  clear HM HG h2 o0 c14 c4
  go_wp2_with fail
  refine HG2.out.mono ?_
  rintro _ w3 ⟨rfl, h3, o3⟩
  go_wp2
  exact bodyPost_end (results_none (by rfl) _ _ _) rfl ⟨rfl, h3, o2.trans o3⟩
set_option maxRecDepth 100000 in
set_option maxHeartbeats 2000000 in
theorem take_own_210 (b : Bool) (G : Nat → Prop) (g : Nat) (m : NM) (h : Hn) (Ax Ay : Option Addr) (nx ny cx cy : Nat) (w : World) (hm : NA b G w g m) (hst : m.st = 2) (hs : m.sl = m.i) (hb : b = true) (hsy : m.me.sy = false) (hg : NG m) :
    Calls Tryz.prog 36 #[.pointer (some ⟨g, 0, none⟩), hdV h (.slice Ax nx cx) (.slice Ay ny cy)] w fun e w' => e = .returned (.tuple #[]) ∧ NA false G w' g m.goOn ∧ Only g w w' := by
  have hb0 := (Below.refl w.heap.size w).alloc (Nat.le_refl _) (.cells #[.int .i64 h.a, .int .i64 h.b, .slice Ax nx cx, .slice Ay ny cy, .int .i64 h.o] 39)
  have h1 := hm.below hb0
  have hX := Blk.new w w.heap.size rfl #[.int .i64 h.a, .int .i64 h.b, .slice Ax nx cx, .slice Ay ny cy, .int .i64 h.o] 39
  have hgl := hm.lt
  have c10 := h1.c10
  rw [hst] at c10
  have c12 := h1.c12
  have c8 := h1.c8
  have c14 := h1.c14
  have c4 := h1.c4
  rw [hb] at c14
  rw [hs] at c12
  rw [hsy] at c4
  have HG := fun n => Lib.hid (goOn_nd b G g m _ (h1.drewN n) hg)
  have C14 := fun n => (below_drewN (Below.refl _ (w.alloc (.cells #[.int .i64 h.a, .int .i64 h.b, .slice Ax nx cx, .slice Ay ny cy, .int .i64 h.o] 39))) n).cell (p := ⟨g, 14, none⟩) h1.lt |>.trans c14
  have C4 := fun n => (below_drewN (Below.refl _ (w.alloc (.cells #[.int .i64 h.a, .int .i64 h.b, .slice Ax nx cx, .slice Ay ny cy, .int .i64 h.o] 39))) n).cell (p := ⟨g, 4, none⟩) h1.lt |>.trans c4
  have o0 := fun n => Lib.hid ((only_of_below g hb0).trans (only_of_below g (below_drewN (Below.refl _ (w.alloc (.cells #[.int .i64 h.a, .int .i64 h.b, .slice Ax nx cx, .slice Ay ny cy, .int .i64 h.o] 39))) n)))
  unfold hdV
  clear h1 hm hst hX hs hb hsy hg c14 c4 hb0
  generalize ((m.i : Nat) : Int) = z at *
  go_enter Tryz.func36, Tryz.ntmps36
  go_wp2_with fail
  go_quiet (fail)
  have c14 := C14 nq
  have c4 := C4 nq
  have o0 := o0 nq
  have HG2 := HG nq
  have o2 := o0.out
  clear C14 C4 HG o0
  go_wp2_with fail
  refine HG2.out.mono ?_
  rintro _ w3 ⟨rfl, h3, o3⟩
  go_wp2
  exact bodyPost_end (results_none (by rfl) _ _ _) rfl ⟨rfl, h3, o2.trans o3⟩
set_option maxRecDepth 100000 in
set_option maxHeartbeats 2000000 in
theorem take_own_20 (b : Bool) (G : Nat → Prop) (g : Nat) (m : NM) (h : Hn) (Ax Ay : Option Addr) (nx ny cx cy : Nat) (w : World) (hm : NA b G w g m) (hst : m.st = 2) (hs : m.sl = m.i) (hb : b = false) (hg : NG m) :
    Calls Tryz.prog 36 #[.pointer (some ⟨g, 0, none⟩), hdV h (.slice Ax nx cx) (.slice Ay ny cy)] w fun e w' => e = .returned (.tuple #[]) ∧ NA false G w' g m.goOn ∧ Only g w w' := by
  have hb0 := (Below.refl w.heap.size w).alloc (Nat.le_refl _) (.cells #[.int .i64 h.a, .int .i64 h.b, .slice Ax nx cx, .slice Ay ny cy, .int .i64 h.o] 39)
  have h1 := hm.below hb0
  have hX := Blk.new w w.heap.size rfl #[.int .i64 h.a, .int .i64 h.b, .slice Ax nx cx, .slice Ay ny cy, .int .i64 h.o] 39
  have hgl := hm.lt
  have c10 := h1.c10
  rw [hst] at c10
  have c12 := h1.c12
  have c8 := h1.c8
  have c14 := h1.c14
  have c4 := h1.c4
  rw [hb] at c14
  rw [hs] at c12
  have HG := fun n => Lib.hid (goOn_nd b G g m _ (h1.drewN n) hg)
  have C14 := fun n => (below_drewN (Below.refl _ (w.alloc (.cells #[.int .i64 h.a, .int .i64 h.b, .slice Ax nx cx, .slice Ay ny cy, .int .i64 h.o] 39))) n).cell (p := ⟨g, 14, none⟩) h1.lt |>.trans c14
  have C4 := fun n => (below_drewN (Below.refl _ (w.alloc (.cells #[.int .i64 h.a, .int .i64 h.b, .slice Ax nx cx, .slice Ay ny cy, .int .i64 h.o] 39))) n).cell (p := ⟨g, 4, none⟩) h1.lt |>.trans c4
  have o0 := fun n => Lib.hid ((only_of_below g hb0).trans (only_of_below g (below_drewN (Below.refl _ (w.alloc (.cells #[.int .i64 h.a, .int .i64 h.b, .slice Ax nx cx, .slice Ay ny cy, .int .i64 h.o] 39))) n)))
  unfold hdV
  clear h1 hm hst hX hs hb hg c14 c4 hb0
  generalize ((m.i : Nat) : Int) = z at *
  go_enter Tryz.func36, Tryz.ntmps36
  go_wp2_with fail
  go_quiet (fail)
  have c14 := C14 nq
  have c4 := C4 nq
  have o0 := o0 nq
  have HG2 := HG nq
  have o2 := o0.out
  clear C14 C4 HG o0
  go_wp2_with fail
  refine HG2.out.mono ?_
  rintro _ w3 ⟨rfl, h3, o3⟩
  go_wp2
  exact bodyPost_end (results_none (by rfl) _ _ _) rfl ⟨rfl, h3, o2.trans o3⟩
set_option maxRecDepth 100000 in
set_option maxHeartbeats 2000000 in
theorem take_other_2 (b : Bool) (G : Nat → Prop) (g : Nat) (m : NM) (h : Hn) (Ax Ay : Option Addr) (nx ny cx cy : Nat) (m2 : NM) (w : World) (hm : NA b G w g m) (hst : m.st = 2) (hs : m.sl ≠ m.i) (HJ : ∀ W, Below w.heap.size w W → Calls Tryz.prog 81 #[.pointer (some ⟨g, 0, none⟩), hdV h (.slice Ax nx cx) (.slice Ay ny cy)] W fun e w' => e = .returned (.tuple #[]) ∧ NA b G w' g m2 ∧ Only g W w') (hg : NG m2) :
    Calls Tryz.prog 36 #[.pointer (some ⟨g, 0, none⟩), hdV h (.slice Ax nx cx) (.slice Ay ny cy)] w fun e w' => e = .returned (.tuple #[]) ∧ NA false G w' g m2.goOn ∧ Only g w w' := by
  have hb0 := (Below.refl w.heap.size w).alloc (Nat.le_refl _) (.cells #[.int .i64 h.a, .int .i64 h.b, .slice Ax nx cx, .slice Ay ny cy, .int .i64 h.o] 39)
  have h1 := hm.below hb0
  have hX := Blk.new w w.heap.size rfl #[.int .i64 h.a, .int .i64 h.b, .slice Ax nx cx, .slice Ay ny cy, .int .i64 h.o] 39
  have hgl := hm.lt
  have c10 := h1.c10
  rw [hst] at c10
  have c12 := h1.c12
  have c8 := h1.c8
  have q : (((m.sl : Nat) : Int) == ((m.i : Nat) : Int)) = false := by rw [beq_eq_false_iff_ne]; omega
  have HG := fun W (hW : NA b G W g m2) => Lib.hid (goOn_nd b G g _ W hW hg)
  have B0 := fun n => below_drewN hb0 n
  have HJ1 := fun n => Lib.hid (HJ _ (B0 n))
  have X0 := fun n => hX.drewN n
  unfold hdV at HJ1 ⊢
  clear h1 hm hst hX hs hg HJ hb0
  generalize ((m.sl : Nat) : Int) = y at *
  generalize ((m.i : Nat) : Int) = z at *
  go_enter Tryz.func36, Tryz.ntmps36
  go_wp2_with fail
  go_quiet (fail)
  have hX := X0 nq
  have x0 := hX.cell 0 (x := .int .i64 h.a) rfl
  have x1 := hX.cell 1 (x := .int .i64 h.b) rfl
  have x2 := hX.cell 2 (x := .slice Ax nx cx) rfl
  have x3 := hX.cell 3 (x := .slice Ay ny cy) rfl
  have x4 := hX.cell 4 (x := .int .i64 h.o) rfl
  have HJ2 := HJ1 nq
  have b1 := B0 nq
  clear X0 HJ1 B0 hX
  go_wp2_with fail
  refine HJ2.out.mono ?_
  rintro _ w2 ⟨rfl, h2, o2⟩
  have o2 := (only_of_below g b1).trans o2
  have HG2 := HG _ h2
  clear HJ2 HG h2 x0 x1 x2 x3 x4
  go_wp2_with fail
  refine HG2.out.mono ?_
  rintro _ w3 ⟨rfl, h3, o3⟩
  go_wp2
  exact bodyPost_end (results_none (by rfl) _ _ _) rfl ⟨rfl, h3, o2.trans o3⟩
set_option maxRecDepth 100000 in
set_option maxHeartbeats 2000000 in
theorem take_own_311 (b : Bool) (G : Nat → Prop) (g : Nat) (m : NM) (h : Hn) (Ax Ay : Option Addr) (nx ny cx cy : Nat) (w : World) (hm : NA b G w g m) (hst : m.st = 3) (hs : m.sl = m.i) (hb : b = true) (hsy : m.me.sy = true) (hg : NG { m with ck := keep4 m.ck 0 }) :
    Calls Tryz.prog 36 #[.pointer (some ⟨g, 0, none⟩), hdV h (.slice Ax nx cx) (.slice Ay ny cy)] w fun e w' => e = .returned (.tuple #[]) ∧ NA false G w' g (({ m with ck := keep4 m.ck 0 } : NM).goOn) ∧ Only g w w' := by
  have hb0 := (Below.refl w.heap.size w).alloc (Nat.le_refl _) (.cells #[.int .i64 h.a, .int .i64 h.b, .slice Ax nx cx, .slice Ay ny cy, .int .i64 h.o] 39)
  have h1 := hm.below hb0
  have hX := Blk.new w w.heap.size rfl #[.int .i64 h.a, .int .i64 h.b, .slice Ax nx cx, .slice Ay ny cy, .int .i64 h.o] 39
  have hgl := hm.lt
  have c10 := h1.c10
  rw [hst] at c10
  have c12 := h1.c12
  have c8 := h1.c8
  have c14 := h1.c14
  have c4 := h1.c4
  rw [hb] at c14
  rw [hs] at c12
  rw [hsy] at c4
  have HM := fun n => Lib.hid ((h1.drewN n).measure 0)
  have HG := fun W (hW : NA b G W g { m with ck := keep4 m.ck 0 }) => Lib.hid (goOn_nd b G g _ W hW hg)
  have C14 := fun n => (below_drewN (Below.refl _ (w.alloc (.cells #[.int .i64 h.a, .int .i64 h.b, .slice Ax nx cx, .slice Ay ny cy, .int .i64 h.o] 39))) n).cell (p := ⟨g, 14, none⟩) h1.lt |>.trans c14
  have C4 := fun n => (below_drewN (Below.refl _ (w.alloc (.cells #[.int .i64 h.a, .int .i64 h.b, .slice Ax nx cx, .slice Ay ny cy, .int .i64 h.o] 39))) n).cell (p := ⟨g, 4, none⟩) h1.lt |>.trans c4
  have o0 := fun n => Lib.hid ((only_of_below g hb0).trans (only_of_below g (below_drewN (Below.refl _ (w.alloc (.cells #[.int .i64 h.a, .int .i64 h.b, .slice Ax nx cx, .slice Ay ny cy, .int .i64 h.o] 39))) n)))
  unfold hdV
  clear h1 hm hst hX hs hb hsy hg c14 c4 hb0
  generalize ((m.i : Nat) : Int) = z at *
  go_enter Tryz.func36, Tryz.ntmps36
  go_wp2_with fail
  go_quiet (fail)
  have c14 := C14 nq
  have c4 := C4 nq
  have o0 := o0 nq
  have HM := HM nq
  clear C14 C4
  go_wp2_with fail
  refine HM.out.mono ?_
  rintro _ w2 ⟨rfl, h2, o2⟩
  have o2 := o0.out.trans o2
  have HG2 := HG _ h2
  clear HM HG h2 o0 c14 c4
  go_wp2_with fail
  refine HG2.out.mono ?_
  rintro _ w3 ⟨rfl, h3, o3⟩
  go_wp2
  exact bodyPost_end (results_none (by rfl) _ _ _) rfl ⟨rfl, h3, o2.trans o3⟩
set_option maxRecDepth 100000 in
set_option maxHeartbeats 2000000 in
theorem take_own_310 (b : Bool) (G : Nat → Prop) (g : Nat) (m : NM) (h : Hn) (Ax Ay : Option Addr) (nx ny cx cy : Nat) (w : World) (hm : NA b G w g m) (hst : m.st = 3) (hs : m.sl = m.i) (hb : b = true) (hsy : m.me.sy = false) (hg : NG m) :
    Calls Tryz.prog 36 #[.pointer (some ⟨g, 0, none⟩), hdV h (.slice Ax nx cx) (.slice Ay ny cy)] w fun e w' => e = .returned (.tuple #[]) ∧ NA false G w' g m.goOn ∧ Only g w w' := by
  have hb0 := (Below.refl w.heap.size w).alloc (Nat.le_refl _) (.cells #[.int .i64 h.a, .int .i64 h.b, .slice Ax nx cx, .slice Ay ny cy, .int .i64 h.o] 39)
  have h1 := hm.below hb0
  have hX := Blk.new w w.heap.size rfl #[.int .i64 h.a, .int .i64 h.b, .slice Ax nx cx, .slice Ay ny cy, .int .i64 h.o] 39
  have hgl := hm.lt
  have c10 := h1.c10
  rw [hst] at c10
  have c12 := h1.c12
  have c8 := h1.c8
  have c14 := h1.c14
  have c4 := h1.c4
  rw [hb] at c14
  rw [hs] at c12
  rw [hsy] at c4
  have HG := fun n => Lib.hid (goOn_nd b G g m _ (h1.drewN n) hg)
  have C14 := fun n => (below_drewN (Below.refl _ (w.alloc (.cells #[.int .i64 h.a, .int .i64 h.b, .slice Ax nx cx, .slice Ay ny cy, .int .i64 h.o] 39))) n).cell (p := ⟨g, 14, none⟩) h1.lt |>.trans c14
  have C4 := fun n => (below_drewN (Below.refl _ (w.alloc (.cells #[.int .i64 h.a, .int .i64 h.b, .slice Ax nx cx, .slice Ay ny cy, .int .i64 h.o] 39))) n).cell (p := ⟨g, 4, none⟩) h1.lt |>.trans c4
  have o0 := fun n => Lib.hid ((only_of_below g hb0).trans (only_of_below g (below_drewN (Below.refl _ (w.alloc (.cells #[.int .i64 h.a, .int .i64 h.b, .slice Ax nx cx, .slice Ay ny cy, .int .i64 h.o] 39))) n)))
  unfold hdV
  clear h1 hm hst hX hs hb hsy hg c14 c4 hb0
  generalize ((m.i : Nat) : Int) = z at *
  go_enter Tryz.func36, Tryz.ntmps36
  go_wp2_with fail
  go_quiet (fail)
  have c14 := C14 nq
  have c4 := C4 nq
  have o0 := o0 nq
  have HG2 := HG nq
  have o2 := o0.out
  clear C14 C4 HG o0
  go_wp2_with fail
  refine HG2.out.mono ?_
  rintro _ w3 ⟨rfl, h3, o3⟩
  go_wp2
  exact bodyPost_end (results_none (by rfl) _ _ _) rfl ⟨rfl, h3, o2.trans o3⟩
set_option maxRecDepth 100000 in
set_option maxHeartbeats 2000000 in
theorem take_own_30 (b : Bool) (G : Nat → Prop) (g : Nat) (m : NM) (h : Hn) (Ax Ay : Option Addr) (nx ny cx cy : Nat) (w : World) (hm : NA b G w g m) (hst : m.st = 3) (hs : m.sl = m.i) (hb : b = false) (hg : NG m) :
    Calls Tryz.prog 36 #[.pointer (some ⟨g, 0, none⟩), hdV h (.slice Ax nx cx) (.slice Ay ny cy)] w fun e w' => e = .returned (.tuple #[]) ∧ NA false G w' g m.goOn ∧ Only g w w' := by
  have hb0 := (Below.refl w.heap.size w).alloc (Nat.le_refl _) (.cells #[.int .i64 h.a, .int .i64 h.b, .slice Ax nx cx, .slice Ay ny cy, .int .i64 h.o] 39)
  have h1 := hm.below hb0
  have hX := Blk.new w w.heap.size rfl #[.int .i64 h.a, .int .i64 h.b, .slice Ax nx cx, .slice Ay ny cy, .int .i64 h.o] 39
  have hgl := hm.lt
  have c10 := h1.c10
  rw [hst] at c10
  have c12 := h1.c12
  have c8 := h1.c8
  have c14 := h1.c14
  have c4 := h1.c4
  rw [hb] at c14
  rw [hs] at c12
  have HG := fun n => Lib.hid (goOn_nd b G g m _ (h1.drewN n) hg)
  have C14 := fun n => (below_drewN (Below.refl _ (w.alloc (.cells #[.int .i64 h.a, .int .i64 h.b, .slice Ax nx cx, .slice Ay ny cy, .int .i64 h.o] 39))) n).cell (p := ⟨g, 14, none⟩) h1.lt |>.trans c14
  have C4 := fun n => (below_drewN (Below.refl _ (w.alloc (.cells #[.int .i64 h.a, .int .i64 h.b, .slice Ax nx cx, .slice Ay ny cy, .int .i64 h.o] 39))) n).cell (p := ⟨g, 4, none⟩) h1.lt |>.trans c4
  have o0 := fun n => Lib.hid ((only_of_below g hb0).trans (only_of_below g (below_drewN (Below.refl _ (w.alloc (.cells #[.int .i64 h.a, .int .i64 h.b, .slice Ax nx cx, .slice Ay ny cy, .int .i64 h.o] 39))) n)))
  unfold hdV
  clear h1 hm hst hX hs hb hg c14 c4 hb0
  generalize ((m.i : Nat) : Int) = z at *
  go_enter Tryz.func36, Tryz.ntmps36
  go_wp2_with fail
  go_quiet (fail)
  have c14 := C14 nq
  have c4 := C4 nq
  have o0 := o0 nq
  have HG2 := HG nq
  have o2 := o0.out
  clear C14 C4 HG o0
  go_wp2_with fail
  refine HG2.out.mono ?_
  rintro _ w3 ⟨rfl, h3, o3⟩
  go_wp2
  exact bodyPost_end (results_none (by rfl) _ _ _) rfl ⟨rfl, h3, o2.trans o3⟩
set_option maxRecDepth 100000 in
set_option maxHeartbeats 2000000 in
theorem take_other_3 (b : Bool) (G : Nat → Prop) (g : Nat) (m : NM) (h : Hn) (Ax Ay : Option Addr) (nx ny cx cy : Nat) (m2 : NM) (w : World) (hm : NA b G w g m) (hst : m.st = 3) (hs : m.sl ≠ m.i) (HJ : ∀ W, Below w.heap.size w W → Calls Tryz.prog 81 #[.pointer (some ⟨g, 0, none⟩), hdV h (.slice Ax nx cx) (.slice Ay ny cy)] W fun e w' => e = .returned (.tuple #[]) ∧ NA b G w' g m2 ∧ Only g W w') (hg : NG m2) :
    Calls Tryz.prog 36 #[.pointer (some ⟨g, 0, none⟩), hdV h (.slice Ax nx cx) (.slice Ay ny cy)] w fun e w' => e = .returned (.tuple #[]) ∧ NA false G w' g m2.goOn ∧ Only g w w' := by
  have hb0 := (Below.refl w.heap.size w).alloc (Nat.le_refl _) (.cells #[.int .i64 h.a, .int .i64 h.b, .slice Ax nx cx, .slice Ay ny cy, .int .i64 h.o] 39)
  have h1 := hm.below hb0
  have hX := Blk.new w w.heap.size rfl #[.int .i64 h.a, .int .i64 h.b, .slice Ax nx cx, .slice Ay ny cy, .int .i64 h.o] 39
  have hgl := hm.lt
  have c10 := h1.c10
  rw [hst] at c10
  have c12 := h1.c12
  have c8 := h1.c8
  have q : (((m.sl : Nat) : Int) == ((m.i : Nat) : Int)) = false := by rw [beq_eq_false_iff_ne]; omega
  have HG := fun W (hW : NA b G W g m2) => Lib.hid (goOn_nd b G g _ W hW hg)
  have B0 := fun n => below_drewN hb0 n
  have HJ1 := fun n => Lib.hid (HJ _ (B0 n))
  have X0 := fun n => hX.drewN n
  unfold hdV at HJ1 ⊢
  clear h1 hm hst hX hs hg HJ hb0
  generalize ((m.sl : Nat) : Int) = y at *
  generalize ((m.i : Nat) : Int) = z at *
  go_enter Tryz.func36, Tryz.ntmps36
  go_wp2_with fail
  go_quiet (fail)
  have hX := X0 nq
  have x0 := hX.cell 0 (x := .int .i64 h.a) rfl
  have x1 := hX.cell 1 (x := .int .i64 h.b) rfl
  have x2 := hX.cell 2 (x := .slice Ax nx cx) rfl
  have x3 := hX.cell 3 (x := .slice Ay ny cy) rfl
  have x4 := hX.cell 4 (x := .int .i64 h.o) rfl
  have HJ2 := HJ1 nq
  have b1 := B0 nq
  clear X0 HJ1 B0 hX
  go_wp2_with fail
  refine HJ2.out.mono ?_
  rintro _ w2 ⟨rfl, h2, o2⟩
  have o2 := (only_of_below g b1).trans o2
  have HG2 := HG _ h2
  clear HJ2 HG h2 x0 x1 x2 x3 x4
  go_wp2_with fail
  refine HG2.out.mono ?_
  rintro _ w3 ⟨rfl, h3, o3⟩
  go_wp2
  exact bodyPost_end (results_none (by rfl) _ _ _) rfl ⟨rfl, h3, o2.trans o3⟩
set_option maxRecDepth 100000 in
set_option maxHeartbeats 2000000 in
theorem take_own_411 (b : Bool) (G : Nat → Prop) (g : Nat) (m : NM) (h : Hn) (Ax Ay : Option Addr) (nx ny cx cy : Nat) (w : World) (hm : NA b G w g m) (hst : m.st = 4) (hs : m.sl = m.i) (hb : b = true) (hsy : m.me.sy = true) (hg : NG { m with ck := keep4 m.ck 0 }) :
    Calls Tryz.prog 36 #[.pointer (some ⟨g, 0, none⟩), hdV h (.slice Ax nx cx) (.slice Ay ny cy)] w fun e w' => e = .returned (.tuple #[]) ∧ NA false G w' g (({ m with ck := keep4 m.ck 0 } : NM).goOn) ∧ Only g w w' := by
  have hb0 := (Below.refl w.heap.size w).alloc (Nat.le_refl _) (.cells #[.int .i64 h.a, .int .i64 h.b, .slice Ax nx cx, .slice Ay ny cy, .int .i64 h.o] 39)
  have h1 := hm.below hb0
  have hX := Blk.new w w.heap.size rfl #[.int .i64 h.a, .int .i64 h.b, .slice Ax nx cx, .slice Ay ny cy, .int .i64 h.o] 39
  have hgl := hm.lt
  have c10 := h1.c10
  rw [hst] at c10
  have c12 := h1.c12
  have c8 := h1.c8
  have c14 := h1.c14
  have c4 := h1.c4
  rw [hb] at c14
  rw [hs] at c12
  rw [hsy] at c4
  have HM := fun n => Lib.hid ((h1.drewN n).measure 0)
  have HG := fun W (hW : NA b G W g { m with ck := keep4 m.ck 0 }) => Lib.hid (goOn_nd b G g _ W hW hg)
  have C14 := fun n => (below_drewN (Below.refl _ (w.alloc (.cells #[.int .i64 h.a, .int .i64 h.b, .slice Ax nx cx, .slice Ay ny cy, .int .i64 h.o] 39))) n).cell (p := ⟨g, 14, none⟩) h1.lt |>.trans c14
  have C4 := fun n => (below_drewN (Below.refl _ (w.alloc (.cells #[.int .i64 h.a, .int .i64 h.b, .slice Ax nx cx, .slice Ay ny cy, .int .i64 h.o] 39))) n).cell (p := ⟨g, 4, none⟩) h1.lt |>.trans c4
  have o0 := fun n => Lib.hid ((only_of_below g hb0).trans (only_of_below g (below_drewN (Below.refl _ (w.alloc (.cells #[.int .i64 h.a, .int .i64 h.b, .slice Ax nx cx, .slice Ay ny cy, .int .i64 h.o] 39))) n)))
  unfold hdV
  clear h1 hm hst hX hs hb hsy hg c14 c4 hb0
  generalize ((m.i : Nat) : Int) = z at *
  go_enter Tryz.func36, Tryz.ntmps36
  go_wp2_with fail
  go_quiet (fail)
  have c14 := C14 nq
  have c4 := C4 nq
  have o0 := o0 nq
  have HM := HM nq
  clear C14 C4
  go_wp2_with fail
  refine HM.out.mono ?_
  rintro _ w2 ⟨rfl, h2, o2⟩
  have o2 := o0.out.trans o2
  have HG2 := HG _ h2
  clear HM HG h2 o0 c14 c4
  go_wp2_with fail
  refine HG2.out.mono ?_
  rintro _ w3 ⟨rfl, h3, o3⟩
  go_wp2
  exact bodyPost_end (results_none (by rfl) _ _ _) rfl ⟨rfl, h3, o2.trans o3⟩
set_option maxRecDepth 100000 in
set_option maxHeartbeats 2000000 in
theorem take_own_410 (b : Bool) (G : Nat → Prop) (g : Nat) (m : NM) (h : Hn) (Ax Ay : Option Addr) (nx ny cx cy : Nat) (w : World) (hm : NA b G w g m) (hst : m.st = 4) (hs : m.sl = m.i) (hb : b = true) (hsy : m.me.sy = false) (hg : NG m) :
    Calls Tryz.prog 36 #[.pointer (some ⟨g, 0, none⟩), hdV h (.slice Ax nx cx) (.slice Ay ny cy)] w fun e w' => e = .returned (.tuple #[]) ∧ NA false G w' g m.goOn ∧ Only g w w' := by
  have hb0 := (Below.refl w.heap.size w).alloc (Nat.le_refl _) (.cells #[.int .i64 h.a, .int .i64 h.b, .slice Ax nx cx, .slice Ay ny cy, .int .i64 h.o] 39)
  have h1 := hm.below hb0
  have hX := Blk.new w w.heap.size rfl #[.int .i64 h.a, .int .i64 h.b, .slice Ax nx cx, .slice Ay ny cy, .int .i64 h.o] 39
  have hgl := hm.lt
  have c10 := h1.c10
  rw [hst] at c10
  have c12 := h1.c12
  have c8 := h1.c8
  have c14 := h1.c14
  have c4 := h1.c4
  rw [hb] at c14
  rw [hs] at c12
  rw [hsy] at c4
  have HG := fun n => Lib.hid (goOn_nd b G g m _ (h1.drewN n) hg)
  have C14 := fun n => (below_drewN (Below.refl _ (w.alloc (.cells #[.int .i64 h.a, .int .i64 h.b, .slice Ax nx cx, .slice Ay ny cy, .int .i64 h.o] 39))) n).cell (p := ⟨g, 14, none⟩) h1.lt |>.trans c14
  have C4 := fun n => (below_drewN (Below.refl _ (w.alloc (.cells #[.int .i64 h.a, .int .i64 h.b, .slice Ax nx cx, .slice Ay ny cy, .int .i64 h.o] 39))) n).cell (p := ⟨g, 4, none⟩) h1.lt |>.trans c4
  have o0 := fun n => Lib.hid ((only_of_below g hb0).trans (only_of_below g (below_drewN (Below.refl _ (w.alloc (.cells #[.int .i64 h.a, .int .i64 h.b, .slice Ax nx cx, .slice Ay ny cy, .int .i64 h.o] 39))) n)))
  unfold hdV
  clear h1 hm hst hX hs hb hsy hg c14 c4 hb0
  generalize ((m.i : Nat) : Int) = z at *
  go_enter Tryz.func36, Tryz.ntmps36
  go_wp2_with fail
  go_quiet (fail)
  have c14 := C14 nq
  have c4 := C4 nq
  have o0 := o0 nq
  have HG2 := HG nq
  have o2 := o0.out
  clear C14 C4 HG o0
  go_wp2_with fail
  refine HG2.out.mono ?_
  rintro _ w3 ⟨rfl, h3, o3⟩
  go_wp2
  exact bodyPost_end (results_none (by rfl) _ _ _) rfl ⟨rfl, h3, o2.trans o3⟩
set_option maxRecDepth 100000 in
set_option maxHeartbeats 2000000 in
theorem take_own_40 (b : Bool) (G : Nat → Prop) (g : Nat) (m : NM) (h : Hn) (Ax Ay : Option Addr) (nx ny cx cy : Nat) (w : World) (hm : NA b G w g m) (hst : m.st = 4) (hs : m.sl = m.i) (hb : b = false) (hg : NG m) :
    Calls Tryz.prog 36 #[.pointer (some ⟨g, 0, none⟩), hdV h (.slice Ax nx cx) (.slice Ay ny cy)] w fun e w' => e = .returned (.tuple #[]) ∧ NA false G w' g m.goOn ∧ Only g w w' := by
  have hb0 := (Below.refl w.heap.size w).alloc (Nat.le_refl _) (.cells #[.int .i64 h.a, .int .i64 h.b, .slice Ax nx cx, .slice Ay ny cy, .int .i64 h.o] 39)
  have h1 := hm.below hb0
  have hX := Blk.new w w.heap.size rfl #[.int .i64 h.a, .int .i64 h.b, .slice Ax nx cx, .slice Ay ny cy, .int .i64 h.o] 39
  have hgl := hm.lt
  have c10 := h1.c10
  rw [hst] at c10
  have c12 := h1.c12
  have c8 := h1.c8
  have c14 := h1.c14
  have c4 := h1.c4
  rw [hb] at c14
  rw [hs] at c12
  have HG := fun n => Lib.hid (goOn_nd b G g m _ (h1.drewN n) hg)
  have C14 := fun n => (below_drewN (Below.refl _ (w.alloc (.cells #[.int .i64 h.a, .int .i64 h.b, .slice Ax nx cx, .slice Ay ny cy, .int .i64 h.o] 39))) n).cell (p := ⟨g, 14, none⟩) h1.lt |>.trans c14
  have C4 := fun n => (below_drewN (Below.refl _ (w.alloc (.cells #[.int .i64 h.a, .int .i64 h.b, .slice Ax nx cx, .slice Ay ny cy, .int .i64 h.o] 39))) n).cell (p := ⟨g, 4, none⟩) h1.lt |>.trans c4
  have o0 := fun n => Lib.hid ((only_of_below g hb0).trans (only_of_below g (below_drewN (Below.refl _ (w.alloc (.cells #[.int .i64 h.a, .int .i64 h.b, .slice Ax nx cx, .slice Ay ny cy, .int .i64 h.o] 39))) n)))
  unfold hdV
  clear h1 hm hst hX hs hb hg c14 c4 hb0
  generalize ((m.i : Nat) : Int) = z at *
  go_enter Tryz.func36, Tryz.ntmps36
  go_wp2_with fail
  go_quiet (fail)
  have c14 := C14 nq
  have c4 := C4 nq
  have o0 := o0 nq
  have HG2 := HG nq
  have o2 := o0.out
  clear C14 C4 HG o0
  go_wp2_with fail
  refine HG2.out.mono ?_
  rintro _ w3 ⟨rfl, h3, o3⟩
  go_wp2
  exact bodyPost_end (results_none (by rfl) _ _ _) rfl ⟨rfl, h3, o2.trans o3⟩
set_option maxRecDepth 100000 in
set_option maxHeartbeats 2000000 in
theorem take_other_4 (b : Bool) (G : Nat → Prop) (g : Nat) (m : NM) (h : Hn) (Ax Ay : Option Addr) (nx ny cx cy : Nat) (m2 : NM) (w : World) (hm : NA b G w g m) (hst : m.st = 4) (hs : m.sl ≠ m.i) (HJ : ∀ W, Below w.heap.size w W → Calls Tryz.prog 81 #[.pointer (some ⟨g, 0, none⟩), hdV h (.slice Ax nx cx) (.slice Ay ny cy)] W fun e w' => e = .returned (.tuple #[]) ∧ NA b G w' g m2 ∧ Only g W w') (hg : NG m2) :
    Calls Tryz.prog 36 #[.pointer (some ⟨g, 0, none⟩), hdV h (.slice Ax nx cx) (.slice Ay ny cy)] w fun e w' => e = .returned (.tuple #[]) ∧ NA false G w' g m2.goOn ∧ Only g w w' := by
  have hb0 := (Below.refl w.heap.size w).alloc (Nat.le_refl _) (.cells #[.int .i64 h.a, .int .i64 h.b, .slice Ax nx cx, .slice Ay ny cy, .int .i64 h.o] 39)
  have h1 := hm.below hb0
  have hX := Blk.new w w.heap.size rfl #[.int .i64 h.a, .int .i64 h.b, .slice Ax nx cx, .slice Ay ny cy, .int .i64 h.o] 39
  have hgl := hm.lt
  have c10 := h1.c10
  rw [hst] at c10
  have c12 := h1.c12
  have c8 := h1.c8
  have q : (((m.sl : Nat) : Int) == ((m.i : Nat) : Int)) = false := by rw [beq_eq_false_iff_ne]; omega
  have HG := fun W (hW : NA b G W g m2) => Lib.hid (goOn_nd b G g _ W hW hg)
  have B0 := fun n => below_drewN hb0 n
  have HJ1 := fun n => Lib.hid (HJ _ (B0 n))
  have X0 := fun n => hX.drewN n
  unfold hdV at HJ1 ⊢
  clear h1 hm hst hX hs hg HJ hb0
  generalize ((m.sl : Nat) : Int) = y at *
  generalize ((m.i : Nat) : Int) = z at *
  go_enter Tryz.func36, Tryz.ntmps36
  go_wp2_with fail
  go_quiet (fail)
  have hX := X0 nq
  have x0 := hX.cell 0 (x := .int .i64 h.a) rfl
  have x1 := hX.cell 1 (x := .int .i64 h.b) rfl
  have x2 := hX.cell 2 (x := .slice Ax nx cx) rfl
  have x3 := hX.cell 3 (x := .slice Ay ny cy) rfl
  have x4 := hX.cell 4 (x := .int .i64 h.o) rfl
  have HJ2 := HJ1 nq
  have b1 := B0 nq
  clear X0 HJ1 B0 hX
  go_wp2_with fail
  refine HJ2.out.mono ?_
  rintro _ w2 ⟨rfl, h2, o2⟩
  have o2 := (only_of_below g b1).trans o2
  have HG2 := HG _ h2
  clear HJ2 HG h2 x0 x1 x2 x3 x4
  go_wp2_with fail
  refine HG2.out.mono ?_
  rintro _ w3 ⟨rfl, h3, o3⟩
  go_wp2
  exact bodyPost_end (results_none (by rfl) _ _ _) rfl ⟨rfl, h3, o2.trans o3⟩
end Go.Proofs.YtpdenmcacaajkaaGreat
