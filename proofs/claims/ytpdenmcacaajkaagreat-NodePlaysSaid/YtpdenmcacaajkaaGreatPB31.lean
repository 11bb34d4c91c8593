/- Texts NdO in one. For what each says in front of its theorems. -/
import Derived.Test.YtpdenmcacaajkaaGreatPB30
/-! ### NdO -/
namespace Go.Proofs.YtpdenmcacaajkaaGreat
open Go.RowKit
open Tb (D T)

set_option maxRecDepth 100000 in
set_option maxHeartbeats 4000000 in
theorem newN_1 (t : Tb.T) (v u : Value) (i dr : Int) (l : List R4) (w : World) (hv : SeesT w w.heap.size v t.ns) (hu : SeesRs w w.heap.size u l) (h : ¬ rulesOk l) :
    Calls Tryz.prog 5 #[tabV t v, .int .i64 i, .int .i64 dr, u] w fun e w' => e = .returned (.tuple #[.pointer none, .int .i64 1]) ∧ Below w.heap.size w w' := by
  obtain ⟨A, c, rfl, n1, n2, -, -⟩ := hv.at_
  obtain ⟨Ar, cr, rfl, r1, r2, -, -⟩ := hu.at_
  have hb0 := (Below.refl w.heap.size w).alloc (Nat.le_refl _) (.cells #[.slice A t.ns.length c, .int .i64 t.dr, .int .i64 t.wi, .int .i64 t.lm] 29)
  have hX := Blk.new w w.heap.size rfl #[.slice A t.ns.length c, .int .i64 t.dr, .int .i64 t.wi, .int .i64 t.lm] 29
  have hu1 := (hu.below hb0).more hb0.size
  have hI := fun W (hW : Below w.heap.size w W) => Lib.hid (is_tb t (.slice A t.ns.length c) W W.heap.size (Nat.le_refl _) ((hv.below hW).more hW.size))
  have hN := Lib.hid (new_bad l _ _ _ hu1 (Nat.le_refl _) h)
  unfold tabV
  clear hX hu1 hI hv hu h
  go_enter Tryz.func5, Tryz.ntmps5
  go_wp2_with fail
  refine hN.out.mono ?_
  rintro _ w2 ⟨rfl, b2⟩
  have b2 := hb0.trans (b2.mono hb0.size)
  go_wp2
  go_ret2
  exact ⟨rfl, b2⟩
set_option maxRecDepth 100000 in
set_option maxHeartbeats 4000000 in
theorem newN_2 (t : Tb.T) (v u : Value) (i dr : Int) (l : List R4) (w : World) (hv : SeesT w w.heap.size v t.ns) (hu : SeesRs w w.heap.size u l) (h : rulesOk l) (ht : ¬ t.is = true) :
    Calls Tryz.prog 5 #[tabV t v, .int .i64 i, .int .i64 dr, u] w fun e w' => e = .returned (.tuple #[.pointer none, .int .i64 1]) ∧ Below w.heap.size w w' := by
  obtain ⟨A, c, rfl, n1, n2, -, -⟩ := hv.at_
  obtain ⟨Ar, cr, rfl, r1, r2, -, -⟩ := hu.at_
  have hb0 := (Below.refl w.heap.size w).alloc (Nat.le_refl _) (.cells #[.slice A t.ns.length c, .int .i64 t.dr, .int .i64 t.wi, .int .i64 t.lm] 29)
  have hX := Blk.new w w.heap.size rfl #[.slice A t.ns.length c, .int .i64 t.dr, .int .i64 t.wi, .int .i64 t.lm] 29
  have hu1 := (hu.below hb0).more hb0.size
  have hI := fun W (hW : Below w.heap.size w W) => Lib.hid (is_tb t (.slice A t.ns.length c) W W.heap.size (Nat.le_refl _) ((hv.below hW).more hW.size))
  have hN := Lib.hid (new_al l _ _ _ hu1 (Nat.le_refl _) h.1 h.2)
  rw [show t.is = false by simpa using ht] at hI
  unfold tabV at *
  clear hu1 hv hu h
  go_enter Tryz.func5, Tryz.ntmps5
  go_wp2_with fail
  refine hN.out.mono ?_
  rintro _ w2 ⟨ga, rfl, -, -, b2⟩
  have hX2 := hX.below b2 (by simp)
  have b2 := hb0.trans (b2.mono hb0.size)
  have x0 := hX2.cell 0 (x := .slice A t.ns.length c) rfl
  have x1 := hX2.cell 1 (x := .int .i64 t.dr) rfl
  have x2 := hX2.cell 2 (x := .int .i64 t.wi) rfl
  have x3 := hX2.cell 3 (x := .int .i64 t.lm) rfl
  have hI := hI w2 b2
  clear hX hb0
  go_wp2_with fail
  refine hI.out.mono ?_
  rintro _ w3 ⟨rfl, b3⟩
  have hX3 := hX2.below b3 hX2.lt
  have b3 := b2.trans (b3.mono b2.size)
  clear x0 x1 x2 x3
  have x0 := hX3.cell 0 (x := .slice A t.ns.length c) rfl
  have x1 := hX3.cell 1 (x := .int .i64 t.dr) rfl
  have x2 := hX3.cell 2 (x := .int .i64 t.wi) rfl
  have x3 := hX3.cell 3 (x := .int .i64 t.lm) rfl
  go_wp2
  go_ret2
  exact ⟨rfl, b3⟩
set_option maxRecDepth 100000 in
set_option maxHeartbeats 4000000 in
theorem newN_3 (t : Tb.T) (v u : Value) (i dr : Int) (l : List R4) (w : World) (hv : SeesT w w.heap.size v t.ns) (hu : SeesRs w w.heap.size u l) (h : rulesOk l) (ht : t.is = true) (hi : i < 0) :
    Calls Tryz.prog 5 #[tabV t v, .int .i64 i, .int .i64 dr, u] w fun e w' => e = .returned (.tuple #[.pointer none, .int .i64 1]) ∧ Below w.heap.size w w' := by
  obtain ⟨A, c, rfl, n1, n2, -, -⟩ := hv.at_
  obtain ⟨Ar, cr, rfl, r1, r2, -, -⟩ := hu.at_
  have hb0 := (Below.refl w.heap.size w).alloc (Nat.le_refl _) (.cells #[.slice A t.ns.length c, .int .i64 t.dr, .int .i64 t.wi, .int .i64 t.lm] 29)
  have hX := Blk.new w w.heap.size rfl #[.slice A t.ns.length c, .int .i64 t.dr, .int .i64 t.wi, .int .i64 t.lm] 29
  have hu1 := (hu.below hb0).more hb0.size
  have hI := fun W (hW : Below w.heap.size w W) => Lib.hid (is_tb t (.slice A t.ns.length c) W W.heap.size (Nat.le_refl _) ((hv.below hW).more hW.size))
  have hN := Lib.hid (new_al l _ _ _ hu1 (Nat.le_refl _) h.1 h.2)
  have tm := Tb.T.may ht
  have n8 := tm.n8
  have d1 := tm.dr.1
  have d2 := tm.dr.2
  rw [ht] at hI
  unfold tabV at *
  clear hu1 hv hu h
  go_enter Tryz.func5, Tryz.ntmps5
  go_wp2_with fail
  refine hN.out.mono ?_
  rintro _ w2 ⟨ga, rfl, -, -, b2⟩
  have hX2 := hX.below b2 (by simp)
  have b2 := hb0.trans (b2.mono hb0.size)
  have x0 := hX2.cell 0 (x := .slice A t.ns.length c) rfl
  have x1 := hX2.cell 1 (x := .int .i64 t.dr) rfl
  have x2 := hX2.cell 2 (x := .int .i64 t.wi) rfl
  have x3 := hX2.cell 3 (x := .int .i64 t.lm) rfl
  have hI := hI w2 b2
  clear hX hb0
  go_wp2_with fail
  refine hI.out.mono ?_
  rintro _ w3 ⟨rfl, b3⟩
  have hX3 := hX2.below b3 hX2.lt
  have b3 := b2.trans (b3.mono b2.size)
  clear x0 x1 x2 x3
  have x0 := hX3.cell 0 (x := .slice A t.ns.length c) rfl
  have x1 := hX3.cell 1 (x := .int .i64 t.dr) rfl
  have x2 := hX3.cell 2 (x := .int .i64 t.wi) rfl
  have x3 := hX3.cell 3 (x := .int .i64 t.lm) rfl
  go_wp2
  go_ret2
  exact ⟨rfl, b3⟩
set_option maxRecDepth 100000 in
set_option maxHeartbeats 4000000 in
theorem newN_4 (t : Tb.T) (v u : Value) (i dr : Int) (l : List R4) (w : World) (hv : SeesT w w.heap.size v t.ns) (hu : SeesRs w w.heap.size u l) (h : rulesOk l) (ht : t.is = true) (hi : 0 ≤ i) (hj : (t.ns.length : Int) ≤ i) :
    Calls Tryz.prog 5 #[tabV t v, .int .i64 i, .int .i64 dr, u] w fun e w' => e = .returned (.tuple #[.pointer none, .int .i64 1]) ∧ Below w.heap.size w w' := by
  obtain ⟨A, c, rfl, n1, n2, -, -⟩ := hv.at_
  obtain ⟨Ar, cr, rfl, r1, r2, -, -⟩ := hu.at_
  have hb0 := (Below.refl w.heap.size w).alloc (Nat.le_refl _) (.cells #[.slice A t.ns.length c, .int .i64 t.dr, .int .i64 t.wi, .int .i64 t.lm] 29)
  have hX := Blk.new w w.heap.size rfl #[.slice A t.ns.length c, .int .i64 t.dr, .int .i64 t.wi, .int .i64 t.lm] 29
  have hu1 := (hu.below hb0).more hb0.size
  have hI := fun W (hW : Below w.heap.size w W) => Lib.hid (is_tb t (.slice A t.ns.length c) W W.heap.size (Nat.le_refl _) ((hv.below hW).more hW.size))
  have hN := Lib.hid (new_al l _ _ _ hu1 (Nat.le_refl _) h.1 h.2)
  have tm := Tb.T.may ht
  have n8 := tm.n8
  have d1 := tm.dr.1
  have d2 := tm.dr.2
  rw [ht] at hI
  unfold tabV at *
  clear hu1 hv hu h
  go_enter Tryz.func5, Tryz.ntmps5
  go_wp2_with fail
  refine hN.out.mono ?_
  rintro _ w2 ⟨ga, rfl, -, -, b2⟩
  have hX2 := hX.below b2 (by simp)
  have b2 := hb0.trans (b2.mono hb0.size)
  have x0 := hX2.cell 0 (x := .slice A t.ns.length c) rfl
  have x1 := hX2.cell 1 (x := .int .i64 t.dr) rfl
  have x2 := hX2.cell 2 (x := .int .i64 t.wi) rfl
  have x3 := hX2.cell 3 (x := .int .i64 t.lm) rfl
  have hI := hI w2 b2
  clear hX hb0
  go_wp2_with fail
  refine hI.out.mono ?_
  rintro _ w3 ⟨rfl, b3⟩
  have hX3 := hX2.below b3 hX2.lt
  have b3 := b2.trans (b3.mono b2.size)
  clear x0 x1 x2 x3
  have x0 := hX3.cell 0 (x := .slice A t.ns.length c) rfl
  have x1 := hX3.cell 1 (x := .int .i64 t.dr) rfl
  have x2 := hX3.cell 2 (x := .int .i64 t.wi) rfl
  have x3 := hX3.cell 3 (x := .int .i64 t.lm) rfl
  go_wp2
  go_ret2
  exact ⟨rfl, b3⟩
set_option maxRecDepth 100000 in
set_option maxHeartbeats 4000000 in
theorem newN_5 (t : Tb.T) (v u : Value) (i dr : Int) (l : List R4) (w : World) (hv : SeesT w w.heap.size v t.ns) (hu : SeesRs w w.heap.size u l) (h : rulesOk l) (ht : t.is = true) (hi : 0 ≤ i) (hj : i < (t.ns.length : Int)) (hd : dr < -t.dr) :
    Calls Tryz.prog 5 #[tabV t v, .int .i64 i, .int .i64 dr, u] w fun e w' => e = .returned (.tuple #[.pointer none, .int .i64 1]) ∧ Below w.heap.size w w' := by
  obtain ⟨A, c, rfl, n1, n2, -, -⟩ := hv.at_
  obtain ⟨Ar, cr, rfl, r1, r2, -, -⟩ := hu.at_
  have hb0 := (Below.refl w.heap.size w).alloc (Nat.le_refl _) (.cells #[.slice A t.ns.length c, .int .i64 t.dr, .int .i64 t.wi, .int .i64 t.lm] 29)
  have hX := Blk.new w w.heap.size rfl #[.slice A t.ns.length c, .int .i64 t.dr, .int .i64 t.wi, .int .i64 t.lm] 29
  have hu1 := (hu.below hb0).more hb0.size
  have hI := fun W (hW : Below w.heap.size w W) => Lib.hid (is_tb t (.slice A t.ns.length c) W W.heap.size (Nat.le_refl _) ((hv.below hW).more hW.size))
  have hN := Lib.hid (new_al l _ _ _ hu1 (Nat.le_refl _) h.1 h.2)
  have tm := Tb.T.may ht
  have n8 := tm.n8
  have d1 := tm.dr.1
  have d2 := tm.dr.2
  rw [ht] at hI
  unfold tabV at *
  clear hu1 hv hu h
  go_enter Tryz.func5, Tryz.ntmps5
  go_wp2_with fail
  refine hN.out.mono ?_
  rintro _ w2 ⟨ga, rfl, -, -, b2⟩
  have hX2 := hX.below b2 (by simp)
  have b2 := hb0.trans (b2.mono hb0.size)
  have x0 := hX2.cell 0 (x := .slice A t.ns.length c) rfl
  have x1 := hX2.cell 1 (x := .int .i64 t.dr) rfl
  have x2 := hX2.cell 2 (x := .int .i64 t.wi) rfl
  have x3 := hX2.cell 3 (x := .int .i64 t.lm) rfl
  have hI := hI w2 b2
  clear hX hb0
  go_wp2_with fail
  refine hI.out.mono ?_
  rintro _ w3 ⟨rfl, b3⟩
  have hX3 := hX2.below b3 hX2.lt
  have b3 := b2.trans (b3.mono b2.size)
  clear x0 x1 x2 x3
  have x0 := hX3.cell 0 (x := .slice A t.ns.length c) rfl
  have x1 := hX3.cell 1 (x := .int .i64 t.dr) rfl
  have x2 := hX3.cell 2 (x := .int .i64 t.wi) rfl
  have x3 := hX3.cell 3 (x := .int .i64 t.lm) rfl
  go_wp2
  go_ret2
  exact ⟨rfl, b3⟩
set_option maxRecDepth 100000 in
set_option maxHeartbeats 4000000 in
theorem newN_6 (t : Tb.T) (v u : Value) (i dr : Int) (l : List R4) (w : World) (hv : SeesT w w.heap.size v t.ns) (hu : SeesRs w w.heap.size u l) (h : rulesOk l) (ht : t.is = true) (hi : 0 ≤ i) (hj : i < (t.ns.length : Int)) (hd : -t.dr ≤ dr) (he : t.dr < dr) :
    Calls Tryz.prog 5 #[tabV t v, .int .i64 i, .int .i64 dr, u] w fun e w' => e = .returned (.tuple #[.pointer none, .int .i64 1]) ∧ Below w.heap.size w w' := by
  obtain ⟨A, c, rfl, n1, n2, -, -⟩ := hv.at_
  obtain ⟨Ar, cr, rfl, r1, r2, -, -⟩ := hu.at_
  have hb0 := (Below.refl w.heap.size w).alloc (Nat.le_refl _) (.cells #[.slice A t.ns.length c, .int .i64 t.dr, .int .i64 t.wi, .int .i64 t.lm] 29)
  have hX := Blk.new w w.heap.size rfl #[.slice A t.ns.length c, .int .i64 t.dr, .int .i64 t.wi, .int .i64 t.lm] 29
  have hu1 := (hu.below hb0).more hb0.size
  have hI := fun W (hW : Below w.heap.size w W) => Lib.hid (is_tb t (.slice A t.ns.length c) W W.heap.size (Nat.le_refl _) ((hv.below hW).more hW.size))
  have hN := Lib.hid (new_al l _ _ _ hu1 (Nat.le_refl _) h.1 h.2)
  have tm := Tb.T.may ht
  have n8 := tm.n8
  have d1 := tm.dr.1
  have d2 := tm.dr.2
  rw [ht] at hI
  unfold tabV at *
  clear hu1 hv hu h
  go_enter Tryz.func5, Tryz.ntmps5
  go_wp2_with fail
  refine hN.out.mono ?_
  rintro _ w2 ⟨ga, rfl, -, -, b2⟩
  have hX2 := hX.below b2 (by simp)
  have b2 := hb0.trans (b2.mono hb0.size)
  have x0 := hX2.cell 0 (x := .slice A t.ns.length c) rfl
  have x1 := hX2.cell 1 (x := .int .i64 t.dr) rfl
  have x2 := hX2.cell 2 (x := .int .i64 t.wi) rfl
  have x3 := hX2.cell 3 (x := .int .i64 t.lm) rfl
  have hI := hI w2 b2
  clear hX hb0
  go_wp2_with fail
  refine hI.out.mono ?_
  rintro _ w3 ⟨rfl, b3⟩
  have hX3 := hX2.below b3 hX2.lt
  have b3 := b2.trans (b3.mono b2.size)
  clear x0 x1 x2 x3
  have x0 := hX3.cell 0 (x := .slice A t.ns.length c) rfl
  have x1 := hX3.cell 1 (x := .int .i64 t.dr) rfl
  have x2 := hX3.cell 2 (x := .int .i64 t.wi) rfl
  have x3 := hX3.cell 3 (x := .int .i64 t.lm) rfl
  go_wp2
  go_ret2
  exact ⟨rfl, b3⟩
theorem new_nd_no (t : Tb.T) (v u : Value) (i dr : Int) (l : List R4) (w : World) (hv : SeesT w w.heap.size v t.ns) (hu : SeesRs w w.heap.size u l) (h : ¬ NM.may t i dr l) :
    Calls Tryz.prog 5 #[tabV t v, .int .i64 i, .int .i64 dr, u] w fun e w' => e = .returned (.tuple #[.pointer none, .int .i64 1]) ∧ Below w.heap.size w w' := by
  by_cases h1 : rulesOk l
  case neg => exact newN_1 t v u i dr l w hv hu h1
  by_cases h2 : t.is = true
  case neg => exact newN_2 t v u i dr l w hv hu h1 h2
  by_cases h3 : 0 ≤ i
  case neg => exact newN_3 t v u i dr l w hv hu h1 h2 (by omega)
  by_cases h4 : i < t.ns.length
  case neg => exact newN_4 t v u i dr l w hv hu h1 h2 h3 (by omega)
  by_cases h5 : -t.dr ≤ dr
  case neg => exact newN_5 t v u i dr l w hv hu h1 h2 h3 h4 (by omega)
  by_cases h6 : dr ≤ t.dr
  case neg => exact newN_6 t v u i dr l w hv hu h1 h2 h3 h4 h5 (by omega)
  exact absurd ⟨h2, ⟨h3, h4⟩, ⟨h5, h6⟩, h1.1, h1.2⟩ h
def NewS (t : Tb.T) (dd : D) (i : Nat) (B bl off c4 ga : Nat) (AR : Option Addr) (n cR : Nat) (W : World) : Prop := W.cell? ⟨B, 0, none⟩ = some (.slice (some ⟨bl, off, none⟩) t.ns.length c4) ∧ W.cell? ⟨B, 1, none⟩ = some (.int .i64 t.dr) ∧ W.cell? ⟨B, 2, none⟩ = some (.int .i64 t.wi) ∧ W.cell? ⟨B, 3, none⟩ = some (.int .i64 t.lm) ∧ W.cell? ⟨bl, off + i * 4, none⟩ = some (.bool dd.sy) ∧ W.cell? ⟨bl, off + i * 4 + 1, none⟩ = some (.bool dd.inf) ∧ W.cell? ⟨bl, off + i * 4 + 2, none⟩ = some (.int .i64 dd.li) ∧ W.cell? ⟨bl, off + i * 4 + 3, none⟩ = some (.int .i64 dd.sz) ∧ W.cell? ⟨ga, 0, none⟩ = some (.slice AR n cR) ∧ W.cell? ⟨ga, 1, none⟩ = some (.int .i64 0) ∧ W.cell? ⟨ga, 2, none⟩ = some (.int .i64 0) ∧ W.cell? ⟨ga, 3, none⟩ = some (.int .i64 0) ∧ W.cell? ⟨ga, 4, none⟩ = some (.int .i64 0) ∧ W.cell? ⟨ga, 5, none⟩ = some (.int .i64 0) ∧ W.cell? ⟨ga, 6, none⟩ = some (.int .i64 0) ∧ W.cell? ⟨ga, 7, none⟩ = some (.int .i64 0) ∧ W.cell? ⟨ga, 8, none⟩ = some (.int .i64 0) ∧ W.cell? ⟨ga, 9, none⟩ = some (.int .i64 0) ∧ W.cell? ⟨ga, 10, none⟩ = some (.int .i64 0) ∧ W.cell? ⟨ga, 11, none⟩ = some (.int .i64 0) ∧ W.cell? ⟨ga, 12, none⟩ = some (.int .i64 0) ∧ W.cell? ⟨ga, 13, none⟩ = some (.int .i64 0) ∧ W.cell? ⟨ga, 14, none⟩ = some (.int .i64 0) ∧ W.cell? ⟨ga, 15, none⟩ = some (.int .i64 0) ∧ W.cell? ⟨ga, 16, none⟩ = some (.int .i64 0)
def NewS2 (g : Nat) (m : Int) (S : World → Prop) (W : World) : Prop := S W ∧ (W.cell? ⟨g, 0, none⟩ = some (.int .i64 m) ∧ W.cell? ⟨g, 1, none⟩ = some (.int .i64 0) ∧ W.cell? ⟨g, 2, none⟩ = some (.int .i64 0) ∧ W.cell? ⟨g, 3, none⟩ = some (.int .i64 0) ∧ W.cell? ⟨g, 4, none⟩ = some (.int .i64 0) ∧ W.cell? ⟨g, 5, none⟩ = some (.int .i64 0))
theorem wpAnyH_weaken {P : Program} {md : Region.Mode} {ops : Array Oper} {Q : Exit → Act → World → Prop} {S S' : World → Prop} (h : ∀ w, S' w → S w) : ∀ (fuel : Nat) (listed : Array Bool) (a : Act) (w : World), wpAnyH P md ops Q S' fuel listed a w → wpAnyH P md ops Q S fuel listed a w
  | 0, _, _, _, h' => h'
  | fuel + 1, _, _, _, h' => ⟨h'.1, fun i hi => wpOp_mono (fun a' w' h'' => ⟨h _ h''.1, wpAnyH_weaken h fuel _ a' w' h''.2⟩) (h'.2 i hi)⟩
def NM.new0 (t : Tb.T) (i : Nat) (dr : Int) (l : List R4) : NM := ⟨t, i, dr, l, 0, 0, 0, ⟨0, 0, 0⟩, 0, [], ⟨fun _ => [], fun _ => 0, fun _ => false⟩, fun _ => 0, fun _ => 0, [], 0, false⟩
set_option maxRecDepth 100000 in
set_option maxHeartbeats 4000000 in
theorem newN_ok (t : Tb.T) (v u : Value) (i dr : Int) (l : List R4) (w : World) (hv : SeesT w w.heap.size v t.ns) (hu : SeesRs w w.heap.size u l) (h : rulesOk l) (ht : t.is = true) (hi : 0 ≤ i) (hj : i < (t.ns.length : Int)) (hd : -t.dr ≤ dr) (he : dr ≤ t.dr) :
    Calls Tryz.prog 5 #[tabV t v, .int .i64 i, .int .i64 dr, u] w fun e w' => ∃ g, e = .returned (.tuple #[.pointer (some ⟨g, 0, none⟩), .int .i64 0]) ∧ w.heap.size ≤ g ∧ NA false (fun x => w.heap.size ≤ x) w' g (NM.new t i.toNat dr l) ∧ Below w.heap.size w w' := by
  obtain ⟨A, c, rfl, n1, n2, -, -⟩ := hv.at_
  obtain ⟨Ar, cr, rfl, r1, r2, -, -⟩ := hu.at_
  have hb0 := (Below.refl w.heap.size w).alloc (Nat.le_refl _) (.cells #[.slice A t.ns.length c, .int .i64 t.dr, .int .i64 t.wi, .int .i64 t.lm] 29)
  have hX := Blk.new w w.heap.size rfl #[.slice A t.ns.length c, .int .i64 t.dr, .int .i64 t.wi, .int .i64 t.lm] 29
  have hu1 := (hu.below hb0).more hb0.size
  have hI := fun W (hW : Below w.heap.size w W) => Lib.hid (is_tb t (.slice A t.ns.length c) W W.heap.size (Nat.le_refl _) ((hv.below hW).more hW.size))
  have hN := Lib.hid (new_al l _ _ _ hu1 (Nat.le_refl _) h.1 h.2)
  have tm := Tb.T.may ht
  have n8 := tm.n8
  have d1 := tm.dr.1
  have d2 := tm.dr.2
  rw [ht] at hI
  obtain ⟨i, rfl⟩ : ∃ n : Nat, i = n := ⟨i.toNat, by omega⟩
  rw [Int.toNat_natCast]
  have hvt := Lib.hid hv
  have h8 := h.1
  unfold tabV at *
  clear hu1 hu h
  go_enter Tryz.func5, Tryz.ntmps5
  go_wp2_with fail
  refine hN.out.mono ?_
  rintro _ w2 ⟨ga, rfl, hga, hAA, b2⟩
  have hX2 := hX.below b2 (by simp)
  have hAA2 := hAA (ga :: List.range (w.heap.size + 1)) (fun f hf => by
    rcases List.mem_cons.1 hf with rfl | hf
    · exact .inr rfl
    · exact .inl (by have := List.mem_range.1 hf; simp; omega))
  have b2 := hb0.trans (b2.mono hb0.size)
  have x0 := hX2.cell 0 (x := .slice A t.ns.length c) rfl
  have x1 := hX2.cell 1 (x := .int .i64 t.dr) rfl
  have x2 := hX2.cell 2 (x := .int .i64 t.wi) rfl
  have x3 := hX2.cell 3 (x := .int .i64 t.lm) rfl
  have hI := hI w2 b2
  clear hX hb0 hAA hv
  go_wp2_with fail
  refine hI.out.mono ?_
  rintro _ w3 ⟨rfl, b3⟩
  have hX3 := hX2.below b3 hX2.lt
  have hAA3 := hAA2.below b3
  have b3 := b2.trans (b3.mono b2.size)
  have h3l := hX3.lt
  have hT3 := Lib.hid (clone_d t.ns _ w3 w.heap.size (hvt.out.below b3) (by omega))
  clear x0 x1 x2 x3 hX2 hAA2 b2 hI hN
  have x0 := hX3.cell 0 (x := .slice A t.ns.length c) rfl
  have x1 := hX3.cell 1 (x := .int .i64 t.dr) rfl
  have x2 := hX3.cell 2 (x := .int .i64 t.wi) rfl
  have x3 := hX3.cell 3 (x := .int .i64 t.lm) rfl
  have f0 := hX3.frozen 0
  go_wp2_with fail
  refine hT3.out.mono ?_
  rintro _ w4 ⟨v4, rfl, ho4, b4⟩
  have hX4 := hX3.below b4 hX3.lt
  have hAA4 := hAA3.below b4
  have b4 := b3.trans (b4.mono b3.size)
  clear x0 x1 x2 x3 f0 hX3 hAA3 hT3
  obtain ⟨A4, c4, rfl, -⟩ := ho4.sees.at_
  have hne : ga ≠ w.heap.size := by simp at hga; omega
  have hk5 : Only w.heap.size w4 (w4.setCell ⟨w.heap.size, 0, none⟩ (.slice A4 t.ns.length c4)) := (Only.refl _ w4).set 0 _
  have hX5 := (hX4.set 0 (.slice A4 t.ns.length c4)).eq (cs' := #[.slice A4 t.ns.length c4, .int .i64 t.dr, .int .i64 t.wi, .int .i64 t.lm]) (by simp)
  have hAA5 := hAA4.only hk5 hne (by simp)
  have b3s := b3.size
  have hT5 := ho4.sees.keepF (g := w.heap.size) (fun _ e => by have := (ho4.lt_ _ e).1; have := hX4.lt; omega) (hk5.kp (by simp))
  have hTl := fun j e => (ho4.lt_ j e).1
  have b5 := b4.setCell (p := ⟨w.heap.size, 0, none⟩) (Nat.le_refl _) (.slice A4 t.ns.length c4)
  have x0 := hX4.cell 0 (x := .slice A t.ns.length c) rfl
  have f0 := hX4.frozen 0
  go_wp2_with fail
  generalize w4.setCell ⟨w.heap.size, 0, none⟩ (.slice A4 t.ns.length c4) = w5 at *
  clear x0 f0 hX4 hAA4 ho4 hk5
  obtain ⟨AR, cR, a0, hR5⟩ := hAA5.cs
  obtain ⟨A', c', e, u1, u2, hSD, -⟩ := hT5.at_
  cases e
  obtain ⟨bl, off, rfl, hbl, hAt⟩ := hSD (by omega)
  have hD := hAt i (by omega)
  obtain ⟨dd, hdd⟩ : ∃ d, t.ns.getD i default = d := ⟨_, rfl⟩
  rw [hdd] at hD
  have HDD := Lib.hid hdd
  clear hdd
  have HS : ∀ W, Below w5.heap.size w5 W → Hid (NewS t dd i w.heap.size bl off c4 ga AR l.length cR W) := fun W hW => Lib.hid (by
    have hX := hX5.below hW hX5.lt
    have hA := hAA5.below hW
    have hD : AtD W bl (off + i * 4) dd := hD.keep fun o => hW.cell (p := ⟨bl, o, none⟩) hbl
    exact ⟨hX.cell 0 rfl, hX.cell 1 rfl, hX.cell 2 rfl, hX.cell 3 rfl, hD.c0, hD.c1, hD.c2, hD.c3, (hW.cell (p := ⟨ga, 0, none⟩) hAA5.lt).trans a0, hA.cn (i := 0) (by omega), hA.cn (i := 1) (by omega), hA.cn (i := 2) (by omega), hA.cn (i := 3) (by omega), hA.cn (i := 4) (by omega), hA.cn (i := 5) (by omega), hA.cn (i := 6) (by omega), hA.cn (i := 7) (by omega), hA.cr (i := 0) (by omega), hA.cr (i := 1) (by omega), hA.cr (i := 2) (by omega), hA.cr (i := 3) (by omega), hA.cr (i := 4) (by omega), hA.cr (i := 5) (by omega), hA.cr (i := 6) (by omega), hA.cr (i := 7) (by omega)⟩)
  have hb1 := Below.refl w5.heap.size w5
  have HCl := fun W => Lib.hid (new_cl t.lm W)
  have hi0 : (0 : Int) ≤ (i : Nat) := by omega
  have hil : ((i : Nat) : Int) < ((t.ns.length : Nat) : Int) := by omega
  have hn8 : ((t.ns.length : Nat) : Int) ≤ 8 := by omega
  have hk := Lib.hid (And.intro hAA5 (And.intro hT5 b5))
  clear hX5 hAA5 hT5 hAt hD hSD u1 u2 hR5
  refine wp_region_held_drew (S := NewS t dd i w.heap.size bl off c4 ga AR l.length cR) (by kernel_rfl) (HS _ hb1.drew).out (fun hHeld => ?_)
  refine wpAnyH_take (i := 0) (v := ?_) rfl (by kernel_rfl) (by kernel_rfl) (by kernel_rfl) (fun _ _ _ h => h) (Or.inl ⟨by rfl, ?_⟩) (by assumption) ?_
  rotate_left 1
  · (intro wz hSw; (try unfold NewS2 at hSw); unfold NewS at hSw; go_simp; try with_reducible rfl)
  try simp only [Act.put, List.setIfInBounds_toArray]
  refine wpAnyH_take (i := 1) (v := ?_) rfl (by kernel_rfl) (by kernel_rfl) (by kernel_rfl) (fun _ _ _ h => h) (Or.inl ⟨by rfl, ?_⟩) (by assumption) ?_
  rotate_left 1
  · (intro wz hSw; (try unfold NewS2 at hSw); unfold NewS at hSw; go_simp; try with_reducible rfl)
  try simp only [Act.put]
  refine wpAnyH_take (i := 2) (v := ?_) rfl (by kernel_rfl) (by kernel_rfl) (by kernel_rfl) (fun _ _ _ h => h) (Or.inl ⟨by rfl, ?_⟩) (by assumption) ?_
  rotate_left 1
  · (intro wz hSw; (try unfold NewS2 at hSw); unfold NewS at hSw; go_simp; try with_reducible rfl)
  try simp only [Act.put]
  refine wpAnyH_take (i := 3) (v := ?_) rfl (by kernel_rfl) (by kernel_rfl) (by kernel_rfl) (fun _ _ _ h => h) (Or.inl ⟨by rfl, ?_⟩) (by assumption) ?_
  rotate_left 1
  · (intro wz hSw; (try unfold NewS2 at hSw); unfold NewS at hSw; go_simp; try with_reducible rfl)
  try simp only [Act.put]
  refine wpAnyH_take (i := 4) (v := ?_) rfl (by kernel_rfl) (by kernel_rfl) (by kernel_rfl) (fun _ _ _ h => h) (Or.inl ⟨by rfl, ?_⟩) (by assumption) ?_
  rotate_left 1
  · (intro wz hSw; (try unfold NewS2 at hSw); unfold NewS at hSw; go_simp; try with_reducible rfl)
  try simp only [Act.put]
  refine wpAnyH_take (i := 5) (v := ?_) rfl (by kernel_rfl) (by kernel_rfl) (by kernel_rfl) (fun _ _ _ h => h) (Or.inl ⟨by rfl, ?_⟩) (by assumption) ?_
  rotate_left 1
  · (intro wz hSw; (try unfold NewS2 at hSw); unfold NewS at hSw; go_simp; try with_reducible rfl)
  try simp only [Act.put]
  refine wpAnyH_take (i := 6) (v := ?_) rfl (by kernel_rfl) (by kernel_rfl) (by kernel_rfl) (fun _ _ _ h => h) (Or.inl ⟨by rfl, ?_⟩) (by assumption) ?_
  rotate_left 1
  · (intro wz hSw; (try unfold NewS2 at hSw); unfold NewS at hSw; go_simp; try with_reducible rfl)
  try simp only [Act.put]
  refine wpAnyH_take (i := 7) (v := ?_) rfl (by kernel_rfl) (by kernel_rfl) (by kernel_rfl) (fun _ _ _ h => h) (Or.inl ⟨by rfl, ?_⟩) (by assumption) ?_
  rotate_left 1
  · (intro wz hSw; (try unfold NewS2 at hSw); unfold NewS at hSw; go_simp; try with_reducible rfl)
  try simp only [Act.put]
  refine wpAnyH_take (i := 8) (v := ?_) rfl (by kernel_rfl) (by kernel_rfl) (by kernel_rfl) (fun _ _ _ h => h) (Or.inl ⟨by rfl, ?_⟩) (by assumption) ?_
  rotate_left 1
  · (intro wz hSw; (try unfold NewS2 at hSw); unfold NewS at hSw; go_simp; try with_reducible rfl)
  try simp only [Act.put]
  refine wpAnyH_take (i := 9) (v := ?_) rfl (by kernel_rfl) (by kernel_rfl) (by kernel_rfl) (fun _ _ _ h => h) (Or.inl ⟨by rfl, ?_⟩) (by assumption) ?_
  rotate_left 1
  · (intro wz hSw; (try unfold NewS2 at hSw); unfold NewS at hSw; go_simp; try with_reducible rfl)
  try simp only [Act.put]
  refine wpAnyH_take (i := 13) (v := ?_) rfl (by kernel_rfl) (by kernel_rfl) (by kernel_rfl) (fun _ _ _ h => h) (Or.inl ⟨by rfl, ?_⟩) (by assumption) ?_
  rotate_left 1
  · (intro wz hSw; (try unfold NewS2 at hSw); unfold NewS at hSw; go_simp; try with_reducible rfl)
  try simp only [Act.put]
  refine wpAnyH_take (i := 14) (v := ?_) rfl (by kernel_rfl) (by kernel_rfl) (by kernel_rfl) (fun _ _ _ h => h) (Or.inl ⟨by rfl, ?_⟩) (by assumption) ?_
  rotate_left 1
  · (intro wz hSw; (try unfold NewS2 at hSw); unfold NewS at hSw; go_simp; try with_reducible rfl)
  try simp only [Act.put]
  refine wpAnyH_take (i := 15) (v := ?_) rfl (by kernel_rfl) (by kernel_rfl) (by kernel_rfl) (fun _ _ _ h => h) (Or.inl ⟨by rfl, ?_⟩) (by assumption) ?_
  rotate_left 1
  · (intro wz hSw; (try unfold NewS2 at hSw); unfold NewS at hSw; go_simp; try with_reducible rfl)
  try simp only [Act.put]
  refine wpAnyH_ready (rs := [10]) (by kernel_rfl) (by simp) ?_
  refine AllReadyH.cons rfl (fun K hK => ?_) AllReadyH.nil
  go_simp
  go_at_call 19
  refine (HCl _).out.mono ?_
  rintro _ w6 ⟨rfl, hKc, bK, -⟩
  have bQ := hb1.drew.trans (bK.mono (by simp))
  obtain ⟨k0, k1, k2, k3, k4, k5⟩ := hKc.cells
  have hS2 : NewS2 w5.heap.size t.lm (NewS t dd i w.heap.size bl off c4 ga AR l.length cR) w6 := ⟨(HS _ bQ).out, k0, k1, k2, k3, k4, k5⟩
  have hcl6 := hKc.1.lt
  refine hK.out _ _ (HS _ bQ).out (fun _ => wpAnyH_weaken (S' := NewS2 w5.heap.size t.lm (NewS t dd i w.heap.size bl off c4 ga AR l.length cR)) (fun _ h => h.1) _ _ _ _ ?_)
  clear hK K k0 k1 k2 k3 k4 k5
  try simp only [Act.put, List.setIfInBounds_toArray, List.set_cons_zero, List.set_cons_succ]
  refine wpAnyH_take (i := 11) (v := ?_) rfl (by kernel_rfl) (by kernel_rfl) (by kernel_rfl) (fun _ _ _ h => h) (Or.inl ⟨by rfl, ?_⟩) (by assumption) ?_
  rotate_left 1
  · (intro wz hSw; (try unfold NewS2 at hSw); unfold NewS at hSw; go_simp; try with_reducible rfl)
  try simp only [Act.put, List.setIfInBounds_toArray]
  refine wpAnyH_take (i := 12) (v := ?_) rfl (by kernel_rfl) (by kernel_rfl) (by kernel_rfl) (fun _ _ _ h => h) (Or.inl ⟨by rfl, ?_⟩) (by assumption) ?_
  rotate_left 1
  · (intro wz hSw; (try unfold NewS2 at hSw); unfold NewS at hSw; go_simp; try with_reducible rfl)
  try simp only [Act.put]
  refine wpAnyH_take (i := 16) (v := ?_) rfl (by kernel_rfl) (by kernel_rfl) (by kernel_rfl) (fun _ _ _ h => h) (Or.inl ⟨by rfl, ?_⟩) (by assumption) ?_
  rotate_left 1
  · (intro wz hSw; (try unfold NewS2 at hSw); unfold NewS at hSw; go_simp; try with_reducible rfl)
  try simp only [Act.put]
  refine wpAnyH_ready (rs := [17]) (by kernel_rfl) (by simp) ?_
  refine AllReadyH.cons rfl (fun K hK => ?_) AllReadyH.nil
  go_simp
  have hS3 := fun o : Obj => (⟨(HS _ (bQ.alloc bQ.size o)).out, Lib.cell?_alloc_some o hS2.2.1, Lib.cell?_alloc_some o hS2.2.2.1, Lib.cell?_alloc_some o hS2.2.2.2.1, Lib.cell?_alloc_some o hS2.2.2.2.2.1, Lib.cell?_alloc_some o hS2.2.2.2.2.2.1, Lib.cell?_alloc_some o hS2.2.2.2.2.2.2⟩ : NewS2 w5.heap.size t.lm (NewS t dd i w.heap.size bl off c4 ga AR l.length cR) (w6.alloc o))
  refine hK.out _ _ (hS3 _) (fun hS4 => ?_)
  clear hK K hS3
  try simp only [Act.put, List.setIfInBounds_toArray, List.set_cons_zero, List.set_cons_succ]
  refine wpAnyH_take (i := 18) (v := ?_) rfl (by kernel_rfl) (by kernel_rfl) (by kernel_rfl) (fun _ _ _ h => h) (Or.inl ⟨by rfl, ?_⟩) (by assumption) ?_
  rotate_left 1
  · (intro wz hSw; go_simp; try with_reducible rfl)
  try simp only [Act.put, List.setIfInBounds_toArray]
  refine wpAnyH_done (by kernel_rfl) ?_ _
  clear hS2 hHeld hS4 HCl
  go_wp2_with fail
  obtain ⟨hA5, hT5, b5'⟩ := hk.out
  obtain ⟨VR, hBR, hSR, hFR⟩ := hA5.ex
  have eVR : VR = .slice AR l.length cR := by
    have := hBR.cell 0 (x := VR) rfl
    rw [a0] at this
    exact (Option.some.inj this).symm
  subst eVR
  refine (begin_nd false (fun x => w.heap.size ≤ x) w6.heap.size (NM.new0 t i dr l) 0 0 rfl _ ?_).mono ?_
  · have hW6 := fun o : Obj => bQ.alloc bQ.size o
    refine ⟨⟨.slice (some ⟨bl, off, none⟩) t.ns.length c4, .slice none 0 0, .slice AR l.length cR, fun _ => .slice none 0 0, (Blk.new w6 _ rfl _ _).eq ?_, ?_⟩, Nat.zero_lt_succ _, Nat.zero_le _, ?_, h8, fun _ _ => Nat.zero_lt_succ _, fun _ _ => Nat.zero_lt_succ _⟩
    · simp only [NM.new0, ndH, NM.me, HDD.out]
      kernel_rfl
    · have hl := bQ.size
      refine ⟨(hT5.below (hW6 _)).more (hW6 _).size, fun _ e => ?_, fun _ x hx => ?_, DatG.nil, fun _ _ => DatG.nil, (hSR.below (hW6 _)).more (hW6 _).size, fun f hf hl0 e => ?_, fun hl0 x hx => ?_⟩
      · simp only [Value.ownBlock, Option.some.injEq] at e
        omega
      · exact Nat.le_trans b3s (hTl x hx)
      · rw [List.mem_singleton] at hf
        obtain ⟨A0, c0', e0, -, -, h3, -⟩ := hSR.at_
        cases e0
        obtain ⟨b0, off0, rfl, hb0', -⟩ := h3 (List.length_pos_iff.2 hl0)
        simp only [Value.ownBlock, Option.some.injEq] at e
        omega
      · refine Nat.le_of_not_lt fun hlt => hFR x (List.mem_cons_of_mem _ (List.mem_range.2 (by omega))) hl0 hx
    · exact ⟨fun _ _ => by simp [NM.new0], fun _ _ x hx => by simp [NM.new0] at hx, fun _ _ => by simp [NM.new0], fun _ _ => by simp [NM.new0]⟩
  · rintro _ w7 ⟨rfl, h7, o7⟩
    have hge : w.heap.size ≤ w6.heap.size := Nat.le_trans b5'.size bQ.size
    have b7 : Below w.heap.size w w7 := ((b5'.trans (bQ.mono b5'.size)).alloc hge _).trans (o7.below hge (by simp))
    go_wp2
    go_ret2
    exact ⟨_, rfl, hge, h7, b7⟩
end Go.Proofs.YtpdenmcacaajkaaGreat
