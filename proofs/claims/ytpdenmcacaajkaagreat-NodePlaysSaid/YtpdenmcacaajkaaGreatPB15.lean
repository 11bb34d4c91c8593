/- Texts TlP, ClP in one. For what each says in front of its theorems. -/
import Derived.BigRegion
import Derived.Test.YtpdenmcacaajkaaGreatPB10
import Derived.Test.YtpdenmcacaajkaaGreatPB14
/-! ### TlP -/
namespace Go.Proofs.YtpdenmcacaajkaaGreat
open Go.RowKit

/-- A tally within a block. -/
def TPt (c : Cx 17) (W : World) (g : Nat) (s : TS) : Prop := PB c W g #[.int .i64 (s.m : Nat), .int .i64 (s.a : Nat), .int .i64 (s.f : Nat)] ∧ s.m < 256
section
variable {c : Cx 17} {W W' : World} {g : Nat} {s : TS}
theorem TPt.below (h : TPt c W g s) {B : Nat} (hb : Below B W W') (hg : g < B) : TPt c W' g s := ⟨h.1.below hb hg, h.2⟩
theorem TPt.only {g' : Nat} (h : TPt c W g s) (hb : Only g' W W') (hg : g ≠ g') : TPt c W' g s := ⟨h.1.only hb hg, h.2⟩
theorem TPt.lt (h : TPt c W g s) : g < W.heap.size := h.1.lt
theorem TPt.drewN (h : TPt c W g s) (n : Nat) : TPt c (W.drewN n) g s := ⟨h.1.drewN n, h.2⟩
theorem TPt.drew (h : TPt c W g s) : TPt c W.drew g s := h
theorem TPt.c0 (h : TPt c W g s) : W.cell? ⟨g, 17, none⟩ = some (.int .i64 (s.m : Nat)) := h.1.cell 0 rfl
theorem TPt.c1 (h : TPt c W g s) : W.cell? ⟨g, 18, none⟩ = some (.int .i64 (s.a : Nat)) := h.1.cell 1 rfl
theorem TPt.c2 (h : TPt c W g s) : W.cell? ⟨g, 19, none⟩ = some (.int .i64 (s.f : Nat)) := h.1.cell 2 rfl
theorem TPt.m_ (h : TPt c W g s) (n : Nat) (hn : n < 256) : TPt c (W.setCell ⟨g, 17, none⟩ (.int .i64 (n : Nat))) g { s with m := n } := ⟨(h.1.set 0 (by simp) _).eq (by simp), hn⟩
theorem TPt.a_ (h : TPt c W g s) (n : Nat) : TPt c (W.setCell ⟨g, 18, none⟩ (.int .i64 (n : Nat))) g { s with a := n } := ⟨(h.1.set 1 (by simp) _).eq (by simp), h.2⟩
theorem TPt.f_ (h : TPt c W g s) (n : Nat) : TPt c (W.setCell ⟨g, 19, none⟩ (.int .i64 (n : Nat))) g { s with f := n } := ⟨(h.1.set 2 (by simp) _).eq (by simp), h.2⟩
end

set_option maxRecDepth 100000 in
set_option maxHeartbeats 1000000 in
theorem minds_tp (g : Nat) (n : Int) (w : World) :
    Calls Tryz.prog 108 #[.pointer (some ⟨g, 17, none⟩), .int .i64 n] w fun e w' => e = .returned (.bool (decide (0 ≤ n ∧ n < 8))) ∧ w' = w := by
  by_cases h1 : n < 0
  · rw [decide_eq_false (by omega : ¬ (0 ≤ n ∧ n < 8))]
    go_enter Tryz.func108, Tryz.ntmps108
    go_wp2
    go_ret
    exact ⟨rfl, rfl⟩
  · by_cases h2 : n < 8
    · rw [decide_eq_true (by omega : (0 ≤ n ∧ n < 8))]
      have h1 : 0 ≤ n := by omega
      go_enter Tryz.func108, Tryz.ntmps108
      go_wp2
      go_ret
      exact ⟨by simp_all, rfl⟩
    · rw [decide_eq_false (by omega : ¬ (0 ≤ n ∧ n < 8))]
      have h1 : 0 ≤ n := by omega
      go_enter Tryz.func108, Tryz.ntmps108
      go_wp2
      go_ret
      exact ⟨by simp_all, rfl⟩
set_option maxRecDepth 100000 in
set_option maxHeartbeats 1000000 in
theorem members_tp (c : Cx 17) (g : Nat) (s : TS) (w : World) (h : TPt c w g s) :
    Calls Tryz.prog 93 #[.pointer (some ⟨g, 17, none⟩)] w fun e w' => e = .returned (.int .i64 (s.m : Nat)) ∧ w' = w := by
  have c0 := h.c0
  clear h
  go_enter Tryz.func93, Tryz.ntmps93
  go_wp2
  go_ret
  exact ⟨rfl, rfl⟩
set_option maxRecDepth 100000 in
set_option maxHeartbeats 1000000 in
theorem clique_tp (c : Cx 17) (g : Nat) (s : TS) (w : World) (h : TPt c w g s) :
    Calls Tryz.prog 106 #[.pointer (some ⟨g, 17, none⟩)] w fun e w' => e = .returned (.bool (decide (s.f ≤ s.a))) ∧ ∃ m, w' = w.drewN m := by
  have c1 := h.c1
  have c2 := h.c2
  clear h
  go_enter Tryz.func106, Tryz.ntmps106
  go_wp2
  go_quiet (fail)
  go_wp2
  go_ret
  exact ⟨by simp, _, rfl⟩
set_option maxRecDepth 100000 in
set_option maxHeartbeats 1000000 in
theorem alone_tp (c : Cx 17) (g : Nat) (s : TS) (w : World) (h : TPt c w g s) :
    Calls Tryz.prog 107 #[.pointer (some ⟨g, 17, none⟩)] w fun e w' => e = .returned (.bool (decide (s.a = 0))) ∧ w' = w := by
  have c1 := h.c1
  clear h
  go_enter Tryz.func107, Tryz.ntmps107
  go_wp2
  go_ret
  refine ⟨?_, rfl⟩
  rw [show decide (s.a = 0) = ((s.a : Int) == 0) by by_cases h : s.a = 0 <;> simp [h]]
  rfl
set_option maxRecDepth 100000 in
set_option maxHeartbeats 1000000 in
theorem is_tp (c : Cx 17) (g : Nat) (s : TS) (n : Int) (w : World) (h : TPt c w g s) :
    Calls Tryz.prog 130 #[.pointer (some ⟨g, 17, none⟩), .int .i64 n] w fun e w' => e = .returned (.bool (isB s.m n)) ∧ w' = w := by
  have HM := fun W => Lib.hid (minds_tp g n W)
  have c0 := h.c0
  by_cases hn : 0 ≤ n ∧ n < 8
  · rw [decide_eq_true hn] at HM
    have n1 := hn.1
    have n2 := hn.2
    go_enter Tryz.func130, Tryz.ntmps130
    go_wp2_with fail
    refine (HM _).out.mono ?_
    rintro _ _ ⟨rfl, rfl⟩
    go_wp2
    go_ret
    refine ⟨?_, rfl⟩
    rw [show isB s.m n = (bits BinOp.and IntKind.i64 ((s.m : Int) / (2 : Int) ^ n.toNat) 1 == 1) by rw [is_w]; simp [isB, hn]]
    rfl
  · rw [decide_eq_false hn] at HM
    go_enter Tryz.func130, Tryz.ntmps130
    go_wp2_with fail
    refine (HM _).out.mono ?_
    rintro _ _ ⟨rfl, rfl⟩
    go_wp2
    go_ret
    refine ⟨?_, rfl⟩
    rw [show isB s.m n = false by simp [isB, hn]]
    rfl
set_option maxRecDepth 100000 in
set_option maxHeartbeats 1000000 in
theorem join_tp (c : Cx 17) (g : Nat) (s : TS) (n : Int) (w : World) (h : TPt c w g s) :
    Calls Tryz.prog 69 #[.pointer (some ⟨g, 17, none⟩), .int .i64 n] w fun e w' => e = .returned (.tuple #[]) ∧ TPt c w' g (s.join n) ∧ Only g w w' := by
  have HM := fun W => Lib.hid (minds_tp g n W)
  by_cases hn : 0 ≤ n ∧ n < 8
  · rw [decide_eq_true hn] at HM
    have c0 := h.c0
    have f0 := h.1.frozen 17
    have n1 := hn.1
    have n2 := hn.2
    go_enter Tryz.func69, Tryz.ntmps69
    go_wp2_with fail
    refine (HM _).out.mono ?_
    rintro _ _ ⟨rfl, rfl⟩
    have HO := or_w h.2 (k := n.toNat) (by omega)
    have hI := ins_lt h.2 (k := n.toNat) (by omega)
    go_wp2_with fail
    go_region
    exact bodyPost_end (results_none (by rfl) _ _ _) rfl ⟨rfl, by simpa [TS.join, hn] using (h.m_ _ hI).drew, ((Only.refl g _).set 17 _).drew⟩
  · rw [decide_eq_false hn] at HM
    go_enter Tryz.func69, Tryz.ntmps69
    go_wp2_with fail
    refine (HM _).out.mono ?_
    rintro _ _ ⟨rfl, rfl⟩
    go_wp2
    exact bodyPost_end (results_none (by rfl) _ _ _) rfl ⟨rfl, by simpa [TS.join, hn] using h, Only.refl _ _⟩
set_option maxRecDepth 100000 in
set_option maxHeartbeats 1000000 in
theorem miss_tp (c : Cx 17) (g : Nat) (s : TS) (n : Int) (w : World) (h : TPt c w g s) :
    Calls Tryz.prog 127 #[.pointer (some ⟨g, 17, none⟩), .int .i64 n] w fun e w' => e = .returned (.tuple #[]) ∧ TPt c w' g (s.miss n) ∧ Only g w w' := by
  have HM := fun W => Lib.hid (minds_tp g n W)
  by_cases hn : 0 ≤ n ∧ n < 8
  · rw [decide_eq_true hn] at HM
    have c0 := h.c0
    have f0 := h.1.frozen 17
    have n1 := hn.1
    have n2 := hn.2
    go_enter Tryz.func127, Tryz.ntmps127
    go_wp2_with fail
    refine (HM _).out.mono ?_
    rintro _ _ ⟨rfl, rfl⟩
    have HO := andNot_w h.2 (k := n.toNat) (by omega)
    have hI := del_lt (k := n.toNat) h.2
    go_wp2_with fail
    go_region
    exact bodyPost_end (results_none (by rfl) _ _ _) rfl ⟨rfl, by simpa [TS.miss, hn] using (h.m_ _ hI).drew, ((Only.refl g _).set 17 _).drew⟩
  · rw [decide_eq_false hn] at HM
    go_enter Tryz.func127, Tryz.ntmps127
    go_wp2_with fail
    refine (HM _).out.mono ?_
    rintro _ _ ⟨rfl, rfl⟩
    go_wp2
    exact bodyPost_end (results_none (by rfl) _ _ _) rfl ⟨rfl, by simpa [TS.miss, hn] using h, Only.refl _ _⟩
set_option maxRecDepth 100000 in
set_option maxHeartbeats 1000000 in
theorem right_tp (c : Cx 17) (g : Nat) (s : TS) (n : Int) (w : World) (h : TPt c w g s) (hb : s.a < 1000) :
    Calls Tryz.prog 125 #[.pointer (some ⟨g, 17, none⟩), .int .i64 n] w fun e w' => e = .returned (.tuple #[]) ∧ TPt c w' g (s.right n) ∧ Only g w w' := by
  have HM := fun W => Lib.hid (minds_tp g n W)
  by_cases hn : 0 ≤ n ∧ n < 8
  · rw [decide_eq_true hn] at HM
    have hs : s.right n = { s.join n with a := s.a + 1 } := by simp [TS.right, TS.join, hn]
    have hf : (s.join n).a = s.a := by simp [TS.join, hn]
    rw [hs]
    clear hs
    have HJ := fun W (h : TPt c W g s) => Lib.hid (join_tp c g s n W h)
    generalize s.join n = u at *
    go_enter Tryz.func125, Tryz.ntmps125
    go_wp2_with fail
    refine (HM _).out.mono ?_
    rintro _ _ ⟨rfl, rfl⟩
    go_wp2_with fail
    refine (HJ _ h).out.mono ?_
    rintro _ w1 ⟨rfl, h1, o1⟩
    generalize s.join n = u at *
    have c := h1.c1
    rw [hf] at c
    have f := h1.1.frozen 18
    have h2 := Lib.hid (h1.a_ (s.a + 1))
    clear h h1 hf HM HJ
    go_wp2
    exact bodyPost_end (results_none (by rfl) _ _ _) rfl ⟨rfl, by simpa using h2.out, o1.set 18 _⟩
  · rw [decide_eq_false hn] at HM
    go_enter Tryz.func125, Tryz.ntmps125
    go_wp2_with fail
    refine (HM _).out.mono ?_
    rintro _ _ ⟨rfl, rfl⟩
    go_wp2
    exact bodyPost_end (results_none (by rfl) _ _ _) rfl ⟨rfl, by simpa [TS.right, hn] using h, Only.refl _ _⟩
set_option maxRecDepth 100000 in
set_option maxHeartbeats 1000000 in
theorem wrong_tp (c : Cx 17) (g : Nat) (s : TS) (n : Int) (w : World) (h : TPt c w g s) (hb : s.f < 1000) :
    Calls Tryz.prog 128 #[.pointer (some ⟨g, 17, none⟩), .int .i64 n] w fun e w' => e = .returned (.tuple #[]) ∧ TPt c w' g (s.wrong n) ∧ Only g w w' := by
  have HM := fun W => Lib.hid (minds_tp g n W)
  by_cases hn : 0 ≤ n ∧ n < 8
  · rw [decide_eq_true hn] at HM
    have hs : s.wrong n = { s.miss n with f := s.f + 1 } := by simp [TS.wrong, TS.miss, hn]
    have hf : (s.miss n).f = s.f := by simp [TS.miss, hn]
    rw [hs]
    clear hs
    have HJ := fun W (h : TPt c W g s) => Lib.hid (miss_tp c g s n W h)
    generalize s.miss n = u at *
    go_enter Tryz.func128, Tryz.ntmps128
    go_wp2_with fail
    refine (HM _).out.mono ?_
    rintro _ _ ⟨rfl, rfl⟩
    go_wp2_with fail
    refine (HJ _ h).out.mono ?_
    rintro _ w1 ⟨rfl, h1, o1⟩
    generalize s.miss n = u at *
    have c := h1.c2
    rw [hf] at c
    have f := h1.1.frozen 19
    have h2 := Lib.hid (h1.f_ (s.f + 1))
    clear h h1 hf HM HJ
    go_wp2
    exact bodyPost_end (results_none (by rfl) _ _ _) rfl ⟨rfl, by simpa using h2.out, o1.set 19 _⟩
  · rw [decide_eq_false hn] at HM
    go_enter Tryz.func128, Tryz.ntmps128
    go_wp2_with fail
    refine (HM _).out.mono ?_
    rintro _ _ ⟨rfl, rfl⟩
    go_wp2
    exact bodyPost_end (results_none (by rfl) _ _ _) rfl ⟨rfl, by simpa [TS.wrong, hn] using h, Only.refl _ _⟩
set_option maxRecDepth 100000 in
set_option maxHeartbeats 1000000 in
theorem clear_tp (c : Cx 17) (g : Nat) (s : TS) (w : World) (h : TPt c w g s) :
    Calls Tryz.prog 70 #[.pointer (some ⟨g, 17, none⟩)] w fun e w' => e = .returned (.tuple #[]) ∧ TPt c w' g s.clear ∧ Only g w w' := by
  have c1 := h.c1
  have c2 := h.c2
  have f1 := h.1.frozen 18
  have f2 := h.1.frozen 19
  have h2 := Lib.hid ((h.a_ 0).f_ 0)
  clear h
  go_enter Tryz.func70, Tryz.ntmps70
  go_wp2
  exact bodyPost_end (results_none (by rfl) _ _ _) rfl ⟨rfl, h2.out, ((Only.refl g _).set 18 _).set 19 _⟩
end Go.Proofs.YtpdenmcacaajkaaGreat

/-! ### ClP -/
namespace Go.Proofs.YtpdenmcacaajkaaGreat
open Go.RowKit
open Clk (avg)

/-- A clock within a block. -/
def KPt (c : Cx 20) (W : World) (g : Nat) (m : Int) (l : List Int) : Prop := PB c W g (clk m l) ∧ l.length ≤ 4
section
variable {c : Cx 20} {W W' : World} {g : Nat} {m : Int} {l : List Int}
theorem KPt.below (h : KPt c W g m l) {B : Nat} (hb : Below B W W') (hg : g < B) : KPt c W' g m l := ⟨h.1.below hb hg, h.2⟩
theorem KPt.lt (h : KPt c W g m l) : g < W.heap.size := h.1.lt
theorem KPt.clk (h : KPt c W g m l) : W.cell? ⟨g, 20, none⟩ = some (.int .i64 m) ∧ W.cell? ⟨g, 21, none⟩ = some (.int .i64 (l.getD 0 0)) ∧ W.cell? ⟨g, 22, none⟩ = some (.int .i64 (l.getD 1 0)) ∧ W.cell? ⟨g, 23, none⟩ = some (.int .i64 (l.getD 2 0)) ∧ W.cell? ⟨g, 24, none⟩ = some (.int .i64 (l.getD 3 0)) ∧ W.cell? ⟨g, 25, none⟩ = some (.int .i64 (l.length : Nat)) :=
  ⟨h.1.cell 0 rfl, h.1.cell 1 rfl, h.1.cell 2 rfl, h.1.cell 3 rfl, h.1.cell 4 rfl, h.1.cell 5 rfl⟩
theorem KPt.frz (h : KPt c W g m l) : W.frozen? ⟨g, 20, none⟩ = false ∧ W.frozen? ⟨g, 21, none⟩ = false ∧ W.frozen? ⟨g, 22, none⟩ = false ∧ W.frozen? ⟨g, 23, none⟩ = false ∧ W.frozen? ⟨g, 24, none⟩ = false ∧ W.frozen? ⟨g, 25, none⟩ = false :=
  ⟨h.1.frozen 20, h.1.frozen 21, h.1.frozen 22, h.1.frozen 23, h.1.frozen 24, h.1.frozen 25⟩
end
theorem clk_size (m : Int) (l : List Int) : (clk m l).size = 6 := rfl

set_option maxRecDepth 100000 in
set_option maxHeartbeats 1000000 in
theorem clear_kp (c : Cx 20) (g : Nat) (m : Int) (l : List Int) (w : World) (h : KPt c w g m l) :
    Calls Tryz.prog 58 #[.pointer (some ⟨g, 20, none⟩)] w fun e w' => e = .returned (.tuple #[]) ∧ KPt c w' g m ([]) ∧ Only g w w' := by
  obtain ⟨c0, c1, c2, c3, c4, c5⟩ := h.clk
  obtain ⟨f0, f1, f2, f3, f4, f5⟩ := h.frz
  have hB : Hid (PB c ((((((w.setCell ⟨g, 20, none⟩ (.int .i64 m)).setCell ⟨g, 21, none⟩ (.int .i64 0)).setCell ⟨g, 22, none⟩ (.int .i64 0)).setCell ⟨g, 23, none⟩ (.int .i64 0)).setCell ⟨g, 24, none⟩ (.int .i64 0)).setCell ⟨g, 25, none⟩ (.int .i64 0)) g (clk m ([]))) := Lib.hid ((((((h.1.set 0 (by simp [clk]) _).set 1 (by simp [clk]) _).set 2 (by simp [clk]) _).set 3 (by simp [clk]) _).set 4 (by simp [clk]) _).set 5 (by simp [clk]) _)
  clear h
  go_enter Tryz.func58, Tryz.ntmps58
  go_wp2
  exact bodyPost_end (results_none (by rfl) _ _ _) rfl ⟨rfl, ⟨hB.out, by simp⟩, ((((((Only.refl g w).set 20 _).set 21 _).set 22 _).set 23 _).set 24 _).set 25 _⟩
set_option maxRecDepth 100000 in
set_option maxHeartbeats 1000000 in
theorem measure_full_kp (c : Cx 20) (g : Nat) (m : Int) (l : List Int) (n : Int) (w : World) (h : KPt c w g m l) (h4 : l.length = 4) :
    Calls Tryz.prog 79 #[.pointer (some ⟨g, 20, none⟩), .int .i64 n] w fun e w' => e = .returned (.tuple #[]) ∧ KPt c w' g m (l.drop 1 ++ [n]) ∧ Only g w w' := by
  obtain ⟨c0, c1, c2, c3, c4, c5⟩ := h.clk
  obtain ⟨f0, f1, f2, f3, f4, f5⟩ := h.frz
  have c5' : w.cell? ⟨g, 25, none⟩ = some (.int .i64 4) := by rw [c5, h4]; rfl
  clear c5
  have hB : Hid (PB c ((((((w.setCell ⟨g, 21, none⟩ (.int .i64 (l.getD 1 0))).setCell ⟨g, 22, none⟩ (.int .i64 (l.getD 2 0))).setCell ⟨g, 23, none⟩ (.int .i64 (l.getD 3 0))).setCell ⟨g, 25, none⟩ (.int .i64 3)).setCell ⟨g, 24, none⟩ (.int .i64 n)).setCell ⟨g, 25, none⟩ (.int .i64 4)).drew.drew g (clk m (l.drop 1 ++ [n]))) := Lib.hid (((((((h.1.set 1 (by simp [clk]) (.int .i64 (l.getD 1 0))).set 2 (by simp [clk]) (.int .i64 (l.getD 2 0))).set 3 (by simp [clk]) (.int .i64 (l.getD 3 0))).set 5 (by simp [clk]) (.int .i64 3)).set 4 (by simp [clk]) (.int .i64 n)).set 5 (by simp [clk]) (.int .i64 4)).drew.drew.eq (clk_full m n l h4))
  have H4 := Lib.hid h4
  clear h h4
  generalize l.getD 0 0 = a0 at *
  generalize l.getD 1 0 = a1 at *
  generalize l.getD 2 0 = a2 at *
  generalize l.getD 3 0 = a3 at *
  have hrun := run_copy_cells (P := Tryz.prog) w.drew 46 46 3 3 g 21 4 4 ⟨g, 22, none⟩ 3 3 [.int .i64 a1, .int .i64 a2, .int .i64 a3] Tryz.underlying46 (by kernel_rfl) (by simp) (fun j v hj => by
    match j, hj with
    | 0, hj => simp at hj; subst hj; exact c2
    | 1, hj => simp at hj; subst hj; exact c3
    | 2, hj => simp at hj; subst hj; exact c4
    | j + 3, hj => simp at hj) (fun j hj => by
    match j, hj with
    | 0, _ => show (w.cell? _).isSome = true; rw [c1]; rfl
    | 1, _ => show (w.cell? _).isSome = true; rw [c2]; rfl
    | 2, _ => show (w.cell? _).isSome = true; rw [c3]; rfl
    | j + 3, hj => simp at hj; omega) (fun j hj => by
    match j, hj with
    | 0, _ => exact f1
    | 1, _ => exact f2
    | 2, _ => exact f3
    | j + 3, hj => simp at hj; omega) (by simp [Value.oneCell'])
  simp [World.setCells] at hrun
  go_enter Tryz.func79, Tryz.ntmps79
  go_wp2
  go_region
  go_wp2
  go_region
  go_wp2
  exact bodyPost_end (results_none (by rfl) _ _ _) rfl ⟨rfl, ⟨hB.out, by have := H4.out; simp; omega⟩, (((((((Only.refl g w).set 21 _).set 22 _).set 23 _).set 25 _).set 24 _).set 25 _).drew.drew⟩
set_option maxRecDepth 100000 in
set_option maxHeartbeats 1000000 in
theorem measure_more_kp (c : Cx 20) (g : Nat) (m : Int) (l : List Int) (n : Int) (w : World) (h : KPt c w g m l) (h4 : l.length < 4) :
    Calls Tryz.prog 79 #[.pointer (some ⟨g, 20, none⟩), .int .i64 n] w fun e w' => e = .returned (.tuple #[]) ∧ KPt c w' g m (l ++ [n]) ∧ Only g w w' := by
  obtain ⟨c0, c1, c2, c3, c4, c5⟩ := h.clk
  obtain ⟨f0, f1, f2, f3, f4, f5⟩ := h.frz
  have q4 : ((l.length : Int) == 4) = false := by rw [beq_eq_false_iff_ne]; omega
  have hB : Hid (PB c ((w.setCell ⟨g, 21 + l.length, none⟩ (.int .i64 n)).setCell ⟨g, 25, none⟩ (.int .i64 ((l.length : Int) + 1))).drew g (clk m (l ++ [n]))) := Lib.hid (((PBs (p' := 21 + l.length) (h.1.set (1 + l.length) (by rw [clk_size]; omega) (.int .i64 n)) (by omega) rfl).set 5 (by simp [clk]) (.int .i64 ((l.length : Int) + 1))).drew.eq (clk_more m n l _ rfl h4))
  have ck : ∃ x, w.cell? ⟨g, 21 + l.length, none⟩ = some x := by
    rcases (by omega : l.length = 0 ∨ l.length = 1 ∨ l.length = 2 ∨ l.length = 3) with e | e | e | e <;> rw [e]
    · exact ⟨_, c1⟩
    · exact ⟨_, c2⟩
    · exact ⟨_, c3⟩
    · exact ⟨_, c4⟩
  have fk : w.frozen? ⟨g, 21 + l.length, none⟩ = false := h.1.frozen _
  obtain ⟨x, ck⟩ := ck
  clear h c0 c1 c2 c3 c4 f0 f1 f2 f3 f4
  go_enter Tryz.func79, Tryz.ntmps79
  go_wp2
  go_region
  go_wp2
  exact bodyPost_end (results_none (by rfl) _ _ _) rfl ⟨rfl, ⟨hB.out, by simp; omega⟩, (((Only.refl g w).set (21 + l.length) _).set 25 _).drew⟩
theorem measure_kp (c : Cx 20) (g : Nat) (m : Int) (l : List Int) (n : Int) (w : World) (h : KPt c w g m l) :
    Calls Tryz.prog 79 #[.pointer (some ⟨g, 20, none⟩), .int .i64 n] w fun e w' => e = .returned (.tuple #[]) ∧ KPt c w' g m (keep4 l n) ∧ Only g w w' := by
  unfold keep4
  by_cases h4 : l.length = 4
  · rw [if_pos h4]; exact measure_full_kp c g m l n w h h4
  · rw [if_neg h4]; exact measure_more_kp c g m l n w h (by have := h.2; omega)
theorem KPt.sees {c : Cx 20} {W : World} {g : Nat} {m : Int} {l : List Int} (h : KPt c W g m l) : SeesI W W.heap.size (.slice (some ⟨g, 21, none⟩) l.length 4) l := by
  refine ⟨some ⟨g, 21, none⟩, 4, rfl, h.2, by simp [maxLen], fun _ => ⟨g, 21, rfl, h.1.lt, fun k hk => ?_⟩, fun h => by cases h⟩
  obtain ⟨-, c1, c2, c3, c4, -⟩ := h.clk
  have := h.2
  rcases (by omega : k = 0 ∨ k = 1 ∨ k = 2 ∨ k = 3) with rfl | rfl | rfl | rfl
  · exact c1
  · exact c2
  · exact c3
  · exact c4
set_option maxRecDepth 100000 in
set_option maxHeartbeats 1000000 in
theorem term_kp (c : Cx 20) (g : Nat) (m : Int) (l : List Int) (w : World) (h : KPt c w g m l) (hs : small l) (hm : 0 ≤ m ∧ m ≤ 9223372036854775807) :
    Calls Tryz.prog 149 #[.pointer (some ⟨g, 20, none⟩)] w fun e w' => e = .returned (.tuple #[.int .i64 (termV m l), .bool (wiB m (avg l))]) ∧ Below w.heap.size w w' := by
  have hT : Hid (∀ W, Below w.heap.size w W → KPt c W g m l) := Lib.hid (fun W hW => h.below hW h.1.lt)
  have A1 := fun W (hW : Below w.heap.size w W) => Lib.hid (avg_cl l _ W W.heap.size (Nat.le_refl _) (hT.out W hW).sees hs h.2)
  have R := fun n W => Lib.hid (reaches_cl m n W hm)
  have hl4 := h.2
  unfold termV
  generalize avg l = r at *
  have R := R r
  generalize hq : wiB m r = q at *
  clear hq
  obtain ⟨c0, -, -, -, -, c5⟩ := h.clk
  have HC : Hid (∀ W, Below w.heap.size w W → W.cell? ⟨g, 20, none⟩ = some (.int .i64 m) ∧ W.cell? ⟨g, 25, none⟩ = some (.int .i64 (l.length : Nat))) := Lib.hid (fun W hW => by
    obtain ⟨c0, -, -, -, -, c5⟩ := (hT.out W hW).clk
    exact ⟨c0, c5⟩)
  have hb0 := Below.refl w.heap.size w
  have n1 : (0 : Int) ≤ (l.length : Nat) := by omega
  have n2 : ((l.length : Nat) : Int) ≤ 4 := by omega
  clear h hs hm
  go_enter Tryz.func149, Tryz.ntmps149
  go_wp2
  go_region_held3 (fun W => W.cell? ⟨g, 20, none⟩ = some (.int .i64 m) ∧ W.cell? ⟨g, 25, none⟩ = some (.int .i64 (l.length : Nat)))
    ((refine HC.out _ ?_; first | exact hb0 | exact hb0.drew | exact hb1))
    (first
      | ((go_at_call 168; with_reducible refine (A1 _ ?_).out.mono ?_); (first | exact hb0 | exact hb0.drew); rintro e w1 ⟨rfl, hb⟩; have hb1 := hb0.drew.trans (hb.mono hb0.size))
      | fail)
  clear c0 c5
  obtain ⟨c0, c5⟩ := HC.out w1 hb1
  cases q
  · go_wp2_with fail
    refine (R w1).out.mono ?_
    rintro e w2 ⟨rfl, rfl⟩
    go_wp2
    go_ret2
    exact ⟨rfl, hb1⟩
  · go_wp2_with fail
    refine (R w1).out.mono ?_
    rintro e w2 ⟨rfl, rfl⟩
    go_wp2
    go_ret2
    exact ⟨rfl, hb1⟩
end Go.Proofs.YtpdenmcacaajkaaGreat
