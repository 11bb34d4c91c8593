/- Texts NdW in one. For what each says in front of its theorems. -/
import Derived.Test.YtpdenmcacaajkaaGreatPB28
/-! ### NdW -/
namespace Go.Proofs.YtpdenmcacaajkaaGreat
open Go.RowKit
open Fr (St F)

theorem rightL_eq (m : NM) (h : Hn) : ((NM.rows h).find? fun l => decide (Fr.err l m.own = 0) && decide ((Fr.res l m.own).k ≠ 3 ∧ (Fr.res l m.own).st = m.own)) = m.rightL h := by
  unfold NM.rightL
  congr 1
  funext l
  rw [Bool.eq_iff_iff]
  simp only [Bool.and_eq_true, decide_eq_true_eq]
  exact Iff.rfl
set_option maxRecDepth 100000 in
set_option maxHeartbeats 4000000 in
theorem judge_miss (b : Bool) (G : Nat → Prop) (g : Nat) (m : NM) (h : Hn) (vx vy : Value) (w : World) (hm : NA b G w g m) (hh : HOk w h vx vy) (hsl : m.sl < 8) (hn : m.rightL h = none) (hq : h.a = 0 ∧ h.b = 0) :
    Calls Tryz.prog 81 #[.pointer (some ⟨g, 0, none⟩), hdV h vx vy] w fun e w' => e = .returned (.tuple #[]) ∧ NA b G w' g (m.took (m.ty.miss m.sl) m.so m.ck) ∧ Only g w w' := by
  have hS := fun W => Lib.hid (silent_nd h vx vy W)
  rw [decide_eq_true hq] at hS
  clear hq
  obtain ⟨Ax, cx, ex, -⟩ := hh.x.at_
  obtain ⟨Ay, cy, ey, -⟩ := hh.y.at_
  subst ex; subst ey
  have hmf : ∀ (fn : Fn) (first cap : Array Value) (w : World), (Instr.makeFunc fn first cap).run Tryz.prog w = .ok (.func fn first cap) w := fun _ _ _ _ => rfl
  have hgl := hm.lt
  have hX := Blk.new w w.heap.size rfl #[.int .i64 h.a, .int .i64 h.b, .slice Ax h.x.length cx, .slice Ay h.y.length cy, .int .i64 h.o] 39
  have hb0 := (Below.refl w.heap.size w).alloc (Nat.le_refl _) (.cells #[.int .i64 h.a, .int .i64 h.b, .slice Ax h.x.length cx, .slice Ay h.y.length cy, .int .i64 h.o] 39)
  have hk : Hid (NA b G w g m) := Lib.hid hm
  have hvx := Lib.hid hh.x
  have hvy := Lib.hid hh.y
  have bx := hh.bx
  have by_ := hh.by_
  have hsz : w.heap.size < (w.alloc (.cells #[.int .i64 h.a, .int .i64 h.b, .slice Ax h.x.length cx, .slice Ay h.y.length cy, .int .i64 h.o] 39)).heap.size := by simp
  have hm1 := hm.below hb0
  have hO := or_w hm.tyo (k := m.sl) hsl
  have hsn : (0 : Int) ≤ ((m.sl : Nat) : Int) := by omega
  unfold hdV at *
  clear hm hh
  go_enter Tryz.func81, Tryz.ntmps81
  go_wp2_with fail
  generalize w.alloc (.cells #[.int .i64 h.a, .int .i64 h.b, .slice Ax h.x.length cx, .slice Ay h.y.length cy, .int .i64 h.o] 39) = w1 at *
  have c12 := hm1.c12
  have HV : ∀ W, Below w1.heap.size w1 W → Hid (Calls Tryz.prog 39 #[.pointer (some ⟨g, 0, none⟩)] W fun e w' => e = .returned (csV m.rd m.sl m.ty.m) ∧ Below W.heap.size W w' ∧ Below w1.heap.size w1 w') := fun W hW => Lib.hid ((view_nd b G g m W (hm1.below hW)).mono fun e w' ⟨h1, h2⟩ => ⟨h1, h2, hW.trans (h2.mono hW.size)⟩)
  have HS : ∀ W, Below w1.heap.size w1 W → Hid (W.cell? ⟨g, 12, none⟩ = some (.int .i64 (m.sl : Nat))) := fun W hW => Lib.hid (hm1.below hW).c12
  have hb1 := Below.refl w1.heap.size w1
  unfold csV at HV
  go_cut [4, 5] from 8 (fun s4 s5 W => ∃ p : Nat, s4 = .int .i64 (m.sl : Nat) ∧ s5 = .pointer (some ⟨p, 0, none⟩) ∧ Blk W p #[.int .i64 m.rd, .int .i64 (m.sl : Nat), .int .i64 (m.ty.m : Nat)] 101 ∧ Below w1.heap.size w1 W ∧ w1.heap.size ≤ p)
  case first =>
    go_region_held3 (fun W => W.cell? ⟨g, 12, none⟩ = some (.int .i64 (m.sl : Nat)))
      ((refine (HS _ ?_).out; (repeat' (first | exact hb1 | exact b5 | (with_reducible refine Below.drew ?_) | (with_reducible refine Below.alloc ?_ ?_ _) | exact b5.size | exact Nat.le_refl _ | (with_reducible refine Below.setCell ?_ ?_ _) | omega | (simp; done) | (simp; omega)))))
      (first
        | ((go_at_call 39; with_reducible refine (HV _ ?_).out.mono ?_); (focus ((repeat' (first | exact hb1 | (with_reducible refine Below.drew ?_) | (with_reducible refine Below.alloc ?_ ?_ _) | exact Nat.le_refl _)); done)); rintro _ w5 ⟨rfl, b5', b5⟩; (first | (have hZ : Blk w5 w1.heap.size #[.int .i64 0, .int .i64 0, .int .i64 0] 101 := Blk.below (Blk.drew (Blk.new w1 _ (by simp) _ _)) b5' (by simp)) | (have hZ : Blk w5 w1.heap.size #[.int .i64 0, .int .i64 0, .int .i64 0] 101 := Blk.below (Blk.new w1.drew _ (by simp) _ _) b5' (by simp)) | skip); (first | (have y0 := hZ.cell 0 (x := .int .i64 0) rfl; have y1 := hZ.cell 1 (x := .int .i64 0) rfl; have y2 := hZ.cell 2 (x := .int .i64 0) rfl; have f0 := hZ.frozen 0; have f1 := hZ.frozen 1; have f2 := hZ.frozen 2) | skip)))
    all_goals
      go_wp2_with fail
      go_meet
      first
        | exact ⟨_, rfl, rfl, Blk.new _ _ rfl _ _, b5.alloc b5.size _, b5.size⟩
        | exact ⟨_, rfl, rfl, (((hZ.set 0 (.int .i64 m.rd)).set 1 (.int .i64 (m.sl : Nat))).set 2 (.int .i64 (m.ty.m : Nat))).eq (by simp), ((b5.setCell (Nat.le_refl _) _).setCell (Nat.le_refl _) _).setCell (Nat.le_refl _) _, Nat.le_refl _⟩
  case rest =>
    obtain ⟨p, rfl, rfl, hP, b2, hp⟩ := hcut
    have hX2 := hX.below b2 hsz
    have hb2 := hb0.trans (b2.mono hb0.size)
    clear hX hm1 hb1 HV HS c12 b2
    have p2 := hP.cell 2 (x := .int .i64 (m.ty.m : Nat)) rfl
    have pf2 := hP.frozen 2
    have bX : Below w.heap.size wc (wc.setCell ⟨p, 2, none⟩ (.int .i64 (Go.Proofs.YtpdenmcacaajkaaGreat.ins m.ty.m m.sl : Nat))).drew := ((Below.refl w.heap.size wc).setCell (p := ⟨p, 2, none⟩) (by show w.heap.size ≤ p; omega) _).drew
    have bX1 : Below w1.heap.size wc (wc.setCell ⟨p, 2, none⟩ (.int .i64 (Go.Proofs.YtpdenmcacaajkaaGreat.ins m.ty.m m.sl : Nat))).drew := ((Below.refl w1.heap.size wc).setCell (p := ⟨p, 2, none⟩) hp _).drew
    have hP3 := ((hP.set 2 (.int .i64 (Go.Proofs.YtpdenmcacaajkaaGreat.ins m.ty.m m.sl : Nat))).drew).eq (cs' := #[.int .i64 m.own.r, .int .i64 m.own.s, .int .i64 m.own.m]) (by simp [NM.own])
    have hX3 := hX2.below bX1 hsz
    have hb3 := hb2.trans bX
    clear hP hX2 hb2 bX bX1
    go_wp2_with fail
    go_region
    clear p2 pf2 hO
    generalize (wc.setCell ⟨p, 2, none⟩ (.int .i64 (Go.Proofs.YtpdenmcacaajkaaGreat.ins m.ty.m m.sl : Nat))).drew = w3 at *
    have x0 := hX3.cell 0 (x := .int .i64 h.a) rfl
    have x1 := hX3.cell 1 (x := .int .i64 h.b) rfl
    have x2 := hX3.cell 2 (x := .slice Ax h.x.length cx) rfl
    have x3 := hX3.cell 3 (x := .slice Ay h.y.length cy) rfl
    have x4 := hX3.cell 4 (x := .int .i64 h.o) rfl
    have p0 := hP3.cell 0 (x := .int .i64 m.own.r) rfl
    have p1 := hP3.cell 1 (x := .int .i64 m.own.s) rfl
    have p2 := hP3.cell 2 (x := .int .i64 m.own.m) rfl
    have hF := Lib.hid (firstR_nd p h (.slice Ax h.x.length cx) (.slice Ay h.y.length cy) m.own w3 ((hvx.out.below hb3).more hb3.size) bx ((hvy.out.below hb3).more hb3.size) by_ hP3)
    unfold Fst at hF
    rw [rightL_eq, hn] at hF
    simp only at hF
    rw [show frV Fr.zero (.slice none 0 0) = .agg #[.int .i64 0, .int .i64 0, .int .i64 0, .int .i64 0, .slice none 0 0] from rfl] at hF
    unfold hdV stV at hF
    clear hvx hvy hP3
    go_wp2_with fail
    refine hF.out.mono ?_
    rintro _ w4 ⟨rfl, b4⟩
    have hX5 := (hX3.below b4 hX3.lt).alloc (.cells #[.int .i64 0, .int .i64 0, .int .i64 0, .int .i64 0, .slice none 0 0] 137)
    have b5 := (hb3.trans (b4.mono hb3.size)).alloc (Nat.le_trans hb3.size b4.size) (.cells #[.int .i64 0, .int .i64 0, .int .i64 0, .int .i64 0, .slice none 0 0] 137)
    clear x0 x1 x2 x3 x4 p0 p1 p2 hX3 b4 hb3
    have x0 := hX5.cell 0 (x := .int .i64 h.a) rfl
    have x1 := hX5.cell 1 (x := .int .i64 h.b) rfl
    have x2 := hX5.cell 2 (x := .slice Ax h.x.length cx) rfl
    have x3 := hX5.cell 3 (x := .slice Ay h.y.length cy) rfl
    have x4 := hX5.cell 4 (x := .int .i64 h.o) rfl
    clear hX5
    go_wp2_with fail
    refine (hS _).out.mono ?_
    rintro _ w6 ⟨rfl, b6⟩
    have b6 := b5.trans (b6.mono b5.size)
    have h6 := hk.out.below b6
    have o6 := only_of_below g b6
    clear x0 x1 x2 x3 x4 b5 b6 hF hS
    go_wp2_with fail
    refine (h6.miss m.sl).mono ?_
    rintro _ w7 ⟨rfl, h7, o7⟩
    have o7 := o6.trans o7
    clear h6 o6 hk
    have HI := Lib.hid (h7.drew.is_ m.sl)
    have HM := Lib.hid (h7.drew.member m.sl (isB (m.ty.miss m.sl).m m.sl))
    have o8 := o7.drew
    clear h7 o7
    go_wp2_with fail
    go_still_tail 9, (by kernel_rfl)
    still_call HI.out
    repeat still_step
    refine wpStill_nil ?_
    change wpList _ _ _ _ _ w7.drew
    go_wp2_with fail
    refine HM.out.mono ?_
    rintro _ w8 ⟨rfl, h8, o9⟩
    go_wp2
    exact bodyPost_end (results_none (by rfl) _ _ _) rfl ⟨rfl, h8, o8.trans o9⟩
set_option maxRecDepth 100000 in
set_option maxHeartbeats 4000000 in
theorem judge_wrong (b : Bool) (G : Nat → Prop) (g : Nat) (m : NM) (h : Hn) (vx vy : Value) (w : World) (hm : NA b G w g m) (hh : HOk w h vx vy) (hsl : m.sl < 8) (hn : m.rightL h = none) (hq : ¬ (h.a = 0 ∧ h.b = 0)) (hf : m.ty.f < 1000) :
    Calls Tryz.prog 81 #[.pointer (some ⟨g, 0, none⟩), hdV h vx vy] w fun e w' => e = .returned (.tuple #[]) ∧ NA b G w' g (m.took (m.ty.wrong m.sl) m.so m.ck) ∧ Only g w w' := by
  have hS := fun W => Lib.hid (silent_nd h vx vy W)
  rw [decide_eq_false hq] at hS
  clear hq
  obtain ⟨Ax, cx, ex, -⟩ := hh.x.at_
  obtain ⟨Ay, cy, ey, -⟩ := hh.y.at_
  subst ex; subst ey
  have hmf : ∀ (fn : Fn) (first cap : Array Value) (w : World), (Instr.makeFunc fn first cap).run Tryz.prog w = .ok (.func fn first cap) w := fun _ _ _ _ => rfl
  have hgl := hm.lt
  have hX := Blk.new w w.heap.size rfl #[.int .i64 h.a, .int .i64 h.b, .slice Ax h.x.length cx, .slice Ay h.y.length cy, .int .i64 h.o] 39
  have hb0 := (Below.refl w.heap.size w).alloc (Nat.le_refl _) (.cells #[.int .i64 h.a, .int .i64 h.b, .slice Ax h.x.length cx, .slice Ay h.y.length cy, .int .i64 h.o] 39)
  have hk : Hid (NA b G w g m) := Lib.hid hm
  have hvx := Lib.hid hh.x
  have hvy := Lib.hid hh.y
  have bx := hh.bx
  have by_ := hh.by_
  have hsz : w.heap.size < (w.alloc (.cells #[.int .i64 h.a, .int .i64 h.b, .slice Ax h.x.length cx, .slice Ay h.y.length cy, .int .i64 h.o] 39)).heap.size := by simp
  have hm1 := hm.below hb0
  have hO := or_w hm.tyo (k := m.sl) hsl
  have hsn : (0 : Int) ≤ ((m.sl : Nat) : Int) := by omega
  unfold hdV at *
  clear hm hh
  go_enter Tryz.func81, Tryz.ntmps81
  go_wp2_with fail
  generalize w.alloc (.cells #[.int .i64 h.a, .int .i64 h.b, .slice Ax h.x.length cx, .slice Ay h.y.length cy, .int .i64 h.o] 39) = w1 at *
  have c12 := hm1.c12
  have HV : ∀ W, Below w1.heap.size w1 W → Hid (Calls Tryz.prog 39 #[.pointer (some ⟨g, 0, none⟩)] W fun e w' => e = .returned (csV m.rd m.sl m.ty.m) ∧ Below W.heap.size W w' ∧ Below w1.heap.size w1 w') := fun W hW => Lib.hid ((view_nd b G g m W (hm1.below hW)).mono fun e w' ⟨h1, h2⟩ => ⟨h1, h2, hW.trans (h2.mono hW.size)⟩)
  have HS : ∀ W, Below w1.heap.size w1 W → Hid (W.cell? ⟨g, 12, none⟩ = some (.int .i64 (m.sl : Nat))) := fun W hW => Lib.hid (hm1.below hW).c12
  have hb1 := Below.refl w1.heap.size w1
  unfold csV at HV
  go_cut [4, 5] from 8 (fun s4 s5 W => ∃ p : Nat, s4 = .int .i64 (m.sl : Nat) ∧ s5 = .pointer (some ⟨p, 0, none⟩) ∧ Blk W p #[.int .i64 m.rd, .int .i64 (m.sl : Nat), .int .i64 (m.ty.m : Nat)] 101 ∧ Below w1.heap.size w1 W ∧ w1.heap.size ≤ p)
  case first =>
    go_region_held3 (fun W => W.cell? ⟨g, 12, none⟩ = some (.int .i64 (m.sl : Nat)))
      ((refine (HS _ ?_).out; (repeat' (first | exact hb1 | exact b5 | (with_reducible refine Below.drew ?_) | (with_reducible refine Below.alloc ?_ ?_ _) | exact b5.size | exact Nat.le_refl _ | (with_reducible refine Below.setCell ?_ ?_ _) | omega | (simp; done) | (simp; omega)))))
      (first
        | ((go_at_call 39; with_reducible refine (HV _ ?_).out.mono ?_); (focus ((repeat' (first | exact hb1 | (with_reducible refine Below.drew ?_) | (with_reducible refine Below.alloc ?_ ?_ _) | exact Nat.le_refl _)); done)); rintro _ w5 ⟨rfl, b5', b5⟩; (first | (have hZ : Blk w5 w1.heap.size #[.int .i64 0, .int .i64 0, .int .i64 0] 101 := Blk.below (Blk.drew (Blk.new w1 _ (by simp) _ _)) b5' (by simp)) | (have hZ : Blk w5 w1.heap.size #[.int .i64 0, .int .i64 0, .int .i64 0] 101 := Blk.below (Blk.new w1.drew _ (by simp) _ _) b5' (by simp)) | skip); (first | (have y0 := hZ.cell 0 (x := .int .i64 0) rfl; have y1 := hZ.cell 1 (x := .int .i64 0) rfl; have y2 := hZ.cell 2 (x := .int .i64 0) rfl; have f0 := hZ.frozen 0; have f1 := hZ.frozen 1; have f2 := hZ.frozen 2) | skip)))
    all_goals
      go_wp2_with fail
      go_meet
      first
        | exact ⟨_, rfl, rfl, Blk.new _ _ rfl _ _, b5.alloc b5.size _, b5.size⟩
        | exact ⟨_, rfl, rfl, (((hZ.set 0 (.int .i64 m.rd)).set 1 (.int .i64 (m.sl : Nat))).set 2 (.int .i64 (m.ty.m : Nat))).eq (by simp), ((b5.setCell (Nat.le_refl _) _).setCell (Nat.le_refl _) _).setCell (Nat.le_refl _) _, Nat.le_refl _⟩
  case rest =>
    obtain ⟨p, rfl, rfl, hP, b2, hp⟩ := hcut
    have hX2 := hX.below b2 hsz
    have hb2 := hb0.trans (b2.mono hb0.size)
    clear hX hm1 hb1 HV HS c12 b2
    have p2 := hP.cell 2 (x := .int .i64 (m.ty.m : Nat)) rfl
    have pf2 := hP.frozen 2
    have bX : Below w.heap.size wc (wc.setCell ⟨p, 2, none⟩ (.int .i64 (Go.Proofs.YtpdenmcacaajkaaGreat.ins m.ty.m m.sl : Nat))).drew := ((Below.refl w.heap.size wc).setCell (p := ⟨p, 2, none⟩) (by show w.heap.size ≤ p; omega) _).drew
    have bX1 : Below w1.heap.size wc (wc.setCell ⟨p, 2, none⟩ (.int .i64 (Go.Proofs.YtpdenmcacaajkaaGreat.ins m.ty.m m.sl : Nat))).drew := ((Below.refl w1.heap.size wc).setCell (p := ⟨p, 2, none⟩) hp _).drew
    have hP3 := ((hP.set 2 (.int .i64 (Go.Proofs.YtpdenmcacaajkaaGreat.ins m.ty.m m.sl : Nat))).drew).eq (cs' := #[.int .i64 m.own.r, .int .i64 m.own.s, .int .i64 m.own.m]) (by simp [NM.own])
    have hX3 := hX2.below bX1 hsz
    have hb3 := hb2.trans bX
    clear hP hX2 hb2 bX bX1
    go_wp2_with fail
    go_region
    clear p2 pf2 hO
    generalize (wc.setCell ⟨p, 2, none⟩ (.int .i64 (Go.Proofs.YtpdenmcacaajkaaGreat.ins m.ty.m m.sl : Nat))).drew = w3 at *
    have x0 := hX3.cell 0 (x := .int .i64 h.a) rfl
    have x1 := hX3.cell 1 (x := .int .i64 h.b) rfl
    have x2 := hX3.cell 2 (x := .slice Ax h.x.length cx) rfl
    have x3 := hX3.cell 3 (x := .slice Ay h.y.length cy) rfl
    have x4 := hX3.cell 4 (x := .int .i64 h.o) rfl
    have p0 := hP3.cell 0 (x := .int .i64 m.own.r) rfl
    have p1 := hP3.cell 1 (x := .int .i64 m.own.s) rfl
    have p2 := hP3.cell 2 (x := .int .i64 m.own.m) rfl
    have hF := Lib.hid (firstR_nd p h (.slice Ax h.x.length cx) (.slice Ay h.y.length cy) m.own w3 ((hvx.out.below hb3).more hb3.size) bx ((hvy.out.below hb3).more hb3.size) by_ hP3)
    unfold Fst at hF
    rw [rightL_eq, hn] at hF
    simp only at hF
    rw [show frV Fr.zero (.slice none 0 0) = .agg #[.int .i64 0, .int .i64 0, .int .i64 0, .int .i64 0, .slice none 0 0] from rfl] at hF
    unfold hdV stV at hF
    clear hvx hvy hP3
    go_wp2_with fail
    refine hF.out.mono ?_
    rintro _ w4 ⟨rfl, b4⟩
    have hX5 := (hX3.below b4 hX3.lt).alloc (.cells #[.int .i64 0, .int .i64 0, .int .i64 0, .int .i64 0, .slice none 0 0] 137)
    have b5 := (hb3.trans (b4.mono hb3.size)).alloc (Nat.le_trans hb3.size b4.size) (.cells #[.int .i64 0, .int .i64 0, .int .i64 0, .int .i64 0, .slice none 0 0] 137)
    clear x0 x1 x2 x3 x4 p0 p1 p2 hX3 b4 hb3
    have x0 := hX5.cell 0 (x := .int .i64 h.a) rfl
    have x1 := hX5.cell 1 (x := .int .i64 h.b) rfl
    have x2 := hX5.cell 2 (x := .slice Ax h.x.length cx) rfl
    have x3 := hX5.cell 3 (x := .slice Ay h.y.length cy) rfl
    have x4 := hX5.cell 4 (x := .int .i64 h.o) rfl
    clear hX5
    go_wp2_with fail
    refine (hS _).out.mono ?_
    rintro _ w6 ⟨rfl, b6⟩
    have b6 := b5.trans (b6.mono b5.size)
    have h6 := hk.out.below b6
    have o6 := only_of_below g b6
    clear x0 x1 x2 x3 x4 b5 b6 hF hS
    go_wp2_with fail
    refine (h6.wrong m.sl hf).mono ?_
    rintro _ w7 ⟨rfl, h7, o7⟩
    have o7 := o6.trans o7
    clear h6 o6 hk
    have HI := Lib.hid (h7.drew.is_ m.sl)
    have HM := Lib.hid (h7.drew.member m.sl (isB (m.ty.wrong m.sl).m m.sl))
    have o8 := o7.drew
    clear h7 o7
    go_wp2_with fail
    go_still_tail 9, (by kernel_rfl)
    still_call HI.out
    repeat still_step
    refine wpStill_nil ?_
    change wpList _ _ _ _ _ w7.drew
    go_wp2_with fail
    refine HM.out.mono ?_
    rintro _ w8 ⟨rfl, h8, o9⟩
    go_wp2
    exact bodyPost_end (results_none (by rfl) _ _ _) rfl ⟨rfl, h8, o8.trans o9⟩
set_option maxRecDepth 100000 in
set_option maxHeartbeats 4000000 in
theorem judge_sync (b : Bool) (G : Nat → Prop) (g : Nat) (m : NM) (h : Hn) (vx vy : Value) (l : List Int) (w : World) (hm : NA b G w g m) (hh : HOk w h vx vy) (hsl : m.sl < 8) (hn : m.rightL h = some l) (hG : ∀ x, w.heap.size ≤ x → G x) (ha : m.ty.a < 1000) (hsn : m.sl < m.t.ns.length) (hns : m.t.ns.length ≤ 8) (hsy : (m.at_ m.sl).sy = true) :
    Calls Tryz.prog 81 #[.pointer (some ⟨g, 0, none⟩), hdV h vx vy] w fun e w' => e = .returned (.tuple #[]) ∧ NA b G w' g (m.took (m.ty.right m.sl) (m.so.put m.sl (Fr.res l m.own).d) (keep4 m.ck h.o)) ∧ Only g w w' := by
  obtain ⟨Ax, cx, ex, -⟩ := hh.x.at_
  obtain ⟨Ay, cy, ey, -⟩ := hh.y.at_
  subst ex; subst ey
  have hmf : ∀ (fn : Fn) (first cap : Array Value) (w : World), (Instr.makeFunc fn first cap).run Tryz.prog w = .ok (.func fn first cap) w := fun _ _ _ _ => rfl
  have hgl := hm.lt
  have hX := Blk.new w w.heap.size rfl #[.int .i64 h.a, .int .i64 h.b, .slice Ax h.x.length cx, .slice Ay h.y.length cy, .int .i64 h.o] 39
  have hb0 := (Below.refl w.heap.size w).alloc (Nat.le_refl _) (.cells #[.int .i64 h.a, .int .i64 h.b, .slice Ax h.x.length cx, .slice Ay h.y.length cy, .int .i64 h.o] 39)
  have hk : Hid (NA b G w g m) := Lib.hid hm
  have hvx := Lib.hid hh.x
  have hvy := Lib.hid hh.y
  have bx := hh.bx
  have by_ := hh.by_
  have hsz : w.heap.size < (w.alloc (.cells #[.int .i64 h.a, .int .i64 h.b, .slice Ax h.x.length cx, .slice Ay h.y.length cy, .int .i64 h.o] 39)).heap.size := by simp
  have hm1 := hm.below hb0
  have hO := or_w hm.tyo (k := m.sl) hsl
  have hs0 : (0 : Int) ≤ ((m.sl : Nat) : Int) := by omega
  unfold hdV at *
  clear hm hh
  go_enter Tryz.func81, Tryz.ntmps81
  go_wp2_with fail
  generalize w.alloc (.cells #[.int .i64 h.a, .int .i64 h.b, .slice Ax h.x.length cx, .slice Ay h.y.length cy, .int .i64 h.o] 39) = w1 at *
  have c12 := hm1.c12
  have HV : ∀ W, Below w1.heap.size w1 W → Hid (Calls Tryz.prog 39 #[.pointer (some ⟨g, 0, none⟩)] W fun e w' => e = .returned (csV m.rd m.sl m.ty.m) ∧ Below W.heap.size W w' ∧ Below w1.heap.size w1 w') := fun W hW => Lib.hid ((view_nd b G g m W (hm1.below hW)).mono fun e w' ⟨h1, h2⟩ => ⟨h1, h2, hW.trans (h2.mono hW.size)⟩)
  have HS : ∀ W, Below w1.heap.size w1 W → Hid (W.cell? ⟨g, 12, none⟩ = some (.int .i64 (m.sl : Nat))) := fun W hW => Lib.hid (hm1.below hW).c12
  have hb1 := Below.refl w1.heap.size w1
  unfold csV at HV
  go_cut [4, 5] from 8 (fun s4 s5 W => ∃ p : Nat, s4 = .int .i64 (m.sl : Nat) ∧ s5 = .pointer (some ⟨p, 0, none⟩) ∧ Blk W p #[.int .i64 m.rd, .int .i64 (m.sl : Nat), .int .i64 (m.ty.m : Nat)] 101 ∧ Below w1.heap.size w1 W ∧ w1.heap.size ≤ p)
  case first =>
    go_region_held3 (fun W => W.cell? ⟨g, 12, none⟩ = some (.int .i64 (m.sl : Nat)))
      ((refine (HS _ ?_).out; (repeat' (first | exact hb1 | exact b5 | (with_reducible refine Below.drew ?_) | (with_reducible refine Below.alloc ?_ ?_ _) | exact b5.size | exact Nat.le_refl _ | (with_reducible refine Below.setCell ?_ ?_ _) | omega | (simp; done) | (simp; omega)))))
      (first
        | ((go_at_call 39; with_reducible refine (HV _ ?_).out.mono ?_); (focus ((repeat' (first | exact hb1 | (with_reducible refine Below.drew ?_) | (with_reducible refine Below.alloc ?_ ?_ _) | exact Nat.le_refl _)); done)); rintro _ w5 ⟨rfl, b5', b5⟩; (first | (have hZ : Blk w5 w1.heap.size #[.int .i64 0, .int .i64 0, .int .i64 0] 101 := Blk.below (Blk.drew (Blk.new w1 _ (by simp) _ _)) b5' (by simp)) | (have hZ : Blk w5 w1.heap.size #[.int .i64 0, .int .i64 0, .int .i64 0] 101 := Blk.below (Blk.new w1.drew _ (by simp) _ _) b5' (by simp)) | skip); (first | (have y0 := hZ.cell 0 (x := .int .i64 0) rfl; have y1 := hZ.cell 1 (x := .int .i64 0) rfl; have y2 := hZ.cell 2 (x := .int .i64 0) rfl; have f0 := hZ.frozen 0; have f1 := hZ.frozen 1; have f2 := hZ.frozen 2) | skip)))
    all_goals
      go_wp2_with fail
      go_meet
      first
        | exact ⟨_, rfl, rfl, Blk.new _ _ rfl _ _, b5.alloc b5.size _, b5.size⟩
        | exact ⟨_, rfl, rfl, (((hZ.set 0 (.int .i64 m.rd)).set 1 (.int .i64 (m.sl : Nat))).set 2 (.int .i64 (m.ty.m : Nat))).eq (by simp), ((b5.setCell (Nat.le_refl _) _).setCell (Nat.le_refl _) _).setCell (Nat.le_refl _) _, Nat.le_refl _⟩
  case rest =>
    obtain ⟨p, rfl, rfl, hP, b2, hp⟩ := hcut
    have hX2 := hX.below b2 hsz
    have hb2 := hb0.trans (b2.mono hb0.size)
    clear hX hm1 hb1 HV HS c12 b2
    have p2 := hP.cell 2 (x := .int .i64 (m.ty.m : Nat)) rfl
    have pf2 := hP.frozen 2
    have bX : Below w.heap.size wc (wc.setCell ⟨p, 2, none⟩ (.int .i64 (Go.Proofs.YtpdenmcacaajkaaGreat.ins m.ty.m m.sl : Nat))).drew := ((Below.refl w.heap.size wc).setCell (p := ⟨p, 2, none⟩) (by show w.heap.size ≤ p; omega) _).drew
    have bX1 : Below w1.heap.size wc (wc.setCell ⟨p, 2, none⟩ (.int .i64 (Go.Proofs.YtpdenmcacaajkaaGreat.ins m.ty.m m.sl : Nat))).drew := ((Below.refl w1.heap.size wc).setCell (p := ⟨p, 2, none⟩) hp _).drew
    have hP3 := ((hP.set 2 (.int .i64 (Go.Proofs.YtpdenmcacaajkaaGreat.ins m.ty.m m.sl : Nat))).drew).eq (cs' := #[.int .i64 m.own.r, .int .i64 m.own.s, .int .i64 m.own.m]) (by simp [NM.own])
    have hX3 := hX2.below bX1 hsz
    have hb3 := hb2.trans bX
    clear hP hX2 hb2 bX bX1
    go_wp2_with fail
    go_region
    clear p2 pf2 hO
    generalize (wc.setCell ⟨p, 2, none⟩ (.int .i64 (Go.Proofs.YtpdenmcacaajkaaGreat.ins m.ty.m m.sl : Nat))).drew = w3 at *
    have x0 := hX3.cell 0 (x := .int .i64 h.a) rfl
    have x1 := hX3.cell 1 (x := .int .i64 h.b) rfl
    have x2 := hX3.cell 2 (x := .slice Ax h.x.length cx) rfl
    have x3 := hX3.cell 3 (x := .slice Ay h.y.length cy) rfl
    have x4 := hX3.cell 4 (x := .int .i64 h.o) rfl
    have p0 := hP3.cell 0 (x := .int .i64 m.own.r) rfl
    have p1 := hP3.cell 1 (x := .int .i64 m.own.s) rfl
    have p2 := hP3.cell 2 (x := .int .i64 m.own.m) rfl
    have hF := Lib.hid (firstR_nd p h (.slice Ax h.x.length cx) (.slice Ay h.y.length cy) m.own w3 ((hvx.out.below hb3).more hb3.size) bx ((hvy.out.below hb3).more hb3.size) by_ hP3)
    unfold Fst at hF
    rw [rightL_eq, hn] at hF
    simp only at hF
    unfold hdV stV at hF
    have hl : bytesL (Fr.res l m.own).d := by
      refine res_bytes _ _ ?_
      rcases mem_rows (List.mem_of_find?_eq_some hn) with e | e
      · rw [e]; exact bx
      · rw [e]; exact by_
    generalize hfr : (Fr.res l m.own) = fr at *
    obtain ⟨fk, ⟨f_r, f_s, f_m⟩, fd⟩ := fr
    have HFR := Lib.hid hfr
    unfold frV at hF
    simp only at hF hl
    clear hvx hvy hP3 hfr hn
    go_wp2_with fail
    refine hF.out.mono ?_
    rintro _ w4 ⟨v, rfl, hv, b4⟩
    obtain ⟨A2, c2, rfl, -⟩ := hv.sees.at_
    have hX5 := (hX3.below b4 hX3.lt).alloc (.cells #[.int .i64 fk, .int .i64 f_r, .int .i64 f_s, .int .i64 f_m, .slice A2 fd.length c2] 137)
    have hY5 := Blk.new w4 w4.heap.size rfl #[.int .i64 fk, .int .i64 f_r, .int .i64 f_s, .int .i64 f_m, .slice A2 fd.length c2] 137
    have hD5 := ((hv.dat (F := [g]) (by have := hb3.size; simp; omega)).keep (kp_below ((Below.refl _ w4).alloc (Nat.le_refl _) (.cells #[.int .i64 fk, .int .i64 f_r, .int .i64 f_s, .int .i64 f_m, .slice A2 fd.length c2] 137))))
    have b5 := (hb3.trans (b4.mono hb3.size)).alloc (Nat.le_trans hb3.size b4.size) (.cells #[.int .i64 fk, .int .i64 f_r, .int .i64 f_s, .int .i64 f_m, .slice A2 fd.length c2] 137)
    have h5 := hk.out.below b5
    have o5 := only_of_below g b5
    have hg5 : g ≠ w4.heap.size := by have := hb3.size; have := b4.size; omega
    clear x0 x1 x2 x3 x4 p0 p1 p2 hX3 b4 hb3 b5 hv hF hk
    go_wp2_with fail
    generalize w4.alloc (.cells #[.int .i64 fk, .int .i64 f_r, .int .i64 f_s, .int .i64 f_m, .slice A2 fd.length c2] 137) = w5 at *
    refine (h5.right m.sl ha).mono ?_
    rintro _ w6 ⟨rfl, h6, o6⟩
    have hX6 := hX5.only o6 (by omega)
    have hY6 := hY5.only o6 (Ne.symm hg5)
    have hD6 := hD5.keep (o6.kp (by simp))
    have o6 := o5.trans o6
    have y4 := hY6.cell 4 (x := .slice A2 fd.length c2) rfl
    have HP := Lib.hid (h6.drew.put m.sl (fun x hx => hG x (Nat.le_trans o6.size hx)) (hD6.keep (kp_below (Below.refl _ w6).drew)).1 hl)
    have hX6 := hX6.drew
    have o6 := o6.drew
    clear h5 h6 hX5 hY5 hY6 hD5 hD6 o5
    go_wp2_with fail
    go_still_tail 6, (by kernel_rfl)
    change wpList _ _ _ _ _ w6.drew
    go_wp2_with fail
    refine HP.out.mono ?_
    rintro _ w7 ⟨rfl, h7, o7⟩
    have hX7 := hX6.only o7 (by omega)
    have o7 := o6.trans o7
    clear HP y4 hX6 o6
    obtain ⟨A, c, c0, hT⟩ := h7.cV
    obtain ⟨A', c', e, u1, u2, hSD, -⟩ := hT.at_
    cases e
    obtain ⟨bl, off, rfl, hbl, hAt⟩ := hSD (Nat.lt_of_le_of_lt (Nat.zero_le _) hsn)
    have k0 := (hAt m.sl hsn).c0
    have hsy' : (m.t.ns.getD m.sl default).sy = true := hsy
    change w7.cell? ⟨bl, off + m.sl * 4, none⟩ = some (.bool (m.t.ns.getD m.sl default).sy) at k0
    change w7.cell? ⟨g, 0, none⟩ = some (.slice (some ⟨bl, off, none⟩) m.t.ns.length c) at c0
    rw [hsy'] at k0
    have hnn : ((m.sl : Nat) : Int) < ((m.t.ns.length : Nat) : Int) := by omega
    have hn8 : ((m.t.ns.length : Nat) : Int) ≤ 8 := by omega
    clear hT u1 u2 hSD hAt hsy'
    generalize m.t.ns.length = N at *
    have x4 := hX7.cell 4 (x := .int .i64 h.o) rfl
    have HMs := Lib.hid (h7.drew.measure h.o)
    have o7 := o7.drew
    clear h7 hX7
    go_wp2_with fail
    go_still_tail 5, (by kernel_rfl)
    change wpList _ _ _ _ _ w7.drew
    go_wp2_with fail
    refine HMs.out.mono ?_
    rintro _ wm ⟨rfl, h7, om⟩
    have o7 := o7.trans om
    clear HMs om x4 k0 c0
    have HI := Lib.hid (h7.drew.is_ m.sl)
    have HM := Lib.hid (h7.drew.member m.sl (isB (m.ty.right m.sl).m m.sl))
    have o8 := o7.drew
    clear h7 o7
    go_wp2_with fail
    go_still_tail 9, (by kernel_rfl)
    still_call HI.out
    repeat still_step
    refine wpStill_nil ?_
    change wpList _ _ _ _ _ wm.drew
    go_wp2_with fail
    refine HM.out.mono ?_
    rintro _ w8 ⟨rfl, h8, o9⟩
    go_wp2
    exact bodyPost_end (results_none (by rfl) _ _ _) rfl ⟨rfl, by rw [HFR.out]; exact h8, o8.trans o9⟩
set_option maxRecDepth 100000 in
set_option maxHeartbeats 4000000 in
theorem judge_nosync (b : Bool) (G : Nat → Prop) (g : Nat) (m : NM) (h : Hn) (vx vy : Value) (l : List Int) (w : World) (hm : NA b G w g m) (hh : HOk w h vx vy) (hsl : m.sl < 8) (hn : m.rightL h = some l) (hG : ∀ x, w.heap.size ≤ x → G x) (ha : m.ty.a < 1000) (hsn : m.sl < m.t.ns.length) (hns : m.t.ns.length ≤ 8) (hsy : (m.at_ m.sl).sy = false) :
    Calls Tryz.prog 81 #[.pointer (some ⟨g, 0, none⟩), hdV h vx vy] w fun e w' => e = .returned (.tuple #[]) ∧ NA b G w' g (m.took (m.ty.right m.sl) (m.so.put m.sl (Fr.res l m.own).d) m.ck) ∧ Only g w w' := by
  obtain ⟨Ax, cx, ex, -⟩ := hh.x.at_
  obtain ⟨Ay, cy, ey, -⟩ := hh.y.at_
  subst ex; subst ey
  have hmf : ∀ (fn : Fn) (first cap : Array Value) (w : World), (Instr.makeFunc fn first cap).run Tryz.prog w = .ok (.func fn first cap) w := fun _ _ _ _ => rfl
  have hgl := hm.lt
  have hX := Blk.new w w.heap.size rfl #[.int .i64 h.a, .int .i64 h.b, .slice Ax h.x.length cx, .slice Ay h.y.length cy, .int .i64 h.o] 39
  have hb0 := (Below.refl w.heap.size w).alloc (Nat.le_refl _) (.cells #[.int .i64 h.a, .int .i64 h.b, .slice Ax h.x.length cx, .slice Ay h.y.length cy, .int .i64 h.o] 39)
  have hk : Hid (NA b G w g m) := Lib.hid hm
  have hvx := Lib.hid hh.x
  have hvy := Lib.hid hh.y
  have bx := hh.bx
  have by_ := hh.by_
  have hsz : w.heap.size < (w.alloc (.cells #[.int .i64 h.a, .int .i64 h.b, .slice Ax h.x.length cx, .slice Ay h.y.length cy, .int .i64 h.o] 39)).heap.size := by simp
  have hm1 := hm.below hb0
  have hO := or_w hm.tyo (k := m.sl) hsl
  have hs0 : (0 : Int) ≤ ((m.sl : Nat) : Int) := by omega
  unfold hdV at *
  clear hm hh
  go_enter Tryz.func81, Tryz.ntmps81
  go_wp2_with fail
  generalize w.alloc (.cells #[.int .i64 h.a, .int .i64 h.b, .slice Ax h.x.length cx, .slice Ay h.y.length cy, .int .i64 h.o] 39) = w1 at *
  have c12 := hm1.c12
  have HV : ∀ W, Below w1.heap.size w1 W → Hid (Calls Tryz.prog 39 #[.pointer (some ⟨g, 0, none⟩)] W fun e w' => e = .returned (csV m.rd m.sl m.ty.m) ∧ Below W.heap.size W w' ∧ Below w1.heap.size w1 w') := fun W hW => Lib.hid ((view_nd b G g m W (hm1.below hW)).mono fun e w' ⟨h1, h2⟩ => ⟨h1, h2, hW.trans (h2.mono hW.size)⟩)
  have HS : ∀ W, Below w1.heap.size w1 W → Hid (W.cell? ⟨g, 12, none⟩ = some (.int .i64 (m.sl : Nat))) := fun W hW => Lib.hid (hm1.below hW).c12
  have hb1 := Below.refl w1.heap.size w1
  unfold csV at HV
  go_cut [4, 5] from 8 (fun s4 s5 W => ∃ p : Nat, s4 = .int .i64 (m.sl : Nat) ∧ s5 = .pointer (some ⟨p, 0, none⟩) ∧ Blk W p #[.int .i64 m.rd, .int .i64 (m.sl : Nat), .int .i64 (m.ty.m : Nat)] 101 ∧ Below w1.heap.size w1 W ∧ w1.heap.size ≤ p)
  case first =>
    go_region_held3 (fun W => W.cell? ⟨g, 12, none⟩ = some (.int .i64 (m.sl : Nat)))
      ((refine (HS _ ?_).out; (repeat' (first | exact hb1 | exact b5 | (with_reducible refine Below.drew ?_) | (with_reducible refine Below.alloc ?_ ?_ _) | exact b5.size | exact Nat.le_refl _ | (with_reducible refine Below.setCell ?_ ?_ _) | omega | (simp; done) | (simp; omega)))))
      (first
        | ((go_at_call 39; with_reducible refine (HV _ ?_).out.mono ?_); (focus ((repeat' (first | exact hb1 | (with_reducible refine Below.drew ?_) | (with_reducible refine Below.alloc ?_ ?_ _) | exact Nat.le_refl _)); done)); rintro _ w5 ⟨rfl, b5', b5⟩; (first | (have hZ : Blk w5 w1.heap.size #[.int .i64 0, .int .i64 0, .int .i64 0] 101 := Blk.below (Blk.drew (Blk.new w1 _ (by simp) _ _)) b5' (by simp)) | (have hZ : Blk w5 w1.heap.size #[.int .i64 0, .int .i64 0, .int .i64 0] 101 := Blk.below (Blk.new w1.drew _ (by simp) _ _) b5' (by simp)) | skip); (first | (have y0 := hZ.cell 0 (x := .int .i64 0) rfl; have y1 := hZ.cell 1 (x := .int .i64 0) rfl; have y2 := hZ.cell 2 (x := .int .i64 0) rfl; have f0 := hZ.frozen 0; have f1 := hZ.frozen 1; have f2 := hZ.frozen 2) | skip)))
    all_goals
      go_wp2_with fail
      go_meet
      first
        | exact ⟨_, rfl, rfl, Blk.new _ _ rfl _ _, b5.alloc b5.size _, b5.size⟩
        | exact ⟨_, rfl, rfl, (((hZ.set 0 (.int .i64 m.rd)).set 1 (.int .i64 (m.sl : Nat))).set 2 (.int .i64 (m.ty.m : Nat))).eq (by simp), ((b5.setCell (Nat.le_refl _) _).setCell (Nat.le_refl _) _).setCell (Nat.le_refl _) _, Nat.le_refl _⟩
  case rest =>
    obtain ⟨p, rfl, rfl, hP, b2, hp⟩ := hcut
    have hX2 := hX.below b2 hsz
    have hb2 := hb0.trans (b2.mono hb0.size)
    clear hX hm1 hb1 HV HS c12 b2
    have p2 := hP.cell 2 (x := .int .i64 (m.ty.m : Nat)) rfl
    have pf2 := hP.frozen 2
    have bX : Below w.heap.size wc (wc.setCell ⟨p, 2, none⟩ (.int .i64 (Go.Proofs.YtpdenmcacaajkaaGreat.ins m.ty.m m.sl : Nat))).drew := ((Below.refl w.heap.size wc).setCell (p := ⟨p, 2, none⟩) (by show w.heap.size ≤ p; omega) _).drew
    have bX1 : Below w1.heap.size wc (wc.setCell ⟨p, 2, none⟩ (.int .i64 (Go.Proofs.YtpdenmcacaajkaaGreat.ins m.ty.m m.sl : Nat))).drew := ((Below.refl w1.heap.size wc).setCell (p := ⟨p, 2, none⟩) hp _).drew
    have hP3 := ((hP.set 2 (.int .i64 (Go.Proofs.YtpdenmcacaajkaaGreat.ins m.ty.m m.sl : Nat))).drew).eq (cs' := #[.int .i64 m.own.r, .int .i64 m.own.s, .int .i64 m.own.m]) (by simp [NM.own])
    have hX3 := hX2.below bX1 hsz
    have hb3 := hb2.trans bX
    clear hP hX2 hb2 bX bX1
    go_wp2_with fail
    go_region
    clear p2 pf2 hO
    generalize (wc.setCell ⟨p, 2, none⟩ (.int .i64 (Go.Proofs.YtpdenmcacaajkaaGreat.ins m.ty.m m.sl : Nat))).drew = w3 at *
    have x0 := hX3.cell 0 (x := .int .i64 h.a) rfl
    have x1 := hX3.cell 1 (x := .int .i64 h.b) rfl
    have x2 := hX3.cell 2 (x := .slice Ax h.x.length cx) rfl
    have x3 := hX3.cell 3 (x := .slice Ay h.y.length cy) rfl
    have x4 := hX3.cell 4 (x := .int .i64 h.o) rfl
    have p0 := hP3.cell 0 (x := .int .i64 m.own.r) rfl
    have p1 := hP3.cell 1 (x := .int .i64 m.own.s) rfl
    have p2 := hP3.cell 2 (x := .int .i64 m.own.m) rfl
    have hF := Lib.hid (firstR_nd p h (.slice Ax h.x.length cx) (.slice Ay h.y.length cy) m.own w3 ((hvx.out.below hb3).more hb3.size) bx ((hvy.out.below hb3).more hb3.size) by_ hP3)
    unfold Fst at hF
    rw [rightL_eq, hn] at hF
    simp only at hF
    unfold hdV stV at hF
    have hl : bytesL (Fr.res l m.own).d := by
      refine res_bytes _ _ ?_
      rcases mem_rows (List.mem_of_find?_eq_some hn) with e | e
      · rw [e]; exact bx
      · rw [e]; exact by_
    generalize hfr : (Fr.res l m.own) = fr at *
    obtain ⟨fk, ⟨f_r, f_s, f_m⟩, fd⟩ := fr
    have HFR := Lib.hid hfr
    unfold frV at hF
    simp only at hF hl
    clear hvx hvy hP3 hfr hn
    go_wp2_with fail
    refine hF.out.mono ?_
    rintro _ w4 ⟨v, rfl, hv, b4⟩
    obtain ⟨A2, c2, rfl, -⟩ := hv.sees.at_
    have hX5 := (hX3.below b4 hX3.lt).alloc (.cells #[.int .i64 fk, .int .i64 f_r, .int .i64 f_s, .int .i64 f_m, .slice A2 fd.length c2] 137)
    have hY5 := Blk.new w4 w4.heap.size rfl #[.int .i64 fk, .int .i64 f_r, .int .i64 f_s, .int .i64 f_m, .slice A2 fd.length c2] 137
    have hD5 := ((hv.dat (F := [g]) (by have := hb3.size; simp; omega)).keep (kp_below ((Below.refl _ w4).alloc (Nat.le_refl _) (.cells #[.int .i64 fk, .int .i64 f_r, .int .i64 f_s, .int .i64 f_m, .slice A2 fd.length c2] 137))))
    have b5 := (hb3.trans (b4.mono hb3.size)).alloc (Nat.le_trans hb3.size b4.size) (.cells #[.int .i64 fk, .int .i64 f_r, .int .i64 f_s, .int .i64 f_m, .slice A2 fd.length c2] 137)
    have h5 := hk.out.below b5
    have o5 := only_of_below g b5
    have hg5 : g ≠ w4.heap.size := by have := hb3.size; have := b4.size; omega
    clear x0 x1 x2 x3 x4 p0 p1 p2 hX3 b4 hb3 b5 hv hF hk
    go_wp2_with fail
    generalize w4.alloc (.cells #[.int .i64 fk, .int .i64 f_r, .int .i64 f_s, .int .i64 f_m, .slice A2 fd.length c2] 137) = w5 at *
    refine (h5.right m.sl ha).mono ?_
    rintro _ w6 ⟨rfl, h6, o6⟩
    have hX6 := hX5.only o6 (by omega)
    have hY6 := hY5.only o6 (Ne.symm hg5)
    have hD6 := hD5.keep (o6.kp (by simp))
    have o6 := o5.trans o6
    have y4 := hY6.cell 4 (x := .slice A2 fd.length c2) rfl
    have HP := Lib.hid (h6.drew.put m.sl (fun x hx => hG x (Nat.le_trans o6.size hx)) (hD6.keep (kp_below (Below.refl _ w6).drew)).1 hl)
    have hX6 := hX6.drew
    have o6 := o6.drew
    clear h5 h6 hX5 hY5 hY6 hD5 hD6 o5
    go_wp2_with fail
    go_still_tail 6, (by kernel_rfl)
    change wpList _ _ _ _ _ w6.drew
    go_wp2_with fail
    refine HP.out.mono ?_
    rintro _ w7 ⟨rfl, h7, o7⟩
    have hX7 := hX6.only o7 (by omega)
    have o7 := o6.trans o7
    clear HP y4 hX6 o6
    obtain ⟨A, c, c0, hT⟩ := h7.cV
    obtain ⟨A', c', e, u1, u2, hSD, -⟩ := hT.at_
    cases e
    obtain ⟨bl, off, rfl, hbl, hAt⟩ := hSD (Nat.lt_of_le_of_lt (Nat.zero_le _) hsn)
    have k0 := (hAt m.sl hsn).c0
    have hsy' : (m.t.ns.getD m.sl default).sy = false := hsy
    change w7.cell? ⟨bl, off + m.sl * 4, none⟩ = some (.bool (m.t.ns.getD m.sl default).sy) at k0
    change w7.cell? ⟨g, 0, none⟩ = some (.slice (some ⟨bl, off, none⟩) m.t.ns.length c) at c0
    rw [hsy'] at k0
    have hnn : ((m.sl : Nat) : Int) < ((m.t.ns.length : Nat) : Int) := by omega
    have hn8 : ((m.t.ns.length : Nat) : Int) ≤ 8 := by omega
    clear hT u1 u2 hSD hAt hsy'
    generalize m.t.ns.length = N at *
    clear hX7
    have HI := Lib.hid (h7.drew.is_ m.sl)
    have HM := Lib.hid (h7.drew.member m.sl (isB (m.ty.right m.sl).m m.sl))
    have o8 := o7.drew
    clear h7 o7
    go_wp2_with fail
    clear k0 c0
    go_still_tail 9, (by kernel_rfl)
    still_call HI.out
    repeat still_step
    refine wpStill_nil ?_
    change wpList _ _ _ _ _ w7.drew
    go_wp2_with fail
    refine HM.out.mono ?_
    rintro _ w8 ⟨rfl, h8, o9⟩
    go_wp2
    exact bodyPost_end (results_none (by rfl) _ _ _) rfl ⟨rfl, by rw [HFR.out]; exact h8, o8.trans o9⟩
end Go.Proofs.YtpdenmcacaajkaaGreat
