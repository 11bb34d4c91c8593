/- FrameDecodes holds: any bytes, by any state, as a frame, or refused, is the document's. For all bytes and states. -/
import Derived.Test.YthlanmomgpcbcaaFrP
import Derived.Test.YthlanmomgpcbcaaFrC
import Derived.Test.YthlanmomgpcbcaaFrI
import Derived.Deep.CutBlock
namespace Go.Proofs.Ythlanmomgpcbcaa
open Go.ChangeShapes Go.WideShapes Go.ChangeAt Go.RowKit
open Go.ChangeMaps (open_string shut_string)
open Fr (St F)

/-- What is there behind an append, other blocks than the list's own. -/
theorem grown_cell {W W' : World} {v : Value} (h : W.grownBy W' v.ownBlock) : ∀ b o, b < W.heap.size → v.ownBlock ≠ some b → W'.cell? ⟨b, o, none⟩ = W.cell? ⟨b, o, none⟩ ∧ W'.frozen? ⟨b, o, none⟩ = W.frozen? ⟨b, o, none⟩ := fun b o hb hv => by
  obtain ⟨-, -, -, -, hk⟩ := h
  have e := hk b hb (fun q => hv q.symm)
  refine ⟨?_, ?_⟩
  · unfold World.cell?
    simp only [e]
  · unfold World.frozen?
    simp only [e]
/-- An empty frame in memory, at block g. -/
structure ZB (W : World) (g : Nat) : Prop where
  lt : g < W.heap.size
  c0 : W.cell? ⟨g, 0, none⟩ = some (.int .i64 0)
  c1 : W.cell? ⟨g, 1, none⟩ = some (.int .i64 0)
  c2 : W.cell? ⟨g, 2, none⟩ = some (.int .i64 0)
  c3 : W.cell? ⟨g, 3, none⟩ = some (.int .i64 0)
  c4 : W.cell? ⟨g, 4, none⟩ = some (.slice none 0 0)
  fz : ∀ i, W.frozen? ⟨g, i, none⟩ = false
theorem ZB.by {W W' : World} {g : Nat} (h : ZB W g) (hs : W.heap.size ≤ W'.heap.size) (hc : ∀ o, W'.cell? ⟨g, o, none⟩ = W.cell? ⟨g, o, none⟩ ∧ W'.frozen? ⟨g, o, none⟩ = W.frozen? ⟨g, o, none⟩) : ZB W' g :=
  ⟨by have := h.lt; omega, (hc 0).1.trans h.c0, (hc 1).1.trans h.c1, (hc 2).1.trans h.c2, (hc 3).1.trans h.c3, (hc 4).1.trans h.c4, fun i => (hc i).2.trans (h.fz i)⟩
theorem ZB.below {W W' : World} {g : Nat} (h : ZB W g) (hb : Below W.heap.size W W') : ZB W' g := h.by hb.size fun o => ⟨bcell hb _ _ h.lt, hb.frozen (p := ⟨g, o, none⟩) h.lt⟩
theorem ZB.alloc {W : World} {g : Nat} (h : ZB W g) (o : Obj) : ZB (W.alloc o) g := h.below ((Below.refl _ _).alloc (Nat.le_refl _) o)
theorem ZB.drew {W : World} {g : Nat} (h : ZB W g) : ZB W.drew g := h.below (Below.refl _ _).drew
theorem ZB.new (W : World) (g : Nat) (hg : g = W.heap.size) : ZB (W.alloc (.cells #[.int .i64 0, .int .i64 0, .int .i64 0, .int .i64 0, .slice none 0 0] 26)) g := by
  subst hg
  refine ⟨by simp, ?_, ?_, ?_, ?_, ?_, fun i => World.frozen?_alloc_new _ _ _ _⟩ <;> (rw [World.cell?_alloc_at _ _ _ _ rfl]; rfl)
theorem ZB.grown {W W' : World} {g gE : Nat} (h : ZB W g) (hs : W.heap.size ≤ W'.heap.size) (hg : W.grownBy W' (Value.slice (some ⟨gE, 0, none⟩) 0 0).ownBlock) (hne : gE ≠ g) : ZB W' g := h.by hs fun o => grown_cell hg g o h.lt (by simp [Value.ownBlock]; exact hne)
/-- A frame in memory, at block g. -/
structure FBox (W : World) (g : Nat) (f : F) (A : Option Addr) (c : Nat) : Prop where
  lt : g < W.heap.size
  c0 : W.cell? ⟨g, 0, none⟩ = some (.int .i64 f.k)
  c1 : W.cell? ⟨g, 1, none⟩ = some (.int .i64 f.st.r)
  c2 : W.cell? ⟨g, 2, none⟩ = some (.int .i64 f.st.s)
  c3 : W.cell? ⟨g, 3, none⟩ = some (.int .i64 f.st.m)
  c4 : W.cell? ⟨g, 4, none⟩ = some (.slice A f.d.length c)

theorem fb_set {W : World} {g Bs : Nat} {f : F} {A : Option Addr} {c : Nat} (hz : ZB W g) (ho : OwnsL W Bs (.slice A f.d.length c) f.d) (hg : g < Bs) :
    FBox (((((W.setCell ⟨g, 0, none⟩ (.int .i64 f.k)).setCell ⟨g, 1, none⟩ (.int .i64 f.st.r)).setCell ⟨g, 2, none⟩ (.int .i64 f.st.s)).setCell ⟨g, 3, none⟩ (.int .i64 f.st.m)).setCell ⟨g, 4, none⟩ (.slice A f.d.length c)) g f A c ∧ SeesL (((((W.setCell ⟨g, 0, none⟩ (.int .i64 f.k)).setCell ⟨g, 1, none⟩ (.int .i64 f.st.r)).setCell ⟨g, 2, none⟩ (.int .i64 f.st.s)).setCell ⟨g, 3, none⟩ (.int .i64 f.st.m)).setCell ⟨g, 4, none⟩ (.slice A f.d.length c)) (((((W.setCell ⟨g, 0, none⟩ (.int .i64 f.k)).setCell ⟨g, 1, none⟩ (.int .i64 f.st.r)).setCell ⟨g, 2, none⟩ (.int .i64 f.st.s)).setCell ⟨g, 3, none⟩ (.int .i64 f.st.m)).setCell ⟨g, 4, none⟩ (.slice A f.d.length c)).heap.size (.slice A f.d.length c) f.d := by
  obtain ⟨e0, e1, e2, e3, e4⟩ := cells5 hz.c0 hz.c1 hz.c2 hz.c3 hz.c4 (.int .i64 f.k) (.int .i64 f.st.r) (.int .i64 f.st.s) (.int .i64 f.st.m) (.slice A f.d.length c) _ rfl
  have ho2 := ((((ho.other hg 0 (.int .i64 f.k)).other hg 1 (.int .i64 f.st.r)).other hg 2 (.int .i64 f.st.s)).other hg 3 (.int .i64 f.st.m)).other hg 4 (.slice A f.d.length c)
  exact ⟨⟨by have := hz.lt; simpa [World.setCell] using this, e0, e1, e2, e3, e4⟩, ho2.sees⟩
theorem fb_new {W : World} {Bs : Nat} {f : F} {A : Option Addr} {c : Nat} (ho : OwnsL W Bs (.slice A f.d.length c) f.d) :
    FBox (W.alloc (.cells #[.int .i64 f.k, .int .i64 f.st.r, .int .i64 f.st.s, .int .i64 f.st.m, .slice A f.d.length c] 26)) W.heap.size f A c ∧ SeesL (W.alloc (.cells #[.int .i64 f.k, .int .i64 f.st.r, .int .i64 f.st.s, .int .i64 f.st.m, .slice A f.d.length c] 26)) (W.alloc (.cells #[.int .i64 f.k, .int .i64 f.st.r, .int .i64 f.st.s, .int .i64 f.st.m, .slice A f.d.length c] 26)).heap.size (.slice A f.d.length c) f.d := by
  refine ⟨⟨by simp, ?_, ?_, ?_, ?_, ?_⟩, (SeesL.alloc ho.sees _).more (by simp)⟩ <;> (rw [World.cell?_alloc_at _ _ _ _ rfl]; rfl)
theorem fb_drew {W : World} {g : Nat} {f : F} {A : Option Addr} {c : Nat} (h : FBox W g f A c ∧ SeesL W W.heap.size (.slice A f.d.length c) f.d) : FBox W.drew g f A c ∧ SeesL W.drew W.drew.heap.size (.slice A f.d.length c) f.d :=
  ⟨⟨h.1.lt, h.1.c0, h.1.c1, h.1.c2, h.1.c3, h.1.c4⟩, h.2.drew⟩

set_option maxRecDepth 100000 in
set_option maxHeartbeats 20000000 in
theorem walk_frameDecodes0 (o : St) (v : Value) (l : List Int) (w : World) (hv : SeesL w w.heap.size v l) (hl : bytesL l) :
    Calls Try.prog 4 #[v, stV o] w fun e w' => e = .returned (.bool true) ∧ Below w.heap.size w w' := by
  obtain ⟨A, c, rfl, c1, c2, -, -⟩ := hv.at_
  by_cases h0 : 100 < l.length
  · have q1 : decide ((100 : Int) < (l.length : Nat)) = true := by simp; omega
    unfold stV
    go_enter Try.func4, Try.ntmps4
    go_wp2
    go_ret
    exact ⟨rfl, (Below.refl _ _).alloc (Nat.le_refl _) _⟩
  have q1 : decide ((100 : Int) < (l.length : Nat)) = false := by simp; omega
  have R1 := fun V W (hs : SeesL W W.heap.size V l) => decode_dev V l o W hs hl
  have R2 := fun W (hb : Below w.heap.size w W) => decode_ref (.slice A l.length c) l o W ((hv.below hb).more hb.size) hl
  have hfd : bytesL (Fr.res l o).d := by
    unfold Fr.res
    split
    · exact fun x hx => hl x (List.mem_of_mem_drop (List.mem_of_mem_take hx))
    · exact fun x hx => by cases hx
  unfold Dec at R1 R2
  have hss := sameB_self (Fr.res l o)
  generalize Fr.res l o = f at *
  generalize Fr.err l o = E at *
  unfold frV at R1 R2
  unfold stV at R1 R2 ⊢
  have Q1 := fun V W hs => Lib.hid (R1 V W hs)
  have Q2 := fun W hb => Lib.hid (R2 W hb)
  have hv := Lib.hid hv
  clear R1 R2
  go_enter Try.func4, Try.ntmps4
  go_wp2_with fail
  have hbox := Lib.hid (box3 w (.int .i64 o.r) (.int .i64 o.s) (.int .i64 o.m) 23)
  generalize w.alloc (.cells #[.int .i64 o.r, .int .i64 o.s, .int .i64 o.m] 23) = w0 at *
  have CS := fun (W : World) (hb : Below w0.heap.size w0 W) => (hbox.out.cell W hb).2
  have SV := fun (W : World) (hb : Below w0.heap.size w0 W) => hv.out.below (hbox.out.below.trans (hb.mono (by have := hbox.out.size; omega)))
  obtain ⟨s0, s1, s2⟩ := CS w0 (Below.refl _ _)
  go_cut [5, 6] from 9 (fun s5 s6 W => ∃ (g : Nat) (A1 : Option Addr) (d1 : Nat), s5 = .pointer (some ⟨g, 0, none⟩) ∧ s6 = .int .i64 E ∧ w0.heap.size ≤ g ∧ Below w0.heap.size w0 W ∧ FBox W g f A1 d1 ∧ SeesL W W.heap.size (.slice A1 f.d.length d1) f.d)
  case first =>
    go_region_held3 (fun W => W.cell? ⟨w.heap.size, 0, none⟩ = some (.int .i64 o.r) ∧ W.cell? ⟨w.heap.size, 1, none⟩ = some (.int .i64 o.s) ∧ W.cell? ⟨w.heap.size, 2, none⟩ = some (.int .i64 o.m))
      ((refine CS _ ?_; (repeat' (first | exact hbw4 | exact hb3 | exact Below.refl _ _ | (with_reducible refine Below.setCell ?_ ?_ _) | (with_reducible refine Below.alloc ?_ ?_ _) | (with_reducible refine below_drewN ?_ _) | (with_reducible refine Below.drew ?_) | exact Nat.le_refl _ | exact hb3.size | exact hbw4.size | (simp; done) | (simp; omega) | (have hq := hb3.size; simp; omega) | (have hq := hbw4.size; simp; omega) | fail))))
      (first
        | ((refine step_appendL _ rfl (.tmp 13) (.tmp 14) 24 rfl w0.heap.size infoU8 Try.underlying24 (.slice (some ⟨w0.heap.size, 0, none⟩) 0 0) [] w0 ?_ ?_ rfl w.heap.size (.slice A l.length c) l rfl ?_ ?_ ?_ ?_); (focus (repeat' (first | (with_reducible refine owns_empty _ _ rfl _ _ ?_ ?_) | (with_reducible refine OwnsL.drew ?_) | (with_reducible refine OwnsL.alloc ?_ _) | exact Nat.le_refl _ | rfl | (simp; done) | (simp; omega) | fail))); (focus (repeat' (first | exact hbw4 | exact hb3 | exact Below.refl _ _ | (with_reducible refine Below.setCell ?_ ?_ _) | (with_reducible refine Below.alloc ?_ ?_ _) | (with_reducible refine below_drewN ?_ _) | (with_reducible refine Below.drew ?_) | exact Nat.le_refl _ | exact hb3.size | exact hbw4.size | (simp; done) | (simp; omega) | (have hq := hb3.size; simp; omega) | (have hq := hbw4.size; simp; omega) | fail))); (focus (refine SV _ ?_; (repeat' (first | exact hbw4 | exact hb3 | exact Below.refl _ _ | (with_reducible refine Below.setCell ?_ ?_ _) | (with_reducible refine Below.alloc ?_ ?_ _) | (with_reducible refine below_drewN ?_ _) | (with_reducible refine Below.drew ?_) | exact Nat.le_refl _ | exact hb3.size | exact hbw4.size | (simp; done) | (simp; omega) | (have hq := hb3.size; simp; omega) | (have hq := hbw4.size; simp; omega) | fail)))); (focus (first | exact Nat.le_refl _ | (simp; done) | (simp; omega) | fail)); (focus (simp; omega)); intro v3 w3 ho3 hb3 hg3; try (refine (?_ : ZB w3 (w0.heap.size + 1) → _) ?_; rotate_left 1; (focus (refine ZB.grown ?_ hg3.size hg3 ?_; (focus ((focus (repeat' (first | exact zb3 | (with_reducible refine ZB.new _ _ ?_) | (with_reducible refine ZB.drew ?_) | (with_reducible refine ZB.alloc ?_ _) | rfl | (simp; done) | fail))); done)); omega)); intro zb3))
        | ((refine step_appendL _ rfl (.tmp 13) (.tmp 14) 24 rfl w0.heap.size infoU8 Try.underlying24 (.slice (some ⟨w0.heap.size + 1, 0, none⟩) 0 0) [] w0 ?_ ?_ rfl w.heap.size (.slice A l.length c) l rfl ?_ ?_ ?_ ?_); (focus (repeat' (first | (with_reducible refine owns_empty _ _ rfl _ _ ?_ ?_) | (with_reducible refine OwnsL.drew ?_) | (with_reducible refine OwnsL.alloc ?_ _) | exact Nat.le_refl _ | rfl | (simp; done) | (simp; omega) | fail))); (focus (repeat' (first | exact hbw4 | exact hb3 | exact Below.refl _ _ | (with_reducible refine Below.setCell ?_ ?_ _) | (with_reducible refine Below.alloc ?_ ?_ _) | (with_reducible refine below_drewN ?_ _) | (with_reducible refine Below.drew ?_) | exact Nat.le_refl _ | exact hb3.size | exact hbw4.size | (simp; done) | (simp; omega) | (have hq := hb3.size; simp; omega) | (have hq := hbw4.size; simp; omega) | fail))); (focus (refine SV _ ?_; (repeat' (first | exact hbw4 | exact hb3 | exact Below.refl _ _ | (with_reducible refine Below.setCell ?_ ?_ _) | (with_reducible refine Below.alloc ?_ ?_ _) | (with_reducible refine below_drewN ?_ _) | (with_reducible refine Below.drew ?_) | exact Nat.le_refl _ | exact hb3.size | exact hbw4.size | (simp; done) | (simp; omega) | (have hq := hb3.size; simp; omega) | (have hq := hbw4.size; simp; omega) | fail)))); (focus (first | exact Nat.le_refl _ | (simp; done) | (simp; omega) | fail)); (focus (simp; omega)); intro v3 w3 ho3 hb3 hg3; try (refine (?_ : ZB w3 (w0.heap.size) → _) ?_; rotate_left 1; (focus (refine ZB.grown ?_ hg3.size hg3 ?_; (focus ((focus (repeat' (first | exact zb3 | (with_reducible refine ZB.new _ _ ?_) | (with_reducible refine ZB.drew ?_) | (with_reducible refine ZB.alloc ?_ _) | rfl | (simp; done) | fail))); done)); omega)); intro zb3))
        | ((go_at_call 23; refine (Q1 v3 _ ?_).out.mono ?_); (focus (refine SeesL.more (B := w3.heap.size) ?_ ?_; (repeat' (first | exact ho3.sees | (with_reducible refine SeesL.drew ?_) | (with_reducible refine SeesL.alloc ?_ _) | exact Nat.le_refl _ | (simp; done) | fail)))); rintro e w4 ⟨v4, rfl, ho4, hb4⟩; have hbw4 : Below w0.heap.size w0 w4 := (by refine Below.trans ?_ (hb4.mono ?_) <;> (repeat' (first | exact hbw4 | exact hb3 | exact Below.refl _ _ | (with_reducible refine Below.setCell ?_ ?_ _) | (with_reducible refine Below.alloc ?_ ?_ _) | (with_reducible refine below_drewN ?_ _) | (with_reducible refine Below.drew ?_) | exact Nat.le_refl _ | exact hb3.size | exact hbw4.size | (simp; done) | (simp; omega) | (have hq := hb3.size; simp; omega) | (have hq := hbw4.size; simp; omega) | fail))); obtain ⟨A4, d4, rfl, -⟩ := ho4.sees.at_; try (first | (refine (?_ : ZB w4 (w0.heap.size) → _) ?_; rotate_left 1; (focus (refine ZB.below ?_ hb4; ((focus (repeat' (first | exact zb3 | (with_reducible refine ZB.new _ _ ?_) | (with_reducible refine ZB.drew ?_) | (with_reducible refine ZB.alloc ?_ _) | rfl | (simp; done) | fail))); done))); intro zb4) | (refine (?_ : ZB w4 (w0.heap.size + 1) → _) ?_; rotate_left 1; (focus (refine ZB.below ?_ hb4; ((focus (repeat' (first | exact zb3 | (with_reducible refine ZB.new _ _ ?_) | (with_reducible refine ZB.drew ?_) | (with_reducible refine ZB.alloc ?_ _) | rfl | (simp; done) | fail))); done))); intro zb4) | (refine (?_ : ZB w4 (w3.heap.size) → _) ?_; rotate_left 1; (focus (refine ZB.below ?_ hb4; ((focus (repeat' (first | exact zb3 | (with_reducible refine ZB.new _ _ ?_) | (with_reducible refine ZB.drew ?_) | (with_reducible refine ZB.alloc ?_ _) | rfl | (simp; done) | fail))); done))); intro zb4) | fail); try (obtain ⟨zl, y0, y1, y2, y3, y4, yf⟩ := zb4; have yf0 := yf 0; have yf1 := yf 1; have yf2 := yf 2; have yf3 := yf 3; have yf4 := yf 4))
        | fail)
    all_goals
      go_wp2_with fail
      go_meet
      refine ⟨_, A4, d4, rfl, rfl, ?_, ?_, ?_⟩
      · first | exact Nat.le_refl _ | exact Nat.le_succ _ | exact hb3.size | exact hbw4.size
      · (repeat' (first | exact hbw4 | exact hb3 | exact Below.refl _ _ | (with_reducible refine Below.setCell ?_ ?_ _) | (with_reducible refine Below.alloc ?_ ?_ _) | (with_reducible refine below_drewN ?_ _) | (with_reducible refine Below.drew ?_) | exact Nat.le_refl _ | exact hb3.size | exact hbw4.size | (simp; done) | (simp; omega) | (have hq := hb3.size; simp; omega) | (have hq := hbw4.size; simp; omega) | fail))
      · first
          | exact fb_new ho4
          | exact fb_drew (fb_new ho4)
          | (refine fb_set ⟨zl, y0, y1, y2, y3, y4, yf⟩ ho4 ?_; (first | (simp; done) | (have hq := zb3.lt; simp; omega)))
          | (refine fb_drew (fb_set ⟨zl, y0, y1, y2, y3, y4, yf⟩ ho4 ?_); (first | (simp; done) | (have hq := zb3.lt; simp; omega)))
  case rest =>
    obtain ⟨g, A1, d1, rfl, rfl, hg, hb1, hF, hs1⟩ := hcut
    obtain ⟨s0, s1, s2⟩ := CS wc hb1
    have hw0 := hbox.out.size
    clear Q1 SV
    go_wp2_with fail
    refine (Q2 _ (hbox.out.below.trans (hb1.mono (by omega)))).out.mono ?_
    rintro e w5 ⟨v5, rfl, ho5, hb5⟩
    have hb2 := hb1.trans (hb5.mono hb1.size)
    obtain ⟨A5, d5, rfl, -⟩ := ho5.sees.at_
    have hX := hb5.alloc hb5.size (.cells #[.int .i64 f.k, .int .i64 f.st.r, .int .i64 f.st.s, .int .i64 f.st.m, .slice A5 f.d.length d5] 26)
    have hb3 := hb2.alloc hb2.size (.cells #[.int .i64 f.k, .int .i64 f.st.r, .int .i64 f.st.s, .int .i64 f.st.m, .slice A5 f.d.length d5] 26)
    have f0 := (bcell hX g 0 hF.lt).trans hF.c0
    have f1 := (bcell hX g 1 hF.lt).trans hF.c1
    have f2 := (bcell hX g 2 hF.lt).trans hF.c2
    have f3 := (bcell hX g 3 hF.lt).trans hF.c3
    have f4 := (bcell hX g 4 hF.lt).trans hF.c4
    have QS := same_ref f f _ _ (w5.alloc (.cells #[.int .i64 f.k, .int .i64 f.st.r, .int .i64 f.st.s, .int .i64 f.st.m, .slice A5 f.d.length d5] 26)) ((hs1.below hX).more hX.size) ((SeesL.alloc ho5.sees _).more (by simp)) hfd hfd
    rw [hss] at QS
    unfold frV at QS
    have QS2 := Lib.hid QS
    have hbn := (box5 w5 (.int .i64 f.k) (.int .i64 f.st.r) (.int .i64 f.st.s) (.int .i64 f.st.m) (.slice A5 f.d.length d5) 26).cell _ (Below.refl _ _)
    obtain ⟨-, j0, j1, j2, j3, j4⟩ := hbn
    clear QS Q2 hss hF hs1 ho5 hb5 hX hb1 hb2 CS s0 s1 s2
    go_upto_region 5 with fail
    generalize w5.alloc (.cells #[.int .i64 f.k, .int .i64 f.st.r, .int .i64 f.st.s, .int .i64 f.st.m, .slice A5 f.d.length d5] 26) = w6 at *
    go_wp2_with fail
    refine QS2.out.mono ?_
    rintro e w7 ⟨rfl, hb7⟩
    have hb8 := hbox.out.below.trans ((hb3.trans (hb7.mono hb3.size)).mono (by omega))
    clear QS2 f0 f1 f2 f3 f4 j0 j1 j2 j3 j4
    go_wp2_with (go_at_call 22; refine (knownFr_any _).mono ?_; rintro e wf ⟨rfl, hb6⟩)
    go_ret
    exact ⟨by simp, hb8.trans (hb6.mono hb8.size)⟩
theorem walk_frameDecodes (A : Option Addr) (n c : Nat) (z : Nat → Int) (o : St) (w : World) (h : InBytesN w A n c z) (_ho : InState o) :
    Calls Try.prog 4 #[.slice A n c, stV o] w fun e w' => e = .returned (.bool true) ∧ Below w.heap.size w w' := by
  obtain ⟨hv, hd⟩ := h.list
  exact walk_frameDecodes0 o _ _ w hv hd

/-! ### THE ROW's STEP around the walk. -/
theorem own_frameDecodes : ownKnob Try.prog.godebug = none := by kernel_rfl
theorem laidOut_frameDecodes : laidOutB Try.prog = true := by kernel_rfl
set_option maxRecDepth 100000 in
theorem lifted_frameDecodes (os : Os) (started : os.Started) (H : Type) (enc : TypeId × Value → H) :
    ReturnsInHanded {} Try.checked os 4 .any (Rows.frameDecodesSpec.pre6 enc Try.prog Try.f4 Rows.frameDecodesRow.domain false) (Rows.frameDecodesSpec.post enc Try.prog Try.f4 false true false false) := by
  refine returnsInHanded_of_change_sized (C := Try.checked) own_frameDecodes started (by kernel_rfl) Try.func4
    (ChangeSpec.witness6 (enc := enc) (C := Try.checked) false ⟨#[], #[.slice none 0 0, .agg #[.int .i64 0, .int .i64 0, .int .i64 0]], []⟩ 8 (by kernel_rfl) (by kernel_rfl) (by kernel_rfl) (by kernel_rfl)) ?_
  intro W base args ds gs before hval0 hW hcnd hsz0 _
  have hval : ∀ (j : Nat) t v, Try.f4.params[j]? = some t → args[j]? = some v → Value.okWide Try.prog W .any base t v := hval0
  have hW' := hW
  obtain ⟨p, q, hA0, hV, rfl, hfz, hnd⟩ := hW
  have hA : DataW.TrodAll enc Try.prog W 0 (fun _ => true) true Try.f4.params.toList args.toList ds p := hA0
  have hsz : (DataW.weightsEach Try.prog (Try.f4.params.toList ++ Rows.frameDecodesSpec.plain.varTypes Try.prog) (ds ++ gs)).all (· ≤ reachBytes) = true := hsz0
  rw [Try.params4] at hA hval hsz
  obtain ⟨v0, vs0, d0, ds0, p0, q0, hargs, rfl, rfl, h0, r0⟩ := trodAll_cons hA
  obtain ⟨v1, vs1, d1, ds1, p1, q1, rfl, rfl, rfl, h1, r1⟩ := trodAll_cons r0
  obtain ⟨rfl, rfl, rfl⟩ := trodAll_nil r1
  obtain rfl : args = #[v0, v1] := by cases args; simp_all
  obtain ⟨rfl, rfl⟩ := trodVars_none hV
  obtain ⟨A0, n0, c0, rfl⟩ := okWide_slice Try.underlying24 (hval 0 24 v0 rfl rfl)
  have k0 := h0
  have lt0 : ∀ x ∈ p0, x.block < W.heap.size := by obtain ⟨m, hm⟩ := k0; exact DataW.trod_lt m _ _ _ hm
  obtain ⟨z0, s0⟩ := sees_bytesn Try.underlying24 Try.underlying5 (by kernel_rfl) h0 (by kernel_rfl) (fun _ _ hd => sized_slice hsz (j := 0) (t := 24) (e := 5) rfl (congrArg some hd) Try.underlying24)
  obtain ⟨y1, rfl, s1⟩ := sees_state Try.underlying23 (by kernel_rfl) ⟨rfl, rfl⟩ ⟨rfl, rfl⟩ ⟨rfl, rfl⟩ Try.underlying3 (by kernel_rfl) (hval 1 23 v1 rfl rfl) h1
  have k1 := h1
  have lt1 : ∀ x ∈ p1, x.block < W.heap.size := by obtain ⟨m, hm⟩ := k1; exact DataW.trod_lt m _ _ _ hm
  clear hA0 hval0
  refine (walk_frameDecodes A0 n0 c0 z0 y1 W s0 s1).mono fun e W' ⟨he, bel⟩ => ?_
  subst he
  exact ⟨_, rfl, _, _, _, [], _, [], hW', trodAll_mk1 (shut_bool Try.underlying4 _), (trodAll_cons_mk (Below.trod laidOut_frameDecodes (by kernel_rfl) (of_decide_eq_true (by kernel_rfl)) k0 bel lt0) (trodAll_cons_mk (Below.trod laidOut_frameDecodes (by kernel_rfl) (of_decide_eq_true (by kernel_rfl)) k1 bel lt1) trodAll_mk0)), rfl, bel.frame _, fun h => by cases h⟩

theorem over_frameDecodes : Rows.frameDecodesRow.holds Try.pinned (OpenSpec.ofChange Rows.frameDecodesSpec) :=
  OpenClaim.holds_of_wide 4 Try.f4 rfl rfl rfl rfl rfl rfl rfl ⟨rfl, rfl, rfl, rfl, rfl⟩ rfl rfl rfl rfl rfl (by kernel_rfl) Try.func4 (by kernel_rfl)
    (of_decide_eq_true (by kernel_rfl)) (by unfold Func.isWrapper; first | (rw [if_pos (by decide +kernel)]; kernel_rfl) | (rw [if_neg (by decide +kernel)]; exact ⟨rfl, rfl⟩))
    (fun os started H enc _ => lifted_frameDecodes os started H enc)

theorem proved_frameDecodes : Rows.FrameDecodesSaid := over_frameDecodes
end Go.Proofs.Ythlanmomgpcbcaa
