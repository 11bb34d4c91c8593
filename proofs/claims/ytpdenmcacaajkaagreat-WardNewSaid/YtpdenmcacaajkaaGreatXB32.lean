/- Texts SgB1, SgA2 in one. For what each says in front of its theorems. -/
import Derived.Test.YtpdenmcacaajkaaGreatXB9
import Derived.Test.YtpdenmcacaajkaaGreatXB29
import Derived.Test.YtpdenmcacaajkaaGreatXB31
/-! ### SgB1 -/
namespace Go.Proofs.YtpdenmcacaajkaaGreat
open Go.RowKit
open Clk (avg)
open Fr (St F)

set_option maxRecDepth 100000 in
set_option maxHeartbeats 4000000 in
theorem learn_gp1 (c : Cx 1) (g : Nat) (s : G) (v : Value) (l : List Int) (at_ : Int) (w : World) (h : GPt1 c w g s) (hn : s.n ≤ 8) (hm : 0 ≤ s.lm ∧ s.lm ≤ 9223372036854775807) (hv : SeesL w w.heap.size v l) (hl : bytesL l)
    (_hat : time at_) (hnow : time (at_ + termV s.lm [])) :
    Calls Tryz.prog 192 #[.pointer (some ⟨g, 1, none⟩), v, .int .i64 at_] w fun e w' => e = .returned (.tuple #[]) ∧ GPt1 c w' g (s.learnt l at_) ∧ Only g w w' := by
  have hD := Lib.hid (decode_dev v l z0 w hv hl)
  have hts := Lib.hid (tells_slot hl)
  unfold Dec stV z0 at hD
  unfold G.learnt tells
  simp only at hD
  have ez : (⟨0, 0, 0⟩ : St) = z0 := rfl
  rw [ez] at hD
  generalize Fr.err l z0 = er at *
  generalize Fr.res l z0 = R at *
  obtain ⟨k, ⟨r, sl, m⟩, d⟩ := R
  unfold frV at hD
  simp only at hD hts ⊢
  clear ez
  go_enter Tryz.func192, Tryz.ntmps192
  go_wp2_with fail
  refine hD.out.mono ?_
  rintro e w1 ⟨v1, rfl, ho, hb⟩
  obtain ⟨A1, n1, rfl, -⟩ := ho.sees.at_
  have hB1 := (hb.alloc hb.size (.cells #[.int .i64 k, .int .i64 r, .int .i64 sl, .int .i64 m, .slice A1 d.length n1] 137))
  have H1 := h.below hB1 h.lt
  have hO1 := only_of_below g hB1
  have hX := Blk.new w1 _ rfl #[.int .i64 k, .int .i64 r, .int .i64 sl, .int .i64 m, .slice A1 d.length n1] 137
  have hgw : g < w1.heap.size := Nat.lt_of_lt_of_le h.lt hb.size
  go_wp2_with fail
  generalize hW1 : w1.alloc (.cells #[.int .i64 k, .int .i64 r, .int .i64 sl, .int .i64 m, .slice A1 d.length n1] 137) = W1 at *
  have x0 := hX.cell 0 (x := .int .i64 k) rfl
  have x2 := hX.cell 2 (x := .int .i64 sl) rfl
  have c8 := PBa (H1.1.cell 8 (x := .int .i64 (s.n : Nat)) rfl) (show 1 + 8 = 9 from rfl)
  generalize w1.heap.size = b at *
  clear ho hB1 hW1 hb hX hD hv
  have HH : Hid (∀ n, GPt1 c (W1.drewN n) g s) := Lib.hid fun n => ⟨H1.1.drewN n, H1.2⟩
  have HO : Hid (∀ n, Only g w (W1.drewN n)) := Lib.hid fun n => hO1.trans (only_of_below g (below_drewN (Below.refl _ W1) n))
  clear H1 hO1 h
  by_cases p1 : er = 0
  · subst p1
    obtain ⟨s0, s8⟩ := hts.out rfl
    by_cases p2 : k = 1
    · subst p2
      go_quiet (fail)
      go_wp2
      exact bodyPost_ret (results_none (by rfl) _ _ _) rfl ⟨rfl, HH.out _, HO.out _⟩
    · have q2 : (k == 1) = false := by rw [beq_eq_false_iff_ne]; exact p2
      by_cases p3 : sl < (s.n : Int)
      · have q3 : decide ((s.n : Int) ≤ sl) = false := decide_eq_false (by omega)
        have HX : Hid (∀ n, (W1.drewN n).cell? ⟨b, 2, none⟩ = some (.int .i64 sl)) := Lib.hid fun n => ((below_drewN (Below.refl (b + 1) W1) n).cell (p := ⟨b, 2, none⟩) (Nat.lt_succ_self _)).trans x2
        go_quiet (fail)
        have H2 := HH.out nq
        have hO2 := HO.out nq
        have y2 := HX.out nq
        clear HX HH HO x0 x2 c8
        generalize W1.drewN nq = W2 at *
        clear q3
        have c16 := PBa (H2.1.cell 16 (x := .int .i64 s.now) rfl) (show 1 + 16 = 17 from rfl)
        have c17 := PBa (H2.1.cell 17 (x := .bool s.kn) rfl) (show 1 + 17 = 18 from rfl)
        have c18 := PBa (H2.1.cell 18 (x := .int .i64 (s.slot : Nat)) rfl) (show 1 + 18 = 19 from rfl)
        have c19 := PBa (H2.1.cell 19 (x := .int .i64 (s.si : Nat)) rfl) (show 1 + 19 = 20 from rfl)
        have f16 := H2.1.frozen 17
        have f17 := H2.1.frozen 18
        have f18 := H2.1.frozen 19
        have f19 := H2.1.frozen 20
        have H2 := Lib.hid H2
        have hO2 := Lib.hid hO2
        have es : sl = (sl.toNat : Int) := by omega
        have H3 : Hid (GPt1 c ((((W2.setCell ⟨g, 18, none⟩ (.bool true)).setCell ⟨g, 19, none⟩ (.int .i64 sl)).setCell ⟨g, 17, none⟩ (.int .i64 at_)).setCell ⟨g, 20, none⟩ (.int .i64 0)).drew g { s with kn := true, slot := sl.toNat, now := at_, si := 0 }) := Lib.hid
          ⟨(((((H2.out.1.set 17 (by simp [grd]) (.bool true)).set 18 (by simp [grd]) (.int .i64 sl)).set 16 (by simp [grd]) (.int .i64 at_)).set 19 (by simp [grd]) (.int .i64 ((0 : Nat) : Int))).drew).eq (by rw [grd_kn, congrArg (Value.int .i64) es, grd_slot, grd_now, grd_si]), H2.out.2⟩
        have hO3 := Lib.hid (((((hO2.out.set 18 (.bool true)).set 19 (.int .i64 sl)).set 17 (.int .i64 at_)).set 20 (.int .i64 0)).drew)
        have HE := Lib.hid es
        clear es
        go_wp2_with fail
        go_region
        generalize ((((W2.setCell ⟨g, 18, none⟩ (.bool true)).setCell ⟨g, 19, none⟩ (.int .i64 sl)).setCell ⟨g, 17, none⟩ (.int .i64 at_)).setCell ⟨g, 20, none⟩ (.int .i64 0)).drew = W3 at *
        go_wp2_with fail
        refine (clear_gp1 c g _ _ H3.out).mono ?_
        rintro e w4 ⟨rfl, H4, hO4⟩
        go_wp2_with fail
        refine (goOn_gp1 c g _ _ H4 (by show sl.toNat < s.n; omega) hn (by simp [small]) hm (fun _ => hnow)).mono ?_
        rintro e w5 ⟨rfl, H5, hO5⟩
        go_wp2
        exact bodyPost_end (results_none (by rfl) _ _ _) rfl ⟨rfl, by simpa [p2, p3] using H5, (hO3.out.trans hO4).trans hO5⟩
      · have q3 : decide ((s.n : Int) ≤ sl) = true := decide_eq_true (by omega)
        go_quiet (fail)
        go_wp2
        exact bodyPost_ret (results_none (by rfl) _ _ _) rfl ⟨rfl, by simpa [p2, p3] using HH.out _, HO.out _⟩
  · have q1 : (er != 0) = true := by rw [bne_iff_ne]; exact p1
    go_quiet (fail)
    all_goals
      go_wp2
      all_goals exact bodyPost_ret (results_none (by rfl) _ _ _) rfl ⟨rfl, by simpa [p1] using HH.out _, HO.out _⟩



set_option maxRecDepth 100000 in
set_option maxHeartbeats 4000000 in
theorem end_gp1 (c : Cx 1) (g : Nat) (s : G) (v : Value) (l : List Int) (at_ : Int) (w : World) (h : GPt1 c w g s) (ok : s.Ok at_) (hv : SeesL w w.heap.size v l) (hl : bytesL l) :
    Calls Tryz.prog 182 #[.pointer (some ⟨g, 1, none⟩), v, .int .i64 at_] w fun e w' => e = .returned (.tuple #[]) ∧ GPt1 c w' g (s.ended l at_) ∧ Only g w w' := by
  obtain ⟨o1, o2, o3, o4, o5, o6, o7⟩ := ok
  have o4' : 0 ≤ s.lm ∧ s.lm ≤ 9223372036854775807 := ⟨o4.1, by omega⟩
  have tb := fun l => term_bd s.lm l o4.1
  have H1 := Lib.hid (learn_gp1 c g s v l at_ w h o1 o4' hv hl (by unfold time; omega) (by have := tb []; unfold time; omega))
  have H2 := Lib.hid (hear_gp1 c g s at_ w h o2 o1 o3 o4' (by unfold time; omega) (by unfold time; omega) (fun _ => o6) (fun _ => by have := tb (if s.sy s.slot then keep4 s.l (at_ - s.now) else s.l); unfold time; omega))
  have H3 := Lib.hid (miss_gp1 c g s w h o2 o1 o3 o4' o7 (fun _ => by have := tb s.l; unfold time; omega))
  have c17 := PBa (h.1.cell 17 (x := .bool s.kn) rfl) (show 1 + 17 = 18 from rfl)
  obtain ⟨A, c, rfl, -⟩ := hv.at_
  unfold G.ended
  clear h hv tb
  cases hk : s.kn
  · rw [hk] at c17
    go_enter Tryz.func182, Tryz.ntmps182
    go_wp2_with fail
    refine H1.out.mono ?_
    rintro e w4 ⟨rfl, H4, hO4⟩
    go_wp2
    exact bodyPost_end (results_none (by rfl) _ _ _) rfl ⟨rfl, H4, hO4⟩
  · rw [hk] at c17
    by_cases h0 : 0 < l.length
    · have q1 : decide ((0 : Int) < (l.length : Nat)) = true := decide_eq_true (by omega)
      go_enter Tryz.func182, Tryz.ntmps182
      go_wp2_with fail
      refine H2.out.mono ?_
      rintro e w4 ⟨rfl, H4, hO4⟩
      go_wp2
      exact bodyPost_end (results_none (by rfl) _ _ _) rfl ⟨rfl, by simpa [h0] using H4, hO4⟩
    · have q1 : decide ((0 : Int) < (l.length : Nat)) = false := decide_eq_false (by omega)
      go_enter Tryz.func182, Tryz.ntmps182
      go_wp2_with fail
      refine H3.out.mono ?_
      rintro e w4 ⟨rfl, H4, hO4⟩
      go_wp2
      exact bodyPost_end (results_none (by rfl) _ _ _) rfl ⟨rfl, by simpa [h0] using H4, hO4⟩
set_option maxRecDepth 100000 in
set_option maxHeartbeats 4000000 in
theorem pass_gp1 (c : Cx 1) (g : Nat) (s : G) (f : Nat → Bool) (a : Nat → Int) (w : World) (h : GPt1 c w g s) (hn : s.n ≤ 8) (hs : s.slot < 8) (hnow : time s.now) (hat : time (a s.slot)) (hwi : 0 ≤ s.wi ∧ s.wi ≤ 2305843009213693952) :
    Calls Tryz.prog 177 #[.pointer (some ⟨g, 1, none⟩), bools8 f, ints8 a] w fun e w' => e = .returned (.int .i64 (s.pass f a)) ∧ Below w.heap.size w w' := by
  have hB := ((Below.refl w.heap.size w).alloc (Nat.le_refl _) (.cells #[.bool (f 0), .bool (f 1), .bool (f 2), .bool (f 3), .bool (f 4), .bool (f 5), .bool (f 6), .bool (f 7)] 150)).alloc (by simp) (.cells #[.int .i64 (a 0), .int .i64 (a 1), .int .i64 (a 2), .int .i64 (a 3), .int .i64 (a 4), .int .i64 (a 5), .int .i64 (a 6), .int .i64 (a 7)] 66)
  have hX := (Blk.new w _ rfl #[.bool (f 0), .bool (f 1), .bool (f 2), .bool (f 3), .bool (f 4), .bool (f 5), .bool (f 6), .bool (f 7)] 150).alloc (.cells #[.int .i64 (a 0), .int .i64 (a 1), .int .i64 (a 2), .int .i64 (a 3), .int .i64 (a 4), .int .i64 (a 5), .int .i64 (a 6), .int .i64 (a 7)] 66)
  have hY := Blk.new (w.alloc (.cells #[.bool (f 0), .bool (f 1), .bool (f 2), .bool (f 3), .bool (f 4), .bool (f 5), .bool (f 6), .bool (f 7)] 150)) (w.heap.size + 1) (by simp) #[.int .i64 (a 0), .int .i64 (a 1), .int .i64 (a 2), .int .i64 (a 3), .int .i64 (a 4), .int .i64 (a 5), .int .i64 (a 6), .int .i64 (a 7)] 66
  have hG := h.below hB h.lt
  unfold bools8 ints8
  go_enter Tryz.func177, Tryz.ntmps177
  generalize hw0 : (w.alloc (.cells #[.bool (f 0), .bool (f 1), .bool (f 2), .bool (f 3), .bool (f 4), .bool (f 5), .bool (f 6), .bool (f 7)] 150)).alloc (.cells #[.int .i64 (a 0), .int .i64 (a 1), .int .i64 (a 2), .int .i64 (a 3), .int .i64 (a 4), .int .i64 (a 5), .int .i64 (a 6), .int .i64 (a 7)] 66) = w0 at *
  have c17 := PBa (hG.1.cell 17 (x := .bool s.kn) rfl) (show 1 + 17 = 18 from rfl)
  unfold G.pass
  cases hk : s.kn
  · rw [hk] at c17
    have c8 := PBa (hG.1.cell 8 (x := .int .i64 (s.n : Nat)) rfl) (show 1 + 8 = 9 from rfl)
    have hI := Lib.hid (index_sl w.heap.size s.n 8 f w0 (fun k hk => hX.cell k (b8_get f k (by omega))) hn)
    simp only [Bool.false_eq_true, if_false]
    generalize fst f s.n = r at *
    have i1 : (0 : Int) ≤ (s.n : Int) := by omega
    have i2 : (s.n : Int) ≤ 8 := by omega
    clear hX hY h hG
    go_wp2_with fail
    refine hI.out.mono ?_
    rintro e w2 ⟨rfl, rfl⟩
    go_wp2
    go_ret
    exact ⟨rfl, hB⟩
  · rw [hk] at c17
    have cx := hX.cell s.slot (b8_get f s.slot hs)
    have cy := hY.cell s.slot (i8_get a s.slot hs)
    have c9 := PBa (hG.1.cell 9 (x := .int .i64 s.wi) rfl) (show 1 + 9 = 10 from rfl)
    have c16 := PBa (hG.1.cell 16 (x := .int .i64 s.now) rfl) (show 1 + 16 = 17 from rfl)
    have c18 := PBa (hG.1.cell 18 (x := .int .i64 (s.slot : Nat)) rfl) (show 1 + 18 = 19 from rfl)
    have i1 : (0 : Int) ≤ (s.slot : Int) := by omega
    have i2 : (s.slot : Int) < 8 := by omega
    have hN := fun W => Lib.hid ((near_gd (a s.slot) s.now s.wi W hat hnow hwi).mono fun e w' (h : e = .returned (.bool (nearB (a s.slot) s.now s.wi)) ∧ W = w') => (⟨h.1, h.2.symm⟩ : e = .returned (.bool (nearB (a s.slot) s.now s.wi)) ∧ w' = W))
    have HB : Hid (∀ n, Below w.heap.size w (w0.drewN n)) := Lib.hid fun n => below_drewN hB n
    have H18 : Hid (∀ n, (w0.drewN n).cell? ⟨g, 19, none⟩ = some (.int .i64 (s.slot : Nat))) := Lib.hid fun n => (hG.1.drewN n).cell 18 rfl
    generalize f s.slot = q at *
    generalize a s.slot = x at *
    generalize nearB x s.now s.wi = q2 at *
    clear hX hY h hG
    cases q
    · clear hN
      simp only [Bool.false_and, Bool.false_eq_true, if_false, if_true]
      go_wp2_with fail
      go_quiet (fail)
      all_goals
        go_wp2
        all_goals
          go_ret
          exact ⟨rfl, HB.out _⟩
    · cases q2
      all_goals
        simp only [Bool.true_and, Bool.false_eq_true, if_false, if_true]
        go_wp2_with fail
        go_quiet (first | (go_at_call 189; refine Calls.quiet_of_same (hN _).out))
        have c18' := H18.out nq
        have hB' := HB.out nq
        generalize w0.drewN nq = w3 at *
        go_wp2
        go_ret
        exact ⟨rfl, hB'⟩
end Go.Proofs.YtpdenmcacaajkaaGreat

/-! ### SgA2 -/
namespace Go.Proofs.YtpdenmcacaajkaaGreat
open Go.RowKit
open Clk (avg)

/-- A guardian within a block. -/
def GPt2 (c : Cx 21) (W : World) (g : Nat) (s : G) : Prop := PB c W g (grd s) ∧ s.l.length ≤ 4
section
variable {c : Cx 21} {W W' : World} {g : Nat} {s : G}
theorem GPt2.below (h : GPt2 c W g s) {B : Nat} (hb : Below B W W') (hg : g < B) : GPt2 c W' g s := ⟨h.1.below hb hg, h.2⟩
theorem GPt2.lt (h : GPt2 c W g s) : g < W.heap.size := h.1.lt
theorem GPt2.clk (h : GPt2 c W g s) : W.cell? ⟨g, 31, none⟩ = some (.int .i64 s.lm) ∧ W.cell? ⟨g, 32, none⟩ = some (.int .i64 (s.l.getD 0 0)) ∧ W.cell? ⟨g, 33, none⟩ = some (.int .i64 (s.l.getD 1 0)) ∧ W.cell? ⟨g, 34, none⟩ = some (.int .i64 (s.l.getD 2 0)) ∧ W.cell? ⟨g, 35, none⟩ = some (.int .i64 (s.l.getD 3 0)) ∧ W.cell? ⟨g, 36, none⟩ = some (.int .i64 (s.l.length : Nat)) :=
  ⟨h.1.cell 10 rfl, h.1.cell 11 rfl, h.1.cell 12 rfl, h.1.cell 13 rfl, h.1.cell 14 rfl, h.1.cell 15 rfl⟩
theorem GPt2.frz (h : GPt2 c W g s) : W.frozen? ⟨g, 31, none⟩ = false ∧ W.frozen? ⟨g, 32, none⟩ = false ∧ W.frozen? ⟨g, 33, none⟩ = false ∧ W.frozen? ⟨g, 34, none⟩ = false ∧ W.frozen? ⟨g, 35, none⟩ = false ∧ W.frozen? ⟨g, 36, none⟩ = false :=
  ⟨h.1.frozen 31, h.1.frozen 32, h.1.frozen 33, h.1.frozen 34, h.1.frozen 35, h.1.frozen 36⟩
end

set_option maxRecDepth 100000 in
set_option maxHeartbeats 1000000 in
theorem clear_gp2 (c : Cx 21) (g : Nat) (s : G) (w : World) (h : GPt2 c w g s) :
    Calls Tryz.prog 58 #[.pointer (some ⟨g, 31, none⟩)] w fun e w' => e = .returned (.tuple #[]) ∧ GPt2 c w' g { s with l := [] } ∧ Only g w w' := by
  obtain ⟨c0, c1, c2, c3, c4, c5⟩ := h.clk
  obtain ⟨f0, f1, f2, f3, f4, f5⟩ := h.frz
  have hB : Hid (PB c ((((((w.setCell ⟨g, 31, none⟩ (.int .i64 s.lm)).setCell ⟨g, 32, none⟩ (.int .i64 0)).setCell ⟨g, 33, none⟩ (.int .i64 0)).setCell ⟨g, 34, none⟩ (.int .i64 0)).setCell ⟨g, 35, none⟩ (.int .i64 0)).setCell ⟨g, 36, none⟩ (.int .i64 0)) g (grd { s with l := [] })) := Lib.hid ((((((h.1.set 10 (by simp [grd]) _).set 11 (by simp [grd]) _).set 12 (by simp [grd]) _).set 13 (by simp [grd]) _).set 14 (by simp [grd]) _).set 15 (by simp [grd]) _)
  clear h
  go_enter Tryz.func58, Tryz.ntmps58
  go_wp2
  exact bodyPost_end (results_none (by rfl) _ _ _) rfl ⟨rfl, ⟨hB.out, by simp⟩, ((((((Only.refl g w).set 31 _).set 32 _).set 33 _).set 34 _).set 35 _).set 36 _⟩

set_option maxRecDepth 100000 in
set_option maxHeartbeats 1000000 in
theorem measure_full_gp2 (c : Cx 21) (g : Nat) (s : G) (n : Int) (w : World) (h : GPt2 c w g s) (h4 : s.l.length = 4) :
    Calls Tryz.prog 79 #[.pointer (some ⟨g, 31, none⟩), .int .i64 n] w fun e w' => e = .returned (.tuple #[]) ∧ GPt2 c w' g { s with l := s.l.drop 1 ++ [n] } ∧ Only g w w' := by
  obtain ⟨c0, c1, c2, c3, c4, c5⟩ := h.clk
  obtain ⟨f0, f1, f2, f3, f4, f5⟩ := h.frz
  have c5' : w.cell? ⟨g, 36, none⟩ = some (.int .i64 4) := by rw [c5, h4]; rfl
  clear c5
  have hB : Hid (PB c ((((((w.setCell ⟨g, 32, none⟩ (.int .i64 (s.l.getD 1 0))).setCell ⟨g, 33, none⟩ (.int .i64 (s.l.getD 2 0))).setCell ⟨g, 34, none⟩ (.int .i64 (s.l.getD 3 0))).setCell ⟨g, 36, none⟩ (.int .i64 3)).setCell ⟨g, 35, none⟩ (.int .i64 n)).setCell ⟨g, 36, none⟩ (.int .i64 4)).drew.drew g (grd { s with l := s.l.drop 1 ++ [n] })) := Lib.hid (((((((h.1.set 11 (by simp [grd]) (.int .i64 (s.l.getD 1 0))).set 12 (by simp [grd]) (.int .i64 (s.l.getD 2 0))).set 13 (by simp [grd]) (.int .i64 (s.l.getD 3 0))).set 15 (by simp [grd]) (.int .i64 3)).set 14 (by simp [grd]) (.int .i64 n)).set 15 (by simp [grd]) (.int .i64 4)).drew.drew.eq (grd_full s n h4))
  have H4 := Lib.hid h4
  clear h h4
  generalize s.l.getD 0 0 = a0 at *
  generalize s.l.getD 1 0 = a1 at *
  generalize s.l.getD 2 0 = a2 at *
  generalize s.l.getD 3 0 = a3 at *
  have hrun := run_copy_cells (P := Tryz.prog) w.drew 46 46 3 3 g 32 4 4 ⟨g, 33, none⟩ 3 3 [.int .i64 a1, .int .i64 a2, .int .i64 a3] Tryz.underlying46 (by kernel_rfl) (by simp) (fun j v hj => by
    match j, hj with
    | 0, hj => simp at hj; subst hj; exact c2
    | 1, hj => simp at hj; subst hj; exact c3
    | 2, hj => simp at hj; subst hj; exact c4
    | j + 3, hj => simp at hj) (fun j hj => by
    match j, hj with
    | 0, _ => show (w.cell? _).isSome = true; rw [c1]; rfl
    | 1, _ => show (w.cell? _).isSome = true; rw [c2]; rfl
    | 2, _ => show (w.cell? _).isSome = true; rw [c3]; rfl
    | j + 3, hj => simp at hj; omega) (fun j hj => by
    match j, hj with
    | 0, _ => exact f1
    | 1, _ => exact f2
    | 2, _ => exact f3
    | j + 3, hj => simp at hj; omega) (by simp [Value.oneCell'])
  simp [World.setCells] at hrun
  go_enter Tryz.func79, Tryz.ntmps79
  go_wp2
  go_region
  go_wp2
  go_region
  go_wp2
  exact bodyPost_end (results_none (by rfl) _ _ _) rfl ⟨rfl, ⟨hB.out, by have := H4.out; simp; omega⟩, (((((((Only.refl g w).set 32 _).set 33 _).set 34 _).set 36 _).set 35 _).set 36 _).drew.drew⟩

set_option maxRecDepth 100000 in
set_option maxHeartbeats 1000000 in
theorem measure_more_gp2 (c : Cx 21) (g : Nat) (s : G) (n : Int) (w : World) (h : GPt2 c w g s) (h4 : s.l.length < 4) :
    Calls Tryz.prog 79 #[.pointer (some ⟨g, 31, none⟩), .int .i64 n] w fun e w' => e = .returned (.tuple #[]) ∧ GPt2 c w' g { s with l := s.l ++ [n] } ∧ Only g w w' := by
  obtain ⟨c0, c1, c2, c3, c4, c5⟩ := h.clk
  obtain ⟨f0, f1, f2, f3, f4, f5⟩ := h.frz
  have q4 : ((s.l.length : Int) == 4) = false := by rw [beq_eq_false_iff_ne]; omega
  have hB : Hid (PB c ((w.setCell ⟨g, 32 + s.l.length, none⟩ (.int .i64 n)).setCell ⟨g, 36, none⟩ (.int .i64 ((s.l.length : Int) + 1))).drew g (grd { s with l := s.l ++ [n] })) := Lib.hid (((PBs (p' := 32 + s.l.length) (h.1.set (11 + s.l.length) (by have : (grd s).size = 20 := rfl; omega) (.int .i64 n)) (by omega) rfl).set 15 (by simp [grd]) (.int .i64 ((s.l.length : Int) + 1))).drew.eq (grd_more s n _ rfl h4))
  have ck : ∃ x, w.cell? ⟨g, 32 + s.l.length, none⟩ = some x := by
    rcases (by omega : s.l.length = 0 ∨ s.l.length = 1 ∨ s.l.length = 2 ∨ s.l.length = 3) with e | e | e | e <;> rw [e]
    · exact ⟨_, c1⟩
    · exact ⟨_, c2⟩
    · exact ⟨_, c3⟩
    · exact ⟨_, c4⟩
  have fk : w.frozen? ⟨g, 32 + s.l.length, none⟩ = false := h.1.frozen _
  obtain ⟨x, ck⟩ := ck
  clear h c0 c1 c2 c3 c4 f0 f1 f2 f3 f4
  go_enter Tryz.func79, Tryz.ntmps79
  go_wp2
  go_region
  go_wp2
  exact bodyPost_end (results_none (by rfl) _ _ _) rfl ⟨rfl, ⟨hB.out, by simp; omega⟩, (((Only.refl g w).set (32 + s.l.length) _).set 36 _).drew⟩
theorem measure_gp2 (c : Cx 21) (g : Nat) (s : G) (n : Int) (w : World) (h : GPt2 c w g s) :
    Calls Tryz.prog 79 #[.pointer (some ⟨g, 31, none⟩), .int .i64 n] w fun e w' => e = .returned (.tuple #[]) ∧ GPt2 c w' g { s with l := keep4 s.l n } ∧ Only g w w' := by
  unfold keep4
  by_cases h4 : s.l.length = 4
  · rw [if_pos h4]; exact measure_full_gp2 c g s n w h h4
  · rw [if_neg h4]; exact measure_more_gp2 c g s n w h (by have := h.2; omega)
theorem GPt2.sees {c : Cx 21} {W : World} {g : Nat} {s : G} (h : GPt2 c W g s) : SeesI W W.heap.size (.slice (some ⟨g, 32, none⟩) s.l.length 4) s.l := by
  refine ⟨some ⟨g, 32, none⟩, 4, rfl, h.2, by simp [maxLen], fun _ => ⟨g, 32, rfl, h.1.lt, fun k hk => ?_⟩, fun h => by cases h⟩
  obtain ⟨-, c1, c2, c3, c4, -⟩ := h.clk
  have := h.2
  rcases (by omega : k = 0 ∨ k = 1 ∨ k = 2 ∨ k = 3) with rfl | rfl | rfl | rfl
  · exact c1
  · exact c2
  · exact c3
  · exact c4
set_option maxRecDepth 100000 in
set_option maxHeartbeats 1000000 in
theorem term_gp2 (c : Cx 21) (g : Nat) (s : G) (w : World) (h : GPt2 c w g s) (hs : small s.l) (hm : 0 ≤ s.lm ∧ s.lm ≤ 9223372036854775807) :
    Calls Tryz.prog 149 #[.pointer (some ⟨g, 31, none⟩)] w fun e w' => e = .returned (.tuple #[.int .i64 (termV s.lm s.l), .bool (wiB s.lm (avg s.l))]) ∧ Below w.heap.size w w' := by
  have hT : Hid (∀ W, Below w.heap.size w W → GPt2 c W g s) := Lib.hid (fun W hW => h.below hW h.1.lt)
  have A1 := fun W (hW : Below w.heap.size w W) => Lib.hid (avg_cl s.l _ W W.heap.size (Nat.le_refl _) (hT.out W hW).sees hs h.2)
  have R := fun n W => Lib.hid (reaches_cl s.lm n W hm)
  have hl4 := h.2
  unfold termV
  generalize avg s.l = r at *
  have R := R r
  generalize hq : wiB s.lm r = q at *
  clear hq
  obtain ⟨c0, -, -, -, -, c5⟩ := h.clk
  have HC : Hid (∀ W, Below w.heap.size w W → W.cell? ⟨g, 31, none⟩ = some (.int .i64 s.lm) ∧ W.cell? ⟨g, 36, none⟩ = some (.int .i64 (s.l.length : Nat))) := Lib.hid (fun W hW => by
    obtain ⟨c0, -, -, -, -, c5⟩ := (hT.out W hW).clk
    exact ⟨c0, c5⟩)
  have hb0 := Below.refl w.heap.size w
  have n1 : (0 : Int) ≤ (s.l.length : Nat) := by omega
  have n2 : ((s.l.length : Nat) : Int) ≤ 4 := by omega
  clear h hs hm
  go_enter Tryz.func149, Tryz.ntmps149
  go_wp2
  go_region_held3 (fun W => W.cell? ⟨g, 31, none⟩ = some (.int .i64 s.lm) ∧ W.cell? ⟨g, 36, none⟩ = some (.int .i64 (s.l.length : Nat)))
    ((refine HC.out _ ?_; first | exact hb0 | exact hb0.drew | exact hb1))
    (first
      | ((go_at_call 168; with_reducible refine (A1 _ ?_).out.mono ?_); (first | exact hb0 | exact hb0.drew); rintro e w1 ⟨rfl, hb⟩; have hb1 := hb0.drew.trans (hb.mono hb0.size))
      | fail)
  clear c0 c5
  obtain ⟨c0, c5⟩ := HC.out w1 hb1
  cases q
  · go_wp2_with fail
    refine (R w1).out.mono ?_
    rintro e w2 ⟨rfl, rfl⟩
    go_wp2
    go_ret2
    exact ⟨rfl, hb1⟩
  · go_wp2_with fail
    refine (R w1).out.mono ?_
    rintro e w2 ⟨rfl, rfl⟩
    go_wp2
    go_ret2
    exact ⟨rfl, hb1⟩
set_option maxRecDepth 100000 in
set_option maxHeartbeats 1000000 in
theorem goOn_gp2 (c : Cx 21) (g : Nat) (s : G) (w : World) (h : GPt2 c w g s) (hs : s.slot < s.n) (hn : s.n ≤ 8) (hsm : small s.l) (hm : 0 ≤ s.lm ∧ s.lm ≤ 9223372036854775807) (hnow : s.slot + 1 = s.n → time (s.now + termV s.lm s.l)) :
    Calls Tryz.prog 201 #[.pointer (some ⟨g, 21, none⟩)] w fun e w' => e = .returned (.tuple #[]) ∧ GPt2 c w' g s.on ∧ Only g w w' := by
  have c8 := PBa (h.1.cell 8 (x := .int .i64 (s.n : Nat)) rfl) (show 21 + 8 = 29 from rfl)
  have c18 := PBa (h.1.cell 18 (x := .int .i64 (s.slot : Nat)) rfl) (show 21 + 18 = 39 from rfl)
  have f18 := h.1.frozen 39
  have z1 : IntKind.i64.wrap ((s.slot : Int) + 1) = (s.slot : Int) + 1 := IntWalk.i64_in _ (by omega)
  by_cases hc : s.slot + 1 = s.n
  · have z2 : Int.tmod ((s.slot : Int) + 1) (s.n : Int) = 0 := by rw [show ((s.slot : Int) + 1) = (s.n : Int) by omega]; simp
    have z3 : ¬ (s.n : Int) = 0 := by omega
    have H1 : Hid (GPt2 c (w.setCell ⟨g, 39, none⟩ (.int .i64 0)).drew g { s with slot := 0 }) := Lib.hid ⟨((h.1.set 18 (by simp [grd]) (.int .i64 (0 : Nat))).drew).eq (grd_slot s 0), h.2⟩
    go_enter Tryz.func201, Tryz.ntmps201
    go_wp2
    go_region
    have hO := Lib.hid (((Only.refl g w).set 39 (.int .i64 0)).drew)
    have c18' := H1.out.1.cell 18 (x := .int .i64 (0 : Nat)) rfl
    generalize hw1 : (w.setCell ⟨g, 39, none⟩ (.int .i64 0)).drew = w1 at *
    have hT := Lib.hid (term_gp2 c g { s with slot := 0 } w1 H1.out hsm hm)
    have T0 := Lib.hid (hnow hc)
    simp only at hT
    generalize hv : termV s.lm s.l = v at *
    generalize wiB s.lm (avg s.l) = q at *
    go_wp2_with fail
    refine hT.out.mono ?_
    rintro e w2 ⟨rfl, hb2⟩
    have H2 := Lib.hid (H1.out.below hb2 H1.out.lt)
    have hO2 := Lib.hid (hO.out.trans (only_of_below g hb2))
    have c16 := PBa (H2.out.1.cell 16 (x := .int .i64 s.now) rfl) (show 21 + 16 = 37 from rfl)
    have f16 := H2.out.1.frozen 37
    have z4 : IntKind.i64.wrap (s.now + v) = s.now + v := IntWalk.i64_in _ (by have := T0.out; unfold time at this; omega)
    have H3 := Lib.hid (show GPt2 c (w2.setCell ⟨g, 37, none⟩ (.int .i64 (s.now + v))) g { s with slot := 0, now := s.now + v } from ⟨(H2.out.1.set 16 (by simp [grd]) (.int .i64 (s.now + v))).eq (grd_now _ _), H2.out.2⟩)
    have hO3 := Lib.hid (hO2.out.set 37 (.int .i64 (s.now + v)))
    generalize hw3 : w2.setCell ⟨g, 37, none⟩ (.int .i64 (s.now + v)) = w3 at *
    go_wp2_with fail
    refine (clear_gp2 c g _ _ H3.out).mono ?_
    rintro e w4 ⟨rfl, H4, hO4⟩
    go_wp2
    refine bodyPost_end (results_none (by rfl) _ _ _) rfl ⟨rfl, ?_, hO3.out.trans hO4⟩
    unfold G.on
    rw [if_pos hc, hv]
    exact H4
  · have e1 : ((s.slot + 1 : Nat) : Int) = (s.slot : Int) + 1 := by omega
    have z2 : Int.tmod ((s.slot : Int) + 1) (s.n : Int) = (s.slot : Int) + 1 := Int.tmod_eq_of_lt (by omega) (by omega)
    have z3 : ¬ (s.n : Int) = 0 := by omega
    have H1 : Hid (GPt2 c (w.setCell ⟨g, 39, none⟩ (.int .i64 ((s.slot : Int) + 1))).drew g { s with slot := s.slot + 1 }) := Lib.hid ⟨((h.1.set 18 (by simp [grd]) (.int .i64 ((s.slot : Int) + 1))).drew).eq (by rw [← e1]; exact grd_slot s (s.slot + 1)), h.2⟩
    have hO := Lib.hid (((Only.refl g w).set 39 (.int .i64 ((s.slot : Int) + 1))).drew)
    have z4 : (((s.slot : Int) + 1) == 0) = false := by rw [beq_eq_false_iff_ne]; omega
    go_enter Tryz.func201, Tryz.ntmps201
    go_wp2
    go_region
    go_wp2
    refine bodyPost_ret (results_none (by rfl) _ _ _) rfl ⟨rfl, ?_, hO.out⟩
    unfold G.on
    rw [if_neg hc]
    exact H1.out




set_option maxRecDepth 100000 in
set_option maxHeartbeats 1000000 in
theorem hear_gp2 (c : Cx 21) (g : Nat) (s : G) (at_ : Int) (w : World) (h : GPt2 c w g s) (hs : s.slot < s.n) (hn : s.n ≤ 8) (hsm : small s.l) (hm : 0 ≤ s.lm ∧ s.lm ≤ 9223372036854775807)
    (hat : time at_) (hnw : time s.now) (hd : s.sy s.slot = true → -1099511627776 ≤ at_ - s.now ∧ at_ - s.now ≤ 1099511627776) (hnow : s.slot + 1 = s.n → time (s.now + termV s.lm (if s.sy s.slot then keep4 s.l (at_ - s.now) else s.l))) :
    Calls Tryz.prog 193 #[.pointer (some ⟨g, 21, none⟩), .int .i64 at_] w fun e w' => e = .returned (.tuple #[]) ∧ GPt2 c w' g (s.heard at_) ∧ Only g w w' := by
  have f19 := h.1.frozen 40
  have c19 := PBa (h.1.cell 19 (x := .int .i64 (s.si : Nat)) rfl) (show 21 + 19 = 40 from rfl)
  have H1 : Hid (GPt2 c (w.setCell ⟨g, 40, none⟩ (.int .i64 0)) g { s with si := 0 }) := Lib.hid ⟨(h.1.set 19 (by simp [grd]) (.int .i64 ((0 : Nat) : Int))).eq (grd_si s 0), h.2⟩
  have hO1 := Lib.hid ((Only.refl g w).set 40 (.int .i64 0))
  generalize hw1 : w.setCell ⟨g, 40, none⟩ (.int .i64 0) = w1 at *
  have c18 := PBa (H1.out.1.cell 18 (x := .int .i64 (s.slot : Nat)) rfl) (show 21 + 18 = 39 from rfl)
  have cs := H1.out.1.cell s.slot (grd_sy _ s.slot (by omega))
  simp only at cs
  have hN := Lib.hid hnow
  have i1 : (0 : Int) ≤ (s.slot : Int) := by omega
  have i2 : (s.slot : Int) < 8 := by omega
  clear h hnow
  unfold G.heard
  cases hq : s.sy s.slot
  · rw [hq] at hN cs
    go_enter Tryz.func193, Tryz.ntmps193
    go_wp2
    go_region
    have H2 : GPt2 c w1.drew g { s with si := 0 } := H1.out
    go_wp2_with fail
    refine (goOn_gp2 c g _ _ H2 hs hn hsm hm (fun h => by simpa using hN.out h)).mono ?_
    rintro e w4 ⟨rfl, H4, hO4⟩
    go_wp2
    exact bodyPost_end (results_none (by rfl) _ _ _) rfl ⟨rfl, H4, hO1.out.drew.trans hO4⟩
  · rw [hq] at hN cs
    have hLs := fun W => Lib.hid (less_gd at_ s.now W hat hnw)
    have hM := fun W (h : GPt2 c W g { s with si := 0 }) => Lib.hid (measure_gp2 c g _ (at_ - s.now) W h)
    have hK := Lib.hid (hsm.keep4 (hd hq))
    have c16 := PBa (H1.out.1.cell 16 (x := .int .i64 s.now) rfl) (show 21 + 16 = 37 from rfl)
    simp only at hM
    generalize hl2 : keep4 s.l (at_ - s.now) = l2 at *
    clear hd
    go_enter Tryz.func193, Tryz.ntmps193
    go_wp2
    go_region
    go_wp2
    go_region_with (first
      | (go_at_call 202; refine (hLs _).out.mono ?_; rintro e w2 ⟨rfl, rfl⟩)
      | (go_at_call 79; refine (hM w1.drew.drew H1.out).out.mono ?_; rintro e w2 ⟨rfl, H2, hO2⟩))
    go_wp2_with fail
    refine (goOn_gp2 c g _ _ H2 hs hn hK.out hm (fun h => by simpa using hN.out h)).mono ?_
    rintro e w4 ⟨rfl, H4, hO4⟩
    go_wp2
    exact bodyPost_end (results_none (by rfl) _ _ _) rfl ⟨rfl, H4, (hO1.out.drew.drew.trans hO2).trans hO4⟩
set_option maxRecDepth 100000 in
set_option maxHeartbeats 1000000 in
theorem miss_gp2 (c : Cx 21) (g : Nat) (s : G) (w : World) (h : GPt2 c w g s) (hs : s.slot < s.n) (hn : s.n ≤ 8) (hsm : small s.l) (hm : 0 ≤ s.lm ∧ s.lm ≤ 9223372036854775807) (hsi : s.si ≤ 1000)
    (hnow : s.slot + 1 = s.n → time (s.now + termV s.lm s.l)) :
    Calls Tryz.prog 194 #[.pointer (some ⟨g, 21, none⟩)] w fun e w' => e = .returned (.tuple #[]) ∧ GPt2 c w' g s.missed ∧ Only g w w' := by
  have f19 := h.1.frozen 40
  have c19 := PBa (h.1.cell 19 (x := .int .i64 (s.si : Nat)) rfl) (show 21 + 19 = 40 from rfl)
  have e1 : ((s.si + 1 : Nat) : Int) = (s.si : Int) + 1 := by omega
  have z1 : IntKind.i64.wrap ((s.si : Int) + 1) = (s.si : Int) + 1 := IntWalk.i64_in _ (by omega)
  have z2 : IntKind.i64.wrap (2 * (s.n : Int)) = 2 * (s.n : Int) := IntWalk.i64_in _ (by omega)
  have H1 : Hid (GPt2 c (w.setCell ⟨g, 40, none⟩ (.int .i64 ((s.si : Int) + 1))) g { s with si := s.si + 1 }) := Lib.hid ⟨(h.1.set 19 (by simp [grd]) (.int .i64 ((s.si : Int) + 1))).eq (by rw [← e1]; exact grd_si s (s.si + 1)), h.2⟩
  have hO1 := Lib.hid ((Only.refl g w).set 40 (.int .i64 ((s.si : Int) + 1)))
  generalize hw1 : w.setCell ⟨g, 40, none⟩ (.int .i64 ((s.si : Int) + 1)) = w1 at *
  have c8 := PBa (H1.out.1.cell 8 (x := .int .i64 (s.n : Nat)) rfl) (show 21 + 8 = 29 from rfl)
  have d19 : w1.cell? ⟨g, 40, none⟩ = some (.int .i64 ((s.si : Int) + 1)) := by rw [← e1]; exact H1.out.1.cell 19 rfl
  have hN := Lib.hid hnow
  clear h hnow
  unfold G.missed
  by_cases hq : s.si + 1 = 2 * s.n
  · rw [if_pos hq]
    have q1 : ((s.si : Int) + 1 == 2 * (s.n : Int)) = true := by rw [beq_iff_eq]; omega
    have f17 := H1.out.1.frozen 38
    have f18 := H1.out.1.frozen 39
    have c17 := PBa (H1.out.1.cell 17 (x := .bool s.kn) rfl) (show 21 + 17 = 38 from rfl)
    have c18 := PBa (H1.out.1.cell 18 (x := .int .i64 (s.slot : Nat)) rfl) (show 21 + 18 = 39 from rfl)
    have H2 : Hid (GPt2 c ((w1.drew.setCell ⟨g, 38, none⟩ (.bool false)).setCell ⟨g, 39, none⟩ (.int .i64 0)) g { s with si := s.si + 1, kn := false, slot := 0 }) := Lib.hid ⟨((H1.out.1.drew.set 17 (by simp [grd]) (.bool false)).set 18 (by simp [grd]) (.int .i64 ((0 : Nat) : Int))).eq (by rw [grd_kn, grd_slot]), H1.out.2⟩
    go_enter Tryz.func194, Tryz.ntmps194
    go_wp2
    go_region
    go_wp2
    exact bodyPost_ret (results_none (by rfl) _ _ _) rfl ⟨rfl, H2.out, (hO1.out.drew.set 38 _).set 39 _⟩
  · rw [if_neg hq]
    have q1 : ((s.si : Int) + 1 == 2 * (s.n : Int)) = false := by rw [beq_eq_false_iff_ne]; omega
    go_enter Tryz.func194, Tryz.ntmps194
    go_wp2
    go_region
    have H2 : GPt2 c w1.drew g { s with si := s.si + 1 } := H1.out
    go_wp2_with fail
    refine (goOn_gp2 c g _ _ H2 hs hn hsm hm hN.out).mono ?_
    rintro e w4 ⟨rfl, H4, hO4⟩
    go_wp2
    exact bodyPost_end (results_none (by rfl) _ _ _) rfl ⟨rfl, H4, hO1.out.drew.trans hO4⟩
end Go.Proofs.YtpdenmcacaajkaaGreat
