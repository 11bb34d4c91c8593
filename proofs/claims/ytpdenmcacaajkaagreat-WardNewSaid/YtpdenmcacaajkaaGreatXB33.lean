/- Texts SgB2 in one. For what each says in front of its theorems. -/
import Derived.Test.YtpdenmcacaajkaaGreatXB32
/-! ### SgB2 -/
namespace Go.Proofs.YtpdenmcacaajkaaGreat
open Go.RowKit
open Clk (avg)
open Fr (St F)

set_option maxRecDepth 100000 in
set_option maxHeartbeats 4000000 in
theorem learn_gp2 (c : Cx 21) (g : Nat) (s : G) (v : Value) (l : List Int) (at_ : Int) (w : World) (h : GPt2 c w g s) (hn : s.n ≤ 8) (hm : 0 ≤ s.lm ∧ s.lm ≤ 9223372036854775807) (hv : SeesL w w.heap.size v l) (hl : bytesL l)
    (_hat : time at_) (hnow : time (at_ + termV s.lm [])) :
    Calls Tryz.prog 192 #[.pointer (some ⟨g, 21, none⟩), v, .int .i64 at_] w fun e w' => e = .returned (.tuple #[]) ∧ GPt2 c w' g (s.learnt l at_) ∧ Only g w w' := by
  have hD := Lib.hid (decode_dev v l z0 w hv hl)
  have hts := Lib.hid (tells_slot hl)
  unfold Dec stV z0 at hD
  unfold G.learnt tells
  simp only at hD
  have ez : (⟨0, 0, 0⟩ : St) = z0 := rfl
  rw [ez] at hD
  generalize Fr.err l z0 = er at *
  generalize Fr.res l z0 = R at *
  obtain ⟨k, ⟨r, sl, m⟩, d⟩ := R
  unfold frV at hD
  simp only at hD hts ⊢
  clear ez
  go_enter Tryz.func192, Tryz.ntmps192
  go_wp2_with fail
  refine hD.out.mono ?_
  rintro e w1 ⟨v1, rfl, ho, hb⟩
  obtain ⟨A1, n1, rfl, -⟩ := ho.sees.at_
  have hB1 := (hb.alloc hb.size (.cells #[.int .i64 k, .int .i64 r, .int .i64 sl, .int .i64 m, .slice A1 d.length n1] 137))
  have H1 := h.below hB1 h.lt
  have hO1 := only_of_below g hB1
  have hX := Blk.new w1 _ rfl #[.int .i64 k, .int .i64 r, .int .i64 sl, .int .i64 m, .slice A1 d.length n1] 137
  have hgw : g < w1.heap.size := Nat.lt_of_lt_of_le h.lt hb.size
  go_wp2_with fail
  generalize hW1 : w1.alloc (.cells #[.int .i64 k, .int .i64 r, .int .i64 sl, .int .i64 m, .slice A1 d.length n1] 137) = W1 at *
  have x0 := hX.cell 0 (x := .int .i64 k) rfl
  have x2 := hX.cell 2 (x := .int .i64 sl) rfl
  have c8 := PBa (H1.1.cell 8 (x := .int .i64 (s.n : Nat)) rfl) (show 21 + 8 = 29 from rfl)
  generalize w1.heap.size = b at *
  clear ho hB1 hW1 hb hX hD hv
  have HH : Hid (∀ n, GPt2 c (W1.drewN n) g s) := Lib.hid fun n => ⟨H1.1.drewN n, H1.2⟩
  have HO : Hid (∀ n, Only g w (W1.drewN n)) := Lib.hid fun n => hO1.trans (only_of_below g (below_drewN (Below.refl _ W1) n))
  clear H1 hO1 h
  by_cases p1 : er = 0
  · subst p1
    obtain ⟨s0, s8⟩ := hts.out rfl
    by_cases p2 : k = 1
    · subst p2
      go_quiet (fail)
      go_wp2
      exact bodyPost_ret (results_none (by rfl) _ _ _) rfl ⟨rfl, HH.out _, HO.out _⟩
    · have q2 : (k == 1) = false := by rw [beq_eq_false_iff_ne]; exact p2
      by_cases p3 : sl < (s.n : Int)
      · have q3 : decide ((s.n : Int) ≤ sl) = false := decide_eq_false (by omega)
        have HX : Hid (∀ n, (W1.drewN n).cell? ⟨b, 2, none⟩ = some (.int .i64 sl)) := Lib.hid fun n => ((below_drewN (Below.refl (b + 1) W1) n).cell (p := ⟨b, 2, none⟩) (Nat.lt_succ_self _)).trans x2
        go_quiet (fail)
        have H2 := HH.out nq
        have hO2 := HO.out nq
        have y2 := HX.out nq
        clear HX HH HO x0 x2 c8
        generalize W1.drewN nq = W2 at *
        clear q3
        have c16 := PBa (H2.1.cell 16 (x := .int .i64 s.now) rfl) (show 21 + 16 = 37 from rfl)
        have c17 := PBa (H2.1.cell 17 (x := .bool s.kn) rfl) (show 21 + 17 = 38 from rfl)
        have c18 := PBa (H2.1.cell 18 (x := .int .i64 (s.slot : Nat)) rfl) (show 21 + 18 = 39 from rfl)
        have c19 := PBa (H2.1.cell 19 (x := .int .i64 (s.si : Nat)) rfl) (show 21 + 19 = 40 from rfl)
        have f16 := H2.1.frozen 37
        have f17 := H2.1.frozen 38
        have f18 := H2.1.frozen 39
        have f19 := H2.1.frozen 40
        have H2 := Lib.hid H2
        have hO2 := Lib.hid hO2
        have es : sl = (sl.toNat : Int) := by omega
        have H3 : Hid (GPt2 c ((((W2.setCell ⟨g, 38, none⟩ (.bool true)).setCell ⟨g, 39, none⟩ (.int .i64 sl)).setCell ⟨g, 37, none⟩ (.int .i64 at_)).setCell ⟨g, 40, none⟩ (.int .i64 0)).drew g { s with kn := true, slot := sl.toNat, now := at_, si := 0 }) := Lib.hid
          ⟨(((((H2.out.1.set 17 (by simp [grd]) (.bool true)).set 18 (by simp [grd]) (.int .i64 sl)).set 16 (by simp [grd]) (.int .i64 at_)).set 19 (by simp [grd]) (.int .i64 ((0 : Nat) : Int))).drew).eq (by rw [grd_kn, congrArg (Value.int .i64) es, grd_slot, grd_now, grd_si]), H2.out.2⟩
        have hO3 := Lib.hid (((((hO2.out.set 38 (.bool true)).set 39 (.int .i64 sl)).set 37 (.int .i64 at_)).set 40 (.int .i64 0)).drew)
        have HE := Lib.hid es
        clear es
        go_wp2_with fail
        go_region
        generalize ((((W2.setCell ⟨g, 38, none⟩ (.bool true)).setCell ⟨g, 39, none⟩ (.int .i64 sl)).setCell ⟨g, 37, none⟩ (.int .i64 at_)).setCell ⟨g, 40, none⟩ (.int .i64 0)).drew = W3 at *
        go_wp2_with fail
        refine (clear_gp2 c g _ _ H3.out).mono ?_
        rintro e w4 ⟨rfl, H4, hO4⟩
        go_wp2_with fail
        refine (goOn_gp2 c g _ _ H4 (by show sl.toNat < s.n; omega) hn (by simp [small]) hm (fun _ => hnow)).mono ?_
        rintro e w5 ⟨rfl, H5, hO5⟩
        go_wp2
        exact bodyPost_end (results_none (by rfl) _ _ _) rfl ⟨rfl, by simpa [p2, p3] using H5, (hO3.out.trans hO4).trans hO5⟩
      · have q3 : decide ((s.n : Int) ≤ sl) = true := decide_eq_true (by omega)
        go_quiet (fail)
        go_wp2
        exact bodyPost_ret (results_none (by rfl) _ _ _) rfl ⟨rfl, by simpa [p2, p3] using HH.out _, HO.out _⟩
  · have q1 : (er != 0) = true := by rw [bne_iff_ne]; exact p1
    go_quiet (fail)
    all_goals
      go_wp2
      all_goals exact bodyPost_ret (results_none (by rfl) _ _ _) rfl ⟨rfl, by simpa [p1] using HH.out _, HO.out _⟩



set_option maxRecDepth 100000 in
set_option maxHeartbeats 4000000 in
theorem end_gp2 (c : Cx 21) (g : Nat) (s : G) (v : Value) (l : List Int) (at_ : Int) (w : World) (h : GPt2 c w g s) (ok : s.Ok at_) (hv : SeesL w w.heap.size v l) (hl : bytesL l) :
    Calls Tryz.prog 182 #[.pointer (some ⟨g, 21, none⟩), v, .int .i64 at_] w fun e w' => e = .returned (.tuple #[]) ∧ GPt2 c w' g (s.ended l at_) ∧ Only g w w' := by
  obtain ⟨o1, o2, o3, o4, o5, o6, o7⟩ := ok
  have o4' : 0 ≤ s.lm ∧ s.lm ≤ 9223372036854775807 := ⟨o4.1, by omega⟩
  have tb := fun l => term_bd s.lm l o4.1
  have H1 := Lib.hid (learn_gp2 c g s v l at_ w h o1 o4' hv hl (by unfold time; omega) (by have := tb []; unfold time; omega))
  have H2 := Lib.hid (hear_gp2 c g s at_ w h o2 o1 o3 o4' (by unfold time; omega) (by unfold time; omega) (fun _ => o6) (fun _ => by have := tb (if s.sy s.slot then keep4 s.l (at_ - s.now) else s.l); unfold time; omega))
  have H3 := Lib.hid (miss_gp2 c g s w h o2 o1 o3 o4' o7 (fun _ => by have := tb s.l; unfold time; omega))
  have c17 := PBa (h.1.cell 17 (x := .bool s.kn) rfl) (show 21 + 17 = 38 from rfl)
  obtain ⟨A, c, rfl, -⟩ := hv.at_
  unfold G.ended
  clear h hv tb
  cases hk : s.kn
  · rw [hk] at c17
    go_enter Tryz.func182, Tryz.ntmps182
    go_wp2_with fail
    refine H1.out.mono ?_
    rintro e w4 ⟨rfl, H4, hO4⟩
    go_wp2
    exact bodyPost_end (results_none (by rfl) _ _ _) rfl ⟨rfl, H4, hO4⟩
  · rw [hk] at c17
    by_cases h0 : 0 < l.length
    · have q1 : decide ((0 : Int) < (l.length : Nat)) = true := decide_eq_true (by omega)
      go_enter Tryz.func182, Tryz.ntmps182
      go_wp2_with fail
      refine H2.out.mono ?_
      rintro e w4 ⟨rfl, H4, hO4⟩
      go_wp2
      exact bodyPost_end (results_none (by rfl) _ _ _) rfl ⟨rfl, by simpa [h0] using H4, hO4⟩
    · have q1 : decide ((0 : Int) < (l.length : Nat)) = false := decide_eq_false (by omega)
      go_enter Tryz.func182, Tryz.ntmps182
      go_wp2_with fail
      refine H3.out.mono ?_
      rintro e w4 ⟨rfl, H4, hO4⟩
      go_wp2
      exact bodyPost_end (results_none (by rfl) _ _ _) rfl ⟨rfl, by simpa [h0] using H4, hO4⟩
set_option maxRecDepth 100000 in
set_option maxHeartbeats 4000000 in
theorem pass_gp2 (c : Cx 21) (g : Nat) (s : G) (f : Nat → Bool) (a : Nat → Int) (w : World) (h : GPt2 c w g s) (hn : s.n ≤ 8) (hs : s.slot < 8) (hnow : time s.now) (hat : time (a s.slot)) (hwi : 0 ≤ s.wi ∧ s.wi ≤ 2305843009213693952) :
    Calls Tryz.prog 177 #[.pointer (some ⟨g, 21, none⟩), bools8 f, ints8 a] w fun e w' => e = .returned (.int .i64 (s.pass f a)) ∧ Below w.heap.size w w' := by
  have hB := ((Below.refl w.heap.size w).alloc (Nat.le_refl _) (.cells #[.bool (f 0), .bool (f 1), .bool (f 2), .bool (f 3), .bool (f 4), .bool (f 5), .bool (f 6), .bool (f 7)] 150)).alloc (by simp) (.cells #[.int .i64 (a 0), .int .i64 (a 1), .int .i64 (a 2), .int .i64 (a 3), .int .i64 (a 4), .int .i64 (a 5), .int .i64 (a 6), .int .i64 (a 7)] 66)
  have hX := (Blk.new w _ rfl #[.bool (f 0), .bool (f 1), .bool (f 2), .bool (f 3), .bool (f 4), .bool (f 5), .bool (f 6), .bool (f 7)] 150).alloc (.cells #[.int .i64 (a 0), .int .i64 (a 1), .int .i64 (a 2), .int .i64 (a 3), .int .i64 (a 4), .int .i64 (a 5), .int .i64 (a 6), .int .i64 (a 7)] 66)
  have hY := Blk.new (w.alloc (.cells #[.bool (f 0), .bool (f 1), .bool (f 2), .bool (f 3), .bool (f 4), .bool (f 5), .bool (f 6), .bool (f 7)] 150)) (w.heap.size + 1) (by simp) #[.int .i64 (a 0), .int .i64 (a 1), .int .i64 (a 2), .int .i64 (a 3), .int .i64 (a 4), .int .i64 (a 5), .int .i64 (a 6), .int .i64 (a 7)] 66
  have hG := h.below hB h.lt
  unfold bools8 ints8
  go_enter Tryz.func177, Tryz.ntmps177
  generalize hw0 : (w.alloc (.cells #[.bool (f 0), .bool (f 1), .bool (f 2), .bool (f 3), .bool (f 4), .bool (f 5), .bool (f 6), .bool (f 7)] 150)).alloc (.cells #[.int .i64 (a 0), .int .i64 (a 1), .int .i64 (a 2), .int .i64 (a 3), .int .i64 (a 4), .int .i64 (a 5), .int .i64 (a 6), .int .i64 (a 7)] 66) = w0 at *
  have c17 := PBa (hG.1.cell 17 (x := .bool s.kn) rfl) (show 21 + 17 = 38 from rfl)
  unfold G.pass
  cases hk : s.kn
  · rw [hk] at c17
    have c8 := PBa (hG.1.cell 8 (x := .int .i64 (s.n : Nat)) rfl) (show 21 + 8 = 29 from rfl)
    have hI := Lib.hid (index_sl w.heap.size s.n 8 f w0 (fun k hk => hX.cell k (b8_get f k (by omega))) hn)
    simp only [Bool.false_eq_true, if_false]
    generalize fst f s.n = r at *
    have i1 : (0 : Int) ≤ (s.n : Int) := by omega
    have i2 : (s.n : Int) ≤ 8 := by omega
    clear hX hY h hG
    go_wp2_with fail
    refine hI.out.mono ?_
    rintro e w2 ⟨rfl, rfl⟩
    go_wp2
    go_ret
    exact ⟨rfl, hB⟩
  · rw [hk] at c17
    have cx := hX.cell s.slot (b8_get f s.slot hs)
    have cy := hY.cell s.slot (i8_get a s.slot hs)
    have c9 := PBa (hG.1.cell 9 (x := .int .i64 s.wi) rfl) (show 21 + 9 = 30 from rfl)
    have c16 := PBa (hG.1.cell 16 (x := .int .i64 s.now) rfl) (show 21 + 16 = 37 from rfl)
    have c18 := PBa (hG.1.cell 18 (x := .int .i64 (s.slot : Nat)) rfl) (show 21 + 18 = 39 from rfl)
    have i1 : (0 : Int) ≤ (s.slot : Int) := by omega
    have i2 : (s.slot : Int) < 8 := by omega
    have hN := fun W => Lib.hid ((near_gd (a s.slot) s.now s.wi W hat hnow hwi).mono fun e w' (h : e = .returned (.bool (nearB (a s.slot) s.now s.wi)) ∧ W = w') => (⟨h.1, h.2.symm⟩ : e = .returned (.bool (nearB (a s.slot) s.now s.wi)) ∧ w' = W))
    have HB : Hid (∀ n, Below w.heap.size w (w0.drewN n)) := Lib.hid fun n => below_drewN hB n
    have H18 : Hid (∀ n, (w0.drewN n).cell? ⟨g, 39, none⟩ = some (.int .i64 (s.slot : Nat))) := Lib.hid fun n => (hG.1.drewN n).cell 18 rfl
    generalize f s.slot = q at *
    generalize a s.slot = x at *
    generalize nearB x s.now s.wi = q2 at *
    clear hX hY h hG
    cases q
    · clear hN
      simp only [Bool.false_and, Bool.false_eq_true, if_false, if_true]
      go_wp2_with fail
      go_quiet (fail)
      all_goals
        go_wp2
        all_goals
          go_ret
          exact ⟨rfl, HB.out _⟩
    · cases q2
      all_goals
        simp only [Bool.true_and, Bool.false_eq_true, if_false, if_true]
        go_wp2_with fail
        go_quiet (first | (go_at_call 189; refine Calls.quiet_of_same (hN _).out))
        have c18' := H18.out nq
        have hB' := HB.out nq
        generalize w0.drewN nq = w3 at *
        go_wp2
        go_ret
        exact ⟨rfl, hB'⟩
end Go.Proofs.YtpdenmcacaajkaaGreat
