/- The contracts of a guardian's learn and End. For times that may be. -/
import Derived.Test.YthigojakapgllaaGdB
import Derived.Test.YthigojakapgllaaFrP
import Derived.BigRegion
namespace Go.Proofs.Ythigojakapgllaa
open Go.RowKit
open Clk (avg)
open Fr (St F)

def z0 : St := ⟨0, 0, 0⟩
/-- Does it tell a slot? -/
def tells (l : List Int) (n : Nat) : Bool := decide (Fr.err l z0 = 0) && (!decide ((Fr.res l z0).k = 1)) && decide ((Fr.res l z0).st.s < n)
/-- By bytes that it does not know the slot by, or does. -/
def G.learnt (s : G) (l : List Int) (at_ : Int) : G :=
  if tells l s.n then ({ s with kn := true, slot := (Fr.res l z0).st.s.toNat, now := at_, si := 0, l := [] } : G).on else s
theorem tells_slot {l : List Int} (hl : bytesL l) (h : Fr.err l z0 = 0) : 0 ≤ (Fr.res l z0).st.s ∧ (Fr.res l z0).st.s < 8 := by
  have hf : Fr.formB l z0 = true := by
    unfold Fr.err at h
    cases hf : Fr.formB l z0
    · rw [hf] at h; simp at h
    · rfl
  have hs : Fr.sumB l z0 = true := by
    unfold Fr.err at h
    cases hs : Fr.sumB l z0
    · rw [hf, hs] at h; simp at h
    · rfl
  have h1 := (Fr.once hl hf hs).1
  have hr : Fr.res l z0 = Fr.rd l z0 := by simp [Fr.res, hf, hs]
  rw [hr]
  exact ((Fr.St.may_iff _).1 ((Fr.F.is_iff _).1 h1).2.1).2.1
set_option maxRecDepth 100000 in
set_option maxHeartbeats 4000000 in
theorem learn_gd (g : Nat) (s : G) (v : Value) (l : List Int) (at_ : Int) (w : World) (h : GAt w g s) (hn : s.n ≤ 8) (hm : 0 ≤ s.lm ∧ s.lm ≤ 9223372036854775807) (hv : SeesL w w.heap.size v l) (hl : bytesL l)
    (_hat : time at_) (hnow : time (at_ + termV s.lm [])) :
    Calls Try.prog 25 #[.pointer (some ⟨g, 0, none⟩), v, .int .i64 at_] w fun e w' => e = .returned (.tuple #[]) ∧ GAt w' g (s.learnt l at_) ∧ Only g w w' := by
  have hD := Lib.hid (decode_dev v l z0 w hv hl)
  have hts := Lib.hid (tells_slot hl)
  unfold Dec stV z0 at hD
  unfold G.learnt tells
  simp only at hD
  have ez : (⟨0, 0, 0⟩ : St) = z0 := rfl
  rw [ez] at hD
  generalize Fr.err l z0 = er at *
  generalize Fr.res l z0 = R at *
  obtain ⟨k, ⟨r, sl, m⟩, d⟩ := R
  unfold frV at hD
  simp only at hD hts ⊢
  clear ez
  go_enter Try.func25, Try.ntmps25
  go_wp2_with fail
  refine hD.out.mono ?_
  rintro e w1 ⟨v1, rfl, ho, hb⟩
  obtain ⟨A1, n1, rfl, -⟩ := ho.sees.at_
  have hB1 := (hb.alloc hb.size (.cells #[.int .i64 k, .int .i64 r, .int .i64 sl, .int .i64 m, .slice A1 d.length n1] 38))
  have H1 := h.below hB1 h.lt
  have hO1 := only_of_below g hB1
  have hX := Blk.new w1 _ rfl #[.int .i64 k, .int .i64 r, .int .i64 sl, .int .i64 m, .slice A1 d.length n1] 38
  have hgw : g < w1.heap.size := Nat.lt_of_lt_of_le h.lt hb.size
  go_wp2_with fail
  generalize hW1 : w1.alloc (.cells #[.int .i64 k, .int .i64 r, .int .i64 sl, .int .i64 m, .slice A1 d.length n1] 38) = W1 at *
  have x0 := hX.cell 0 (x := .int .i64 k) rfl
  have x2 := hX.cell 2 (x := .int .i64 sl) rfl
  have c8 := H1.1.cell 8 (x := .int .i64 (s.n : Nat)) rfl
  generalize w1.heap.size = b at *
  clear ho hB1 hW1 hb hX hD hv
  have HH : Hid (∀ n, GAt (W1.drewN n) g s) := Lib.hid fun n => ⟨H1.1.drewN n, H1.2⟩
  have HO : Hid (∀ n, Only g w (W1.drewN n)) := Lib.hid fun n => hO1.trans (only_of_below g (below_drewN (Below.refl _ W1) n))
  clear H1 hO1 h
  by_cases p1 : er = 0
  · subst p1
    obtain ⟨s0, s8⟩ := hts.out rfl
    by_cases p2 : k = 1
    · subst p2
      go_quiet (fail)
      go_wp2
      exact bodyPost_ret (results_none (by rfl) _ _ _) rfl ⟨rfl, HH.out _, HO.out _⟩
    · have q2 : (k == 1) = false := by rw [beq_eq_false_iff_ne]; exact p2
      by_cases p3 : sl < (s.n : Int)
      · have q3 : decide ((s.n : Int) ≤ sl) = false := decide_eq_false (by omega)
        have HX : Hid (∀ n, (W1.drewN n).cell? ⟨b, 2, none⟩ = some (.int .i64 sl)) := Lib.hid fun n => ((below_drewN (Below.refl (b + 1) W1) n).cell (p := ⟨b, 2, none⟩) (Nat.lt_succ_self _)).trans x2
        go_quiet (fail)
        have H2 := HH.out nq
        have hO2 := HO.out nq
        have y2 := HX.out nq
        clear HX HH HO x0 x2 c8
        generalize W1.drewN nq = W2 at *
        clear q3
        have c16 := H2.1.cell 16 (x := .int .i64 s.now) rfl
        have c17 := H2.1.cell 17 (x := .bool s.kn) rfl
        have c18 := H2.1.cell 18 (x := .int .i64 (s.slot : Nat)) rfl
        have c19 := H2.1.cell 19 (x := .int .i64 (s.si : Nat)) rfl
        have f16 := H2.1.frozen 16
        have f17 := H2.1.frozen 17
        have f18 := H2.1.frozen 18
        have f19 := H2.1.frozen 19
        have H2 := Lib.hid H2
        have hO2 := Lib.hid hO2
        have es : sl = (sl.toNat : Int) := by omega
        have H3 : Hid (GAt ((((W2.setCell ⟨g, 17, none⟩ (.bool true)).setCell ⟨g, 18, none⟩ (.int .i64 sl)).setCell ⟨g, 16, none⟩ (.int .i64 at_)).setCell ⟨g, 19, none⟩ (.int .i64 0)).drew g { s with kn := true, slot := sl.toNat, now := at_, si := 0 }) := Lib.hid
          ⟨(((((H2.out.1.set 17 (.bool true)).set 18 (.int .i64 sl)).set 16 (.int .i64 at_)).set 19 (.int .i64 ((0 : Nat) : Int))).drew).eq (by rw [grd_kn, congrArg (Value.int .i64) es, grd_slot, grd_now, grd_si]), H2.out.2⟩
        have hO3 := Lib.hid (((((hO2.out.set 17 (.bool true)).set 18 (.int .i64 sl)).set 16 (.int .i64 at_)).set 19 (.int .i64 0)).drew)
        have HE := Lib.hid es
        clear es
        go_wp2_with fail
        go_region
        generalize ((((W2.setCell ⟨g, 17, none⟩ (.bool true)).setCell ⟨g, 18, none⟩ (.int .i64 sl)).setCell ⟨g, 16, none⟩ (.int .i64 at_)).setCell ⟨g, 19, none⟩ (.int .i64 0)).drew = W3 at *
        go_wp2_with fail
        refine (clear_gd g _ _ H3.out).mono ?_
        rintro e w4 ⟨rfl, H4, hO4⟩
        go_wp2_with fail
        refine (goOn_gd g _ _ H4 (by show sl.toNat < s.n; omega) hn (by simp [small]) hm (fun _ => hnow)).mono ?_
        rintro e w5 ⟨rfl, H5, hO5⟩
        go_wp2
        exact bodyPost_end (results_none (by rfl) _ _ _) rfl ⟨rfl, by simpa [p2, p3] using H5, (hO3.out.trans hO4).trans hO5⟩
      · have q3 : decide ((s.n : Int) ≤ sl) = true := decide_eq_true (by omega)
        go_quiet (fail)
        go_wp2
        exact bodyPost_ret (results_none (by rfl) _ _ _) rfl ⟨rfl, by simpa [p2, p3] using HH.out _, HO.out _⟩
  · have q1 : (er != 0) = true := by rw [bne_iff_ne]; exact p1
    go_quiet (fail)
    all_goals
      go_wp2
      all_goals exact bodyPost_ret (results_none (by rfl) _ _ _) rfl ⟨rfl, by simpa [p1] using HH.out _, HO.out _⟩
/-- A slot is over. -/
def G.ended (s : G) (l : List Int) (at_ : Int) : G := if s.kn then (if 0 < l.length then s.heard at_ else s.missed) else s.learnt l at_
/-- What it may hold. -/
structure G.Ok (s : G) (at_ : Int) : Prop where
  n : s.n ≤ 8
  slot : s.slot < s.n
  small : small s.l
  lm : 0 ≤ s.lm ∧ s.lm ≤ 1099511627776
  now : -1125899906842624 ≤ s.now ∧ s.now ≤ 1125899906842624
  near : -1099511627776 ≤ at_ - s.now ∧ at_ - s.now ≤ 1099511627776
  si : s.si ≤ 1000
theorem term_bd (m : Int) (l : List Int) (hm : 0 ≤ m) : -m ≤ termV m l ∧ termV m l ≤ m := by
  unfold termV
  split
  · rename_i h
    exact of_decide_eq_true h
  · omega
set_option maxRecDepth 100000 in
set_option maxHeartbeats 4000000 in
theorem end_gd (g : Nat) (s : G) (v : Value) (l : List Int) (at_ : Int) (w : World) (h : GAt w g s) (ok : s.Ok at_) (hv : SeesL w w.heap.size v l) (hl : bytesL l) :
    Calls Try.prog 14 #[.pointer (some ⟨g, 0, none⟩), v, .int .i64 at_] w fun e w' => e = .returned (.tuple #[]) ∧ GAt w' g (s.ended l at_) ∧ Only g w w' := by
  obtain ⟨o1, o2, o3, o4, o5, o6, o7⟩ := ok
  have o4' : 0 ≤ s.lm ∧ s.lm ≤ 9223372036854775807 := ⟨o4.1, by omega⟩
  have tb := fun l => term_bd s.lm l o4.1
  have H1 := Lib.hid (learn_gd g s v l at_ w h o1 o4' hv hl (by unfold time; omega) (by have := tb []; unfold time; omega))
  have H2 := Lib.hid (hear_gd g s at_ w h o2 o1 o3 o4' (by unfold time; omega) (by unfold time; omega) (fun _ => o6) (fun _ => by have := tb (if s.sy s.slot then keep4 s.l (at_ - s.now) else s.l); unfold time; omega))
  have H3 := Lib.hid (miss_gd g s w h o2 o1 o3 o4' o7 (fun _ => by have := tb s.l; unfold time; omega))
  have c17 := h.1.cell 17 (x := .bool s.kn) rfl
  obtain ⟨A, c, rfl, -⟩ := hv.at_
  unfold G.ended
  clear h hv tb
  cases hk : s.kn
  · rw [hk] at c17
    go_enter Try.func14, Try.ntmps14
    go_wp2_with fail
    refine H1.out.mono ?_
    rintro e w4 ⟨rfl, H4, hO4⟩
    go_wp2
    exact bodyPost_end (results_none (by rfl) _ _ _) rfl ⟨rfl, H4, hO4⟩
  · rw [hk] at c17
    by_cases h0 : 0 < l.length
    · have q1 : decide ((0 : Int) < (l.length : Nat)) = true := decide_eq_true (by omega)
      go_enter Try.func14, Try.ntmps14
      go_wp2_with fail
      refine H2.out.mono ?_
      rintro e w4 ⟨rfl, H4, hO4⟩
      go_wp2
      exact bodyPost_end (results_none (by rfl) _ _ _) rfl ⟨rfl, by simpa [h0] using H4, hO4⟩
    · have q1 : decide ((0 : Int) < (l.length : Nat)) = false := decide_eq_false (by omega)
      go_enter Try.func14, Try.ntmps14
      go_wp2_with fail
      refine H3.out.mono ?_
      rintro e w4 ⟨rfl, H4, hO4⟩
      go_wp2
      exact bodyPost_end (results_none (by rfl) _ _ _) rfl ⟨rfl, by simpa [h0] using H4, hO4⟩
end Go.Proofs.Ythigojakapgllaa
