/- Texts NdZ in one. For what each says in front of its theorems. -/
import Derived.Test.YtpdenmcacaajkaaGreatXB23
import Derived.Test.YtpdenmcacaajkaaGreatXB24
/-! ### NdZ -/
namespace Go.Proofs.YtpdenmcacaajkaaGreat
open Go.RowKit
open Fr (St F)

set_option maxHeartbeats 1000000 in
theorem take_nd (b : Bool) (G : Nat → Prop) (g : Nat) (m : NM) (h : Hn) (vx vy : Value) (w : World) (hm : NA b G w g m) (hi : NI b m) (hG : ∀ x, w.heap.size ≤ x → G x) (hh : HOk w h vx vy) (ha : m.ty.a < 900) (hf : m.ty.f < 900) (ht : -4611686018427387904 ≤ m.tm ∧ m.tm ≤ 4611686018427387904) :
    Calls Tryz.prog 36 #[.pointer (some ⟨g, 0, none⟩), hdV h vx vy] w fun e w' => ∃ b', e = .returned (.tuple #[]) ∧ NA b' G w' g (m.take h) ∧ NI b' (m.take h) ∧ Only g w w' := by
  have hj := hi.j
  have hmay := hj.may
  have hn8 := hmay.n8
  have hsl := hj.sl
  have ho := hh.o
  have hHW : ∀ W, Below w.heap.size w W → HOk W h vx vy := fun W hW => ⟨(hh.x.below hW).more hW.size, hh.bx, (hh.y.below hW).more hW.size, hh.by_, hh.o⟩
  have hGW : ∀ W, Below w.heap.size w W → ∀ x, W.heap.size ≤ x → G x := fun W hW x hx => hG x (Nat.le_trans hW.size hx)
  obtain ⟨Ax, cx, rfl, -⟩ := hh.x.at_
  obtain ⟨Ay, cy, rfl, -⟩ := hh.y.at_
  by_cases hoff : m.st = 0 ∨ m.st = 5
  · have eT : m.take h = m := by unfold NM.take; rw [if_pos hoff]
    rw [eT]
    have hfin : ∀ (e : Ending) (w' : World), (e = .returned (.tuple #[]) ∧ NA b G w' g m ∧ Only g w w') → ∃ b', e = .returned (.tuple #[]) ∧ NA b' G w' g m ∧ NI b' m ∧ Only g w w' := fun e w' h => ⟨b, h.1, h.2.1, hi, h.2.2⟩
    rcases hoff with e | e
    · exact (take_0 b G g m h Ax Ay _ _ cx cy w hm e).mono hfin
    · exact (take_5 b G g m h Ax Ay _ _ cx cy w hm e).mono hfin
  · by_cases h1 : m.st = 1
    · have hb : b = false := by
        cases b
        · rfl
        · have := (hi.b1 rfl).2; omega
      subst hb
      rcases hl : m.firstL h with _ | l
      · have eT : m.take h = if h.a ≠ 0 ∨ h.b ≠ 0 then { m with wt := 0 } else m := by unfold NM.take; rw [if_neg hoff, if_pos h1, hl]
        rw [eT]
        refine (take_1 false G g m h Ax Ay _ _ cx cy false _ w hm h1 (fun W hW => listen_no false G g m h _ _ W (hm.below hW) (hHW W hW) hl)).mono ?_
        rintro e w' ⟨rfl, h', o⟩
        refine ⟨false, rfl, h', ?_, o⟩
        split
        · exact ⟨⟨hj.is, hj.i, hj.st, hj.rd, hj.sl, hj.da, me_li (m := m) hj.is hj.i, hj.ck, hj.dr⟩, (fun h => by cases h), hi.b2⟩
        · exact hi
      · have eT : m.take h = (m.knows (Fr.res l NM.z3) h.o).goOn := by unfold NM.take; rw [if_neg hoff, if_pos h1, hl]
        have htl : m.tells l := by
          have := List.find?_some hl
          exact of_decide_eq_true this
        obtain ⟨he, hk1, hs1, hs2⟩ := htl
        have hrm := (St.may_iff _).1 (res_may he)
        have hjk := hj.knows (Fr.res l NM.z3) h.o hrm.1 ⟨hrm.2.1.1, hs1⟩
        have hgk : NG (m.knows (Fr.res l NM.z3) h.o) := hjk.ng (by show -4611687117939015680 ≤ m.tm + h.o ∧ m.tm + h.o ≤ 4611687117939015680; omega)
        rw [eT]
        refine (take_1 false G g m h Ax Ay _ _ cx cy false _ w hm h1 (fun W hW => listen_some false G g m h _ _ l W (hm.below hW) (hGW W hW) (hHW W hW) hl hgk ht hrm.2.1.1)).mono ?_
        rintro e w' ⟨rfl, h', o⟩
        exact ⟨false, rfl, h', NI.goOn hjk, o⟩
    · have hst : m.st = 2 ∨ m.st = 3 ∨ m.st = 4 := by have := hj.st; omega
      by_cases hs : m.sl = m.i
      · have hse : b = m.se := by
          rcases hi.b2 with e | e
          · exact e
          · omega
        have eT : m.take h = ({ m with ck := if m.se = true then m.meas m.i 0 else m.ck } : NM).goOn := by unfold NM.take; rw [if_neg hoff, if_neg h1, if_pos hs]
        by_cases hs1 : m.se = true
        · by_cases hsy : m.me.sy = true
          · have eC : m.take h = ({ m with ck := keep4 m.ck 0 } : NM).goOn := by
              rw [eT, if_pos hs1]
              unfold NM.meas
              rw [if_pos (show (m.at_ m.i).sy = true from hsy)]
            rw [eC]
            have hjc := hj.ck_ (keep4 m.ck 0) (hj.ck.keep4_ (by omega))
            have hg : NG ({ m with ck := keep4 m.ck 0 } : NM) := hjc.ng (by show -4611687117939015680 ≤ m.tm ∧ m.tm ≤ 4611687117939015680; omega)
            have hfin : ∀ (e : Ending) (w' : World), (e = .returned (.tuple #[]) ∧ NA false G w' g (({ m with ck := keep4 m.ck 0 } : NM).goOn) ∧ Only g w w') → ∃ b', e = .returned (.tuple #[]) ∧ NA b' G w' g (({ m with ck := keep4 m.ck 0 } : NM).goOn) ∧ NI b' (({ m with ck := keep4 m.ck 0 } : NM).goOn) ∧ Only g w w' := fun e w' h => ⟨false, h.1, h.2.1, NI.goOn hjc, h.2.2⟩
            rcases hst with e | e | e
            · exact (take_own_211 b G g m h Ax Ay _ _ cx cy w hm e hs (hse.trans hs1) hsy hg).mono hfin
            · exact (take_own_311 b G g m h Ax Ay _ _ cx cy w hm e hs (hse.trans hs1) hsy hg).mono hfin
            · exact (take_own_411 b G g m h Ax Ay _ _ cx cy w hm e hs (hse.trans hs1) hsy hg).mono hfin
          · have hsy0 : m.me.sy = false := by simpa using hsy
            have eC : m.take h = m.goOn := by
              rw [eT, if_pos hs1]
              unfold NM.meas
              rw [if_neg (show ¬ (m.at_ m.i).sy = true from hsy)]
            rw [eC]
            have hg : NG m := hj.ng (by omega)
            have hfin : ∀ (e : Ending) (w' : World), (e = .returned (.tuple #[]) ∧ NA false G w' g m.goOn ∧ Only g w w') → ∃ b', e = .returned (.tuple #[]) ∧ NA b' G w' g m.goOn ∧ NI b' m.goOn ∧ Only g w w' := fun e w' h => ⟨false, h.1, h.2.1, NI.goOn hj, h.2.2⟩
            rcases hst with e | e | e
            · exact (take_own_210 b G g m h Ax Ay _ _ cx cy w hm e hs (hse.trans hs1) hsy0 hg).mono hfin
            · exact (take_own_310 b G g m h Ax Ay _ _ cx cy w hm e hs (hse.trans hs1) hsy0 hg).mono hfin
            · exact (take_own_410 b G g m h Ax Ay _ _ cx cy w hm e hs (hse.trans hs1) hsy0 hg).mono hfin
        · have hs0 : m.se = false := by simpa using hs1
          have eC : m.take h = m.goOn := by rw [eT, if_neg hs1]
          rw [eC]
          have hg : NG m := hj.ng (by omega)
          have hfin : ∀ (e : Ending) (w' : World), (e = .returned (.tuple #[]) ∧ NA false G w' g m.goOn ∧ Only g w w') → ∃ b', e = .returned (.tuple #[]) ∧ NA b' G w' g m.goOn ∧ NI b' m.goOn ∧ Only g w w' := fun e w' h => ⟨false, h.1, h.2.1, NI.goOn hj, h.2.2⟩
          rcases hst with e | e | e
          · exact (take_own_20 b G g m h Ax Ay _ _ cx cy w hm e hs (hse.trans hs0) hg).mono hfin
          · exact (take_own_30 b G g m h Ax Ay _ _ cx cy w hm e hs (hse.trans hs0) hg).mono hfin
          · exact (take_own_40 b G g m h Ax Ay _ _ cx cy w hm e hs (hse.trans hs0) hg).mono hfin
      · have other : ∀ m2, NJ m2 → m2.tm = m.tm → (∀ W, Below w.heap.size w W → Calls Tryz.prog 81 #[.pointer (some ⟨g, 0, none⟩), hdV h (.slice Ax h.x.length cx) (.slice Ay h.y.length cy)] W fun e w' => e = .returned (.tuple #[]) ∧ NA b G w' g m2 ∧ Only g W w') → m.take h = m2.goOn →
            Calls Tryz.prog 36 #[.pointer (some ⟨g, 0, none⟩), hdV h (.slice Ax h.x.length cx) (.slice Ay h.y.length cy)] w fun e w' => ∃ b', e = .returned (.tuple #[]) ∧ NA b' G w' g (m.take h) ∧ NI b' (m.take h) ∧ Only g w w' := fun m2 j2 t2 HJ eT => by
          rw [eT]
          have hg : NG m2 := j2.ng (by rw [t2]; omega)
          have hfin : ∀ (e : Ending) (w' : World), (e = .returned (.tuple #[]) ∧ NA false G w' g m2.goOn ∧ Only g w w') → ∃ b', e = .returned (.tuple #[]) ∧ NA b' G w' g m2.goOn ∧ NI b' m2.goOn ∧ Only g w w' := fun e w' h => ⟨false, h.1, h.2.1, NI.goOn j2, h.2.2⟩
          rcases hst with e | e | e
          · exact (take_other_2 b G g m h Ax Ay _ _ cx cy m2 w hm e hs HJ hg).mono hfin
          · exact (take_other_3 b G g m h Ax Ay _ _ cx cy m2 w hm e hs HJ hg).mono hfin
          · exact (take_other_4 b G g m h Ax Ay _ _ cx cy m2 w hm e hs HJ hg).mono hfin
        have hs8 : m.sl < 8 := by omega
        rcases hl : m.rightL h with _ | l
        · by_cases hq : h.a = 0 ∧ h.b = 0
          · exact other (m.took (m.ty.miss m.sl) m.so m.ck) (hj.took _ _ _ hj.ck) rfl (fun W hW => judge_miss b G g m h _ _ W (hm.below hW) (hHW W hW) hs8 hl hq) (by unfold NM.take; rw [if_neg hoff, if_neg h1, if_neg hs, hl]; exact if_pos hq)
          · exact other (m.took (m.ty.wrong m.sl) m.so m.ck) (hj.took _ _ _ hj.ck) rfl (fun W hW => judge_wrong b G g m h _ _ W (hm.below hW) (hHW W hW) hs8 hl hq (by omega)) (by unfold NM.take; rw [if_neg hoff, if_neg h1, if_neg hs, hl]; exact if_neg hq)
        · by_cases hsy : (m.at_ m.sl).sy = true
          · refine other (m.took (m.ty.right m.sl) (m.so.put m.sl (Fr.res l m.own).d) (keep4 m.ck h.o)) (hj.took _ _ _ (hj.ck.keep4_ ho)) rfl (fun W hW => judge_sync b G g m h _ _ l W (hm.below hW) (hHW W hW) hs8 hl (hGW W hW) (by omega) hsl hn8 hsy) ?_
            unfold NM.take
            rw [if_neg hoff, if_neg h1, if_neg hs, hl]
            simp only [NM.meas, if_pos hsy]
          · refine other (m.took (m.ty.right m.sl) (m.so.put m.sl (Fr.res l m.own).d) m.ck) (hj.took _ _ _ hj.ck) rfl (fun W hW => judge_nosync b G g m h _ _ l W (hm.below hW) (hHW W hW) hs8 hl (hGW W hW) (by omega) hsl hn8 (by simpa using hsy)) ?_
            unfold NM.take
            rw [if_neg hoff, if_neg h1, if_neg hs, hl]
            simp only [NM.meas, if_neg hsy]
/-- A node of these blocks. -/
structure NAt (F : List Nat) (W : World) (g : Nat) (m : NM) : Prop where
  a : ∃ b, NA b (fun x => x ∈ F) W g m ∧ NI b m
  g : g ∈ F
  lt : ∀ f, f ∈ F → f < W.heap.size
section
variable {F : List Nat} {W W' : World} {g : Nat} {m : NM}
theorem seesL_keep {v : Value} {l : List Int} (h : SeesL W W.heap.size v l) (hn : Nar (fun x => x ∈ F) v l) (hs : W.heap.size ≤ W'.heap.size) (hF : ∀ f, f ∈ F → W'.heap[f]? = W.heap[f]?) : SeesL W' W'.heap.size v l := ⟨by
  obtain ⟨A, c, rfl, h1, h2, h3, h4⟩ := h.at_
  refine ⟨A, c, rfl, h1, h2, fun h0 => ?_, h4⟩
  obtain ⟨b, off, rfl, hb, hc⟩ := h3 h0
  have hm : b ∈ F := hn (List.length_pos_iff.1 h0) b rfl
  exact ⟨b, off, rfl, Nat.lt_of_lt_of_le hb hs, fun j hj => by rw [← hc j hj]; simp only [World.cell?, hF b hm]⟩⟩
theorem seesT_keep {v : Value} {l : List Tb.D} (h : SeesT W W.heap.size v l) (hn : Nar (fun x => x ∈ F) v l) (hs : W.heap.size ≤ W'.heap.size) (hF : ∀ f, f ∈ F → W'.heap[f]? = W.heap[f]?) : SeesT W' W'.heap.size v l := ⟨by
  obtain ⟨A, c, rfl, h1, h2, h3, h4⟩ := h.at_
  refine ⟨A, c, rfl, h1, h2, fun h0 => ?_, h4⟩
  obtain ⟨b, off, rfl, hb, hc⟩ := h3 h0
  have hm : b ∈ F := hn (List.length_pos_iff.1 h0) b rfl
  exact ⟨b, off, rfl, Nat.lt_of_lt_of_le hb hs, fun j hj => (hc j hj).keep fun o => by simp only [World.cell?, hF b hm]⟩⟩
theorem seesR_keep {v : Value} {l : List R4} (h : SeesRs W W.heap.size v l) (hn : Nar (fun x => x ∈ F) v l) (hs : W.heap.size ≤ W'.heap.size) (hF : ∀ f, f ∈ F → W'.heap[f]? = W.heap[f]?) : SeesRs W' W'.heap.size v l := ⟨by
  obtain ⟨A, c, rfl, h1, h2, h3, h4⟩ := h.at_
  refine ⟨A, c, rfl, h1, h2, fun h0 => ?_, h4⟩
  obtain ⟨b, off, rfl, hb, hc⟩ := h3 h0
  have hm : b ∈ F := hn (List.length_pos_iff.1 h0) b rfl
  exact ⟨b, off, rfl, Nat.lt_of_lt_of_le hb hs, fun j hj => (hc j hj).keep fun o => by simp only [World.cell?, hF b hm]⟩⟩
theorem NA.keepL {b : Bool} (h : NA b (fun x => x ∈ F) W g m) (hg : g ∈ F) (hs : W.heap.size ≤ W'.heap.size) (hF : ∀ f, f ∈ F → W'.heap[f]? = W.heap[f]?) : NA b (fun x => x ∈ F) W' g m := by
  obtain ⟨V, D, R, sv, hB, hV⟩ := h.ex
  have hD : ∀ {v : Value} {l : List Int}, DatG (fun x => x ∈ F) [g] W v l → DatG (fun x => x ∈ F) [g] W' v l := fun h => ⟨⟨seesL_keep h.1.1 h.2 hs hF, h.1.2⟩, h.2⟩
  exact ⟨⟨V, D, R, sv, (hF g hg).trans hB, ⟨seesT_keep hV.t hV.tn hs hF, hV.tf, hV.tn, hD hV.d, fun i hi => hD (hV.s i hi), seesR_keep hV.r hV.rn hs hF, hV.rf, hV.rn⟩⟩, h.tyo, h.cko, h.soo, h.al8, h.n16, h.r16⟩
theorem NAt.keep (h : NAt F W g m) (hs : W.heap.size ≤ W'.heap.size) (hF : ∀ f, f ∈ F → W'.heap[f]? = W.heap[f]?) : NAt F W' g m := by
  obtain ⟨b, ha, hi⟩ := h.a
  exact ⟨⟨b, ha.keepL h.g hs hF, hi⟩, h.g, fun f hf => Nat.lt_of_lt_of_le (h.lt f hf) hs⟩
/-- Behind a call. -/
theorem NAt.close {b : Bool} {m' : NM} (h : NAt F W g m) (ha : NA b (fun x => x ∈ F ∨ W.heap.size ≤ x) W' g m') (hi : NI b m') (o : Only g W W') : ∃ F', NAt F' W' g m' ∧ Eff F F' W W' := by
  obtain ⟨F', h1, h2, h3⟩ := ha.list (.inl h.g)
  exact ⟨F', ⟨⟨b, h1, hi⟩, h3, fun f hf => (h2 f hf).2⟩, o.kq h.g, fun f hf => (h2 f hf).1⟩
theorem NAt.open_ (h : NAt F W g m) : ∃ b, NA b (fun x => x ∈ F ∨ W.heap.size ≤ x) W g m ∧ NI b m := by
  obtain ⟨b, ha, hi⟩ := h.a
  exact ⟨b, ha.mono fun _ hx => .inl hx, hi⟩
end
theorem new0_ni {t : Tb.T} {i dr : Int} {l : List R4} (h : NM.may t i dr l) : NI false (NM.new t i.toNat dr l) := by
  obtain ⟨h1, h2, h3, -⟩ := h
  have hm := Tb.T.may h1
  have hn := hm.n4
  have hd := hm.dr
  refine ⟨⟨h1, by show i.toNat < t.ns.length; omega, Nat.zero_le _, ⟨Int.le_refl _, by show (0 : Int) ≤ 65535; decide⟩, by show 0 < t.ns.length; omega, ⟨Nat.zero_le _, fun x hx => by simp [NM.new] at hx⟩, ?_, small_nil, by show -1000 ≤ dr ∧ dr ≤ 1000; omega⟩, (fun h => by cases h), .inl rfl⟩
  exact me_li (m := NM.new t i.toNat dr l) h1 (by show i.toNat < t.ns.length; omega)
theorem nodeApi : NodeApi NAt where
  keep h hs hF := h.keep hs hF
  lt h := h.lt
  new_ok t v u i dr l w hv hu hm := by
    refine (newN_ok t v u i dr l w hv hu ⟨hm.2.2.2.1, hm.2.2.2.2⟩ hm.1 hm.2.1.1 hm.2.1.2 hm.2.2.1.1 hm.2.2.1.2).mono ?_
    rintro _ w' ⟨g, rfl, hg, ha, b⟩
    obtain ⟨F', h1, h2, h3⟩ := ha.list hg
    exact ⟨g, F', rfl, ⟨⟨false, h1, new0_ni hm⟩, h3, fun f hf => (h2 f hf).2⟩, fun f hf => (h2 f hf).1, b⟩
  new_no t v u i dr l w hv hu hm := new_nd_no t v u i dr l w hv hu hm
  on {F w g s} a h := by
    obtain ⟨b, ha, hi⟩ := h.open_
    refine (on_nd b _ g s a w ha hi.j.st).mono ?_
    rintro _ w' ⟨rfl, h', o⟩
    obtain ⟨F', h1, h2⟩ := h.close h' (hi.on a) o
    exact ⟨F', rfl, h1, h2⟩
  send {F w g s} h := by
    obtain ⟨b, ha, hi⟩ := h.open_
    refine (send_nd b _ g s w ha hi).mono ?_
    rintro _ w' ⟨v, b', rfl, hv, h', hi', o⟩
    obtain ⟨F', h1, h2⟩ := h.close h' hi' o
    exact ⟨v, F', rfl, hv.sees, h1, h2⟩
  take {F w g s vx vy} hd h hx bx hy by_ ha hf ht ho := by
    obtain ⟨b, hna, hi⟩ := h.open_
    refine (take_nd b _ g s hd vx vy w hna hi (fun x hx => .inr hx) ⟨hx, bx, hy, by_, ho⟩ ha hf ht).mono ?_
    rintro _ w' ⟨b', rfl, h', hi', o⟩
    obtain ⟨F', h1, h2⟩ := h.close h' hi' o
    exact ⟨F', rfl, h1, h2⟩
  state {F w g s} h := by
    obtain ⟨b, ha, hi⟩ := h.a
    refine (state_nd b _ g s w ha).mono ?_
    rintro _ w' ⟨rfl, rfl⟩
    exact ⟨rfl, Below.refl _ _⟩
  view {F w g s} h := by
    obtain ⟨b, ha, hi⟩ := h.a
    exact view_nd b _ g s w ha
  clock {F w g s} h := by
    obtain ⟨b, ha, hi⟩ := h.a
    refine (clock_nd b _ g s w ha).mono ?_
    rintro _ w' ⟨rfl, rfl⟩
    exact ⟨rfl, Below.refl _ _⟩
/-- What is sent is new memory. -/
theorem sendOwn {F : List Nat} {w : World} {g : Nat} {s : NM} (h : NAt F w g s) : Calls Tryz.prog 33 #[.pointer (some ⟨g, 0, none⟩)] w fun e w' => ∃ v F', e = .returned v ∧ OwnsL w' w.heap.size v s.sent ∧ NAt F' w' g s.sendS ∧ Eff F F' w w' := by
  obtain ⟨b, ha, hi⟩ := h.open_
  refine (send_nd b _ g s w ha hi).mono ?_
  rintro _ w' ⟨v, b', rfl, hv, h', hi', o⟩
  obtain ⟨F', h1, h2⟩ := h.close h' hi' o
  exact ⟨v, F', rfl, hv, h1, h2⟩
end Go.Proofs.YtpdenmcacaajkaaGreat
