/- Texts NdB, NdZ, NdF in one. For what each says in front of its theorems. -/
import Derived.Test.YtpdenmcacaajkaaGreatPB6
import Derived.Test.YtpdenmcacaajkaaGreatPB7
import Derived.Test.YtpdenmcacaajkaaGreatPB23
import Derived.Test.YtpdenmcacaajkaaGreatPB30
import Derived.Test.YtpdenmcacaajkaaGreatPB31
/-! ### NdB -/
namespace Go.Proofs.YtpdenmcacaajkaaGreat
open Go.RowKit

/-- What more of a node's calls do. -/
structure NodeMore (NAt : List Nat → World → Nat → NM → Prop) : Prop where
  off : ∀ {F w g s}, NAt F w g s → Calls Tryz.prog 27 #[(.pointer (some ⟨g, 0, none⟩))] w fun e w' => ∃ F', e = .returned (.tuple #[]) ∧ NAt F' w' g s.off ∧ Eff F F' w w'
  write : ∀ {F w g s v l}, NAt F w g s → SeesL w w.heap.size v l → bytesL l → Calls Tryz.prog 29 #[(.pointer (some ⟨g, 0, none⟩)), v] w fun e w' => ∃ F', e = .returned (.int .i64 (s.writeE l)) ∧ NAt F' w' g (s.write l) ∧ Eff F F' w w'
  read : ∀ {F w g s} (n : Int), NAt F w g s → Calls Tryz.prog 43 #[(.pointer (some ⟨g, 0, none⟩)), .int .i64 n] w fun e w' => ∃ v, e = .returned (.agg #[v, .int .i64 (s.so.ga n), .bool (s.so.gg n)]) ∧ SeesL w' w'.heap.size v (s.so.gd n) ∧ bytesL (s.so.gd n) ∧ Below w.heap.size w w'
  rings : ∀ {F w g s} (n : Int), NAt F w g s → Calls Tryz.prog 45 #[(.pointer (some ⟨g, 0, none⟩)), .int .i64 n] w fun e w' => e = .returned (.int .i64 ((if isR s.al n then s.ar n.toNat else 0 : Nat) : Int)) ∧ Below w.heap.size w w'
  ack : ∀ {F w g s} (n : Int), NAt F w g s → Calls Tryz.prog 31 #[(.pointer (some ⟨g, 0, none⟩)), .int .i64 n] w fun e w' => ∃ F', e = .returned (.int .i64 (ackM s.al s.an s.ar n)) ∧ NAt F' w' g { s with ar := ackR s.al s.an s.ar n } ∧ Eff F F' w w'
namespace NodeMore
variable {NAt : List Nat → World → Nat → NM → Prop} (M : NodeMore NAt) {B : Nat} {P : List Nat} {w w' : World} {g : Nat} {s : NM}
include M
theorem offB (h : Nd NAt B P w g s) : Calls Tryz.prog 27 #[(.pointer (some ⟨g, 0, none⟩))] w fun e w' => e = .returned (.tuple #[]) ∧ Nd NAt B P w' g s.off ∧ Bw B P w w' := by
  obtain ⟨⟨F, h, hF⟩, hB, hP⟩ := h
  refine (M.off h).mono ?_
  rintro _ w' ⟨F', rfl, h', e⟩
  exact ⟨rfl, nd_eff h' e hF hB hP⟩
theorem writeB {v : Value} {l : List Int} (h : Nd NAt B P w g s) (hv : SeesL w w.heap.size v l) (hl : bytesL l) : Calls Tryz.prog 29 #[(.pointer (some ⟨g, 0, none⟩)), v] w fun e w' => e = .returned (.int .i64 (s.writeE l)) ∧ Nd NAt B P w' g (s.write l) ∧ Bw B P w w' := by
  obtain ⟨⟨F, h, hF⟩, hB, hP⟩ := h
  refine (M.write h hv hl).mono ?_
  rintro _ w' ⟨F', rfl, h', e⟩
  exact ⟨rfl, nd_eff h' e hF hB hP⟩
theorem readB (A : NodeApi NAt) (n : Int) (h : Nd NAt B P w g s) : Calls Tryz.prog 43 #[(.pointer (some ⟨g, 0, none⟩)), .int .i64 n] w fun e w' => ∃ v, e = .returned (.agg #[v, .int .i64 (s.so.ga n), .bool (s.so.gg n)]) ∧ SeesL w' w'.heap.size v (s.so.gd n) ∧ bytesL (s.so.gd n) ∧ Nd NAt B P w' g s ∧ Bw B P w w' := by
  have h0 := h
  obtain ⟨⟨F, h, hF⟩, hB, hP⟩ := h
  refine (M.read n h).mono ?_
  rintro _ w' ⟨v, rfl, hv, hl, b⟩
  exact ⟨v, rfl, hv, hl, A.ndKeep h0 b, Bw.of b hB hP⟩
theorem readK (A : NodeApi NAt) (n : Int) (h : Nd NAt B P w g s) : Calls Tryz.prog 43 #[(.pointer (some ⟨g, 0, none⟩)), .int .i64 n] w fun e w' => ∃ v, e = .returned (.agg #[v, .int .i64 (s.so.ga n), .bool (s.so.gg n)]) ∧ SeesL w' w'.heap.size v (s.so.gd n) ∧ bytesL (s.so.gd n) ∧ Nd NAt B P w' g s ∧ Below w.heap.size w w' := by
  have h0 := h
  obtain ⟨⟨F, h, hF⟩, hB, hP⟩ := h
  refine (M.read n h).mono ?_
  rintro _ w' ⟨v, rfl, hv, hl, b⟩
  exact ⟨v, rfl, hv, hl, A.ndKeep h0 b, b⟩
end NodeMore
end Go.Proofs.YtpdenmcacaajkaaGreat

/-! ### NdZ -/
namespace Go.Proofs.YtpdenmcacaajkaaGreat
open Go.RowKit
open Fr (St F)

set_option maxHeartbeats 1000000 in
theorem take_nd (b : Bool) (G : Nat → Prop) (g : Nat) (m : NM) (h : Hn) (vx vy : Value) (w : World) (hm : NA b G w g m) (hi : NI b m) (hG : ∀ x, w.heap.size ≤ x → G x) (hh : HOk w h vx vy) (ha : m.ty.a < 900) (hf : m.ty.f < 900) (ht : -4611686018427387904 ≤ m.tm ∧ m.tm ≤ 4611686018427387904) :
    Calls Tryz.prog 36 #[.pointer (some ⟨g, 0, none⟩), hdV h vx vy] w fun e w' => ∃ b', e = .returned (.tuple #[]) ∧ NA b' G w' g (m.take h) ∧ NI b' (m.take h) ∧ Only g w w' := by
  have hj := hi.j
  have hmay := hj.may
  have hn8 := hmay.n8
  have hsl := hj.sl
  have ho := hh.o
  have hHW : ∀ W, Below w.heap.size w W → HOk W h vx vy := fun W hW => ⟨(hh.x.below hW).more hW.size, hh.bx, (hh.y.below hW).more hW.size, hh.by_, hh.o⟩
  have hGW : ∀ W, Below w.heap.size w W → ∀ x, W.heap.size ≤ x → G x := fun W hW x hx => hG x (Nat.le_trans hW.size hx)
  obtain ⟨Ax, cx, rfl, -⟩ := hh.x.at_
  obtain ⟨Ay, cy, rfl, -⟩ := hh.y.at_
  by_cases hoff : m.st = 0 ∨ m.st = 5
  · have eT : m.take h = m := by unfold NM.take; rw [if_pos hoff]
    rw [eT]
    have hfin : ∀ (e : Ending) (w' : World), (e = .returned (.tuple #[]) ∧ NA b G w' g m ∧ Only g w w') → ∃ b', e = .returned (.tuple #[]) ∧ NA b' G w' g m ∧ NI b' m ∧ Only g w w' := fun e w' h => ⟨b, h.1, h.2.1, hi, h.2.2⟩
    rcases hoff with e | e
    · exact (take_0 b G g m h Ax Ay _ _ cx cy w hm e).mono hfin
    · exact (take_5 b G g m h Ax Ay _ _ cx cy w hm e).mono hfin
  · by_cases h1 : m.st = 1
    · have hb : b = false := by
        cases b
        · rfl
        · have := (hi.b1 rfl).2; omega
      subst hb
      rcases hl : m.firstL h with _ | l
      · have eT : m.take h = if h.a ≠ 0 ∨ h.b ≠ 0 then { m with wt := 0 } else m := by unfold NM.take; rw [if_neg hoff, if_pos h1, hl]
        rw [eT]
        refine (take_1 false G g m h Ax Ay _ _ cx cy false _ w hm h1 (fun W hW => listen_no false G g m h _ _ W (hm.below hW) (hHW W hW) hl)).mono ?_
        rintro e w' ⟨rfl, h', o⟩
        refine ⟨false, rfl, h', ?_, o⟩
        split
        · exact ⟨⟨hj.is, hj.i, hj.st, hj.rd, hj.sl, hj.da, me_li (m := m) hj.is hj.i, hj.ck, hj.dr⟩, (fun h => by cases h), hi.b2⟩
        · exact hi
      · have eT : m.take h = (m.knows (Fr.res l NM.z3) h.o).goOn := by unfold NM.take; rw [if_neg hoff, if_pos h1, hl]
        have htl : m.tells l := by
          have := List.find?_some hl
          exact of_decide_eq_true this
        obtain ⟨he, hk1, hs1, hs2⟩ := htl
        have hrm := (St.may_iff _).1 (res_may he)
        have hjk := hj.knows (Fr.res l NM.z3) h.o hrm.1 ⟨hrm.2.1.1, hs1⟩
        have hgk : NG (m.knows (Fr.res l NM.z3) h.o) := hjk.ng (by show -4611687117939015680 ≤ m.tm + h.o ∧ m.tm + h.o ≤ 4611687117939015680; omega)
        rw [eT]
        refine (take_1 false G g m h Ax Ay _ _ cx cy false _ w hm h1 (fun W hW => listen_some false G g m h _ _ l W (hm.below hW) (hGW W hW) (hHW W hW) hl hgk ht hrm.2.1.1)).mono ?_
        rintro e w' ⟨rfl, h', o⟩
        exact ⟨false, rfl, h', NI.goOn hjk, o⟩
    · have hst : m.st = 2 ∨ m.st = 3 ∨ m.st = 4 := by have := hj.st; omega
      by_cases hs : m.sl = m.i
      · have hse : b = m.se := by
          rcases hi.b2 with e | e
          · exact e
          · omega
        have eT : m.take h = ({ m with ck := if m.se = true then m.meas m.i 0 else m.ck } : NM).goOn := by unfold NM.take; rw [if_neg hoff, if_neg h1, if_pos hs]
        by_cases hs1 : m.se = true
        · by_cases hsy : m.me.sy = true
          · have eC : m.take h = ({ m with ck := keep4 m.ck 0 } : NM).goOn := by
              rw [eT, if_pos hs1]
              unfold NM.meas
              rw [if_pos (show (m.at_ m.i).sy = true from hsy)]
            rw [eC]
            have hjc := hj.ck_ (keep4 m.ck 0) (hj.ck.keep4_ (by omega))
            have hg : NG ({ m with ck := keep4 m.ck 0 } : NM) := hjc.ng (by show -4611687117939015680 ≤ m.tm ∧ m.tm ≤ 4611687117939015680; omega)
            have hfin : ∀ (e : Ending) (w' : World), (e = .returned (.tuple #[]) ∧ NA false G w' g (({ m with ck := keep4 m.ck 0 } : NM).goOn) ∧ Only g w w') → ∃ b', e = .returned (.tuple #[]) ∧ NA b' G w' g (({ m with ck := keep4 m.ck 0 } : NM).goOn) ∧ NI b' (({ m with ck := keep4 m.ck 0 } : NM).goOn) ∧ Only g w w' := fun e w' h => ⟨false, h.1, h.2.1, NI.goOn hjc, h.2.2⟩
            rcases hst with e | e | e
            · exact (take_own_211 b G g m h Ax Ay _ _ cx cy w hm e hs (hse.trans hs1) hsy hg).mono hfin
            · exact (take_own_311 b G g m h Ax Ay _ _ cx cy w hm e hs (hse.trans hs1) hsy hg).mono hfin
            · exact (take_own_411 b G g m h Ax Ay _ _ cx cy w hm e hs (hse.trans hs1) hsy hg).mono hfin
          · have hsy0 : m.me.sy = false := by simpa using hsy
            have eC : m.take h = m.goOn := by
              rw [eT, if_pos hs1]
              unfold NM.meas
              rw [if_neg (show ¬ (m.at_ m.i).sy = true from hsy)]
            rw [eC]
            have hg : NG m := hj.ng (by omega)
            have hfin : ∀ (e : Ending) (w' : World), (e = .returned (.tuple #[]) ∧ NA false G w' g m.goOn ∧ Only g w w') → ∃ b', e = .returned (.tuple #[]) ∧ NA b' G w' g m.goOn ∧ NI b' m.goOn ∧ Only g w w' := fun e w' h => ⟨false, h.1, h.2.1, NI.goOn hj, h.2.2⟩
            rcases hst with e | e | e
            · exact (take_own_210 b G g m h Ax Ay _ _ cx cy w hm e hs (hse.trans hs1) hsy0 hg).mono hfin
            · exact (take_own_310 b G g m h Ax Ay _ _ cx cy w hm e hs (hse.trans hs1) hsy0 hg).mono hfin
            · exact (take_own_410 b G g m h Ax Ay _ _ cx cy w hm e hs (hse.trans hs1) hsy0 hg).mono hfin
        · have hs0 : m.se = false := by simpa using hs1
          have eC : m.take h = m.goOn := by rw [eT, if_neg hs1]
          rw [eC]
          have hg : NG m := hj.ng (by omega)
          have hfin : ∀ (e : Ending) (w' : World), (e = .returned (.tuple #[]) ∧ NA false G w' g m.goOn ∧ Only g w w') → ∃ b', e = .returned (.tuple #[]) ∧ NA b' G w' g m.goOn ∧ NI b' m.goOn ∧ Only g w w' := fun e w' h => ⟨false, h.1, h.2.1, NI.goOn hj, h.2.2⟩
          rcases hst with e | e | e
          · exact (take_own_20 b G g m h Ax Ay _ _ cx cy w hm e hs (hse.trans hs0) hg).mono hfin
          · exact (take_own_30 b G g m h Ax Ay _ _ cx cy w hm e hs (hse.trans hs0) hg).mono hfin
          · exact (take_own_40 b G g m h Ax Ay _ _ cx cy w hm e hs (hse.trans hs0) hg).mono hfin
      · have other : ∀ m2, NJ m2 → m2.tm = m.tm → (∀ W, Below w.heap.size w W → Calls Tryz.prog 81 #[.pointer (some ⟨g, 0, none⟩), hdV h (.slice Ax h.x.length cx) (.slice Ay h.y.length cy)] W fun e w' => e = .returned (.tuple #[]) ∧ NA b G w' g m2 ∧ Only g W w') → m.take h = m2.goOn →
            Calls Tryz.prog 36 #[.pointer (some ⟨g, 0, none⟩), hdV h (.slice Ax h.x.length cx) (.slice Ay h.y.length cy)] w fun e w' => ∃ b', e = .returned (.tuple #[]) ∧ NA b' G w' g (m.take h) ∧ NI b' (m.take h) ∧ Only g w w' := fun m2 j2 t2 HJ eT => by
          rw [eT]
          have hg : NG m2 := j2.ng (by rw [t2]; omega)
          have hfin : ∀ (e : Ending) (w' : World), (e = .returned (.tuple #[]) ∧ NA false G w' g m2.goOn ∧ Only g w w') → ∃ b', e = .returned (.tuple #[]) ∧ NA b' G w' g m2.goOn ∧ NI b' m2.goOn ∧ Only g w w' := fun e w' h => ⟨false, h.1, h.2.1, NI.goOn j2, h.2.2⟩
          rcases hst with e | e | e
          · exact (take_other_2 b G g m h Ax Ay _ _ cx cy m2 w hm e hs HJ hg).mono hfin
          · exact (take_other_3 b G g m h Ax Ay _ _ cx cy m2 w hm e hs HJ hg).mono hfin
          · exact (take_other_4 b G g m h Ax Ay _ _ cx cy m2 w hm e hs HJ hg).mono hfin
        have hs8 : m.sl < 8 := by omega
        rcases hl : m.rightL h with _ | l
        · by_cases hq : h.a = 0 ∧ h.b = 0
          · exact other (m.took (m.ty.miss m.sl) m.so m.ck) (hj.took _ _ _ hj.ck) rfl (fun W hW => judge_miss b G g m h _ _ W (hm.below hW) (hHW W hW) hs8 hl hq) (by unfold NM.take; rw [if_neg hoff, if_neg h1, if_neg hs, hl]; exact if_pos hq)
          · exact other (m.took (m.ty.wrong m.sl) m.so m.ck) (hj.took _ _ _ hj.ck) rfl (fun W hW => judge_wrong b G g m h _ _ W (hm.below hW) (hHW W hW) hs8 hl hq (by omega)) (by unfold NM.take; rw [if_neg hoff, if_neg h1, if_neg hs, hl]; exact if_neg hq)
        · by_cases hsy : (m.at_ m.sl).sy = true
          · refine other (m.took (m.ty.right m.sl) (m.so.put m.sl (Fr.res l m.own).d) (keep4 m.ck h.o)) (hj.took _ _ _ (hj.ck.keep4_ ho)) rfl (fun W hW => judge_sync b G g m h _ _ l W (hm.below hW) (hHW W hW) hs8 hl (hGW W hW) (by omega) hsl hn8 hsy) ?_
            unfold NM.take
            rw [if_neg hoff, if_neg h1, if_neg hs, hl]
            simp only [NM.meas, if_pos hsy]
          · refine other (m.took (m.ty.right m.sl) (m.so.put m.sl (Fr.res l m.own).d) m.ck) (hj.took _ _ _ hj.ck) rfl (fun W hW => judge_nosync b G g m h _ _ l W (hm.below hW) (hHW W hW) hs8 hl (hGW W hW) (by omega) hsl hn8 (by simpa using hsy)) ?_
            unfold NM.take
            rw [if_neg hoff, if_neg h1, if_neg hs, hl]
            simp only [NM.meas, if_neg hsy]
/-- A node of these blocks. -/
structure NAt (F : List Nat) (W : World) (g : Nat) (m : NM) : Prop where
  a : ∃ b, NA b (fun x => x ∈ F) W g m ∧ NI b m
  g : g ∈ F
  lt : ∀ f, f ∈ F → f < W.heap.size
section
variable {F : List Nat} {W W' : World} {g : Nat} {m : NM}
theorem seesL_keep {v : Value} {l : List Int} (h : SeesL W W.heap.size v l) (hn : Nar (fun x => x ∈ F) v l) (hs : W.heap.size ≤ W'.heap.size) (hF : ∀ f, f ∈ F → W'.heap[f]? = W.heap[f]?) : SeesL W' W'.heap.size v l := ⟨by
  obtain ⟨A, c, rfl, h1, h2, h3, h4⟩ := h.at_
  refine ⟨A, c, rfl, h1, h2, fun h0 => ?_, h4⟩
  obtain ⟨b, off, rfl, hb, hc⟩ := h3 h0
  have hm : b ∈ F := hn (List.length_pos_iff.1 h0) b rfl
  exact ⟨b, off, rfl, Nat.lt_of_lt_of_le hb hs, fun j hj => by rw [← hc j hj]; simp only [World.cell?, hF b hm]⟩⟩
theorem seesT_keep {v : Value} {l : List Tb.D} (h : SeesT W W.heap.size v l) (hn : Nar (fun x => x ∈ F) v l) (hs : W.heap.size ≤ W'.heap.size) (hF : ∀ f, f ∈ F → W'.heap[f]? = W.heap[f]?) : SeesT W' W'.heap.size v l := ⟨by
  obtain ⟨A, c, rfl, h1, h2, h3, h4⟩ := h.at_
  refine ⟨A, c, rfl, h1, h2, fun h0 => ?_, h4⟩
  obtain ⟨b, off, rfl, hb, hc⟩ := h3 h0
  have hm : b ∈ F := hn (List.length_pos_iff.1 h0) b rfl
  exact ⟨b, off, rfl, Nat.lt_of_lt_of_le hb hs, fun j hj => (hc j hj).keep fun o => by simp only [World.cell?, hF b hm]⟩⟩
theorem seesR_keep {v : Value} {l : List R4} (h : SeesRs W W.heap.size v l) (hn : Nar (fun x => x ∈ F) v l) (hs : W.heap.size ≤ W'.heap.size) (hF : ∀ f, f ∈ F → W'.heap[f]? = W.heap[f]?) : SeesRs W' W'.heap.size v l := ⟨by
  obtain ⟨A, c, rfl, h1, h2, h3, h4⟩ := h.at_
  refine ⟨A, c, rfl, h1, h2, fun h0 => ?_, h4⟩
  obtain ⟨b, off, rfl, hb, hc⟩ := h3 h0
  have hm : b ∈ F := hn (List.length_pos_iff.1 h0) b rfl
  exact ⟨b, off, rfl, Nat.lt_of_lt_of_le hb hs, fun j hj => (hc j hj).keep fun o => by simp only [World.cell?, hF b hm]⟩⟩
theorem NA.keepL {b : Bool} (h : NA b (fun x => x ∈ F) W g m) (hg : g ∈ F) (hs : W.heap.size ≤ W'.heap.size) (hF : ∀ f, f ∈ F → W'.heap[f]? = W.heap[f]?) : NA b (fun x => x ∈ F) W' g m := by
  obtain ⟨V, D, R, sv, hB, hV⟩ := h.ex
  have hD : ∀ {v : Value} {l : List Int}, DatG (fun x => x ∈ F) [g] W v l → DatG (fun x => x ∈ F) [g] W' v l := fun h => ⟨⟨seesL_keep h.1.1 h.2 hs hF, h.1.2⟩, h.2⟩
  exact ⟨⟨V, D, R, sv, (hF g hg).trans hB, ⟨seesT_keep hV.t hV.tn hs hF, hV.tf, hV.tn, hD hV.d, fun i hi => hD (hV.s i hi), seesR_keep hV.r hV.rn hs hF, hV.rf, hV.rn⟩⟩, h.tyo, h.cko, h.soo, h.al8, h.n16, h.r16⟩
theorem NAt.keep (h : NAt F W g m) (hs : W.heap.size ≤ W'.heap.size) (hF : ∀ f, f ∈ F → W'.heap[f]? = W.heap[f]?) : NAt F W' g m := by
  obtain ⟨b, ha, hi⟩ := h.a
  exact ⟨⟨b, ha.keepL h.g hs hF, hi⟩, h.g, fun f hf => Nat.lt_of_lt_of_le (h.lt f hf) hs⟩
/-- Behind a call. -/
theorem NAt.close {b : Bool} {m' : NM} (h : NAt F W g m) (ha : NA b (fun x => x ∈ F ∨ W.heap.size ≤ x) W' g m') (hi : NI b m') (o : Only g W W') : ∃ F', NAt F' W' g m' ∧ Eff F F' W W' := by
  obtain ⟨F', h1, h2, h3⟩ := ha.list (.inl h.g)
  exact ⟨F', ⟨⟨b, h1, hi⟩, h3, fun f hf => (h2 f hf).2⟩, o.kq h.g, fun f hf => (h2 f hf).1⟩
theorem NAt.open_ (h : NAt F W g m) : ∃ b, NA b (fun x => x ∈ F ∨ W.heap.size ≤ x) W g m ∧ NI b m := by
  obtain ⟨b, ha, hi⟩ := h.a
  exact ⟨b, ha.mono fun _ hx => .inl hx, hi⟩
end
theorem new0_ni {t : Tb.T} {i dr : Int} {l : List R4} (h : NM.may t i dr l) : NI false (NM.new t i.toNat dr l) := by
  obtain ⟨h1, h2, h3, -⟩ := h
  have hm := Tb.T.may h1
  have hn := hm.n4
  have hd := hm.dr
  refine ⟨⟨h1, by show i.toNat < t.ns.length; omega, Nat.zero_le _, ⟨Int.le_refl _, by show (0 : Int) ≤ 65535; decide⟩, by show 0 < t.ns.length; omega, ⟨Nat.zero_le _, fun x hx => by simp [NM.new] at hx⟩, ?_, small_nil, by show -1000 ≤ dr ∧ dr ≤ 1000; omega⟩, (fun h => by cases h), .inl rfl⟩
  exact me_li (m := NM.new t i.toNat dr l) h1 (by show i.toNat < t.ns.length; omega)
theorem nodeApi : NodeApi NAt where
  keep h hs hF := h.keep hs hF
  lt h := h.lt
  new_ok t v u i dr l w hv hu hm := by
    refine (newN_ok t v u i dr l w hv hu ⟨hm.2.2.2.1, hm.2.2.2.2⟩ hm.1 hm.2.1.1 hm.2.1.2 hm.2.2.1.1 hm.2.2.1.2).mono ?_
    rintro _ w' ⟨g, rfl, hg, ha, b⟩
    obtain ⟨F', h1, h2, h3⟩ := ha.list hg
    exact ⟨g, F', rfl, ⟨⟨false, h1, new0_ni hm⟩, h3, fun f hf => (h2 f hf).2⟩, fun f hf => (h2 f hf).1, b⟩
  new_no t v u i dr l w hv hu hm := new_nd_no t v u i dr l w hv hu hm
  on {F w g s} a h := by
    obtain ⟨b, ha, hi⟩ := h.open_
    refine (on_nd b _ g s a w ha hi.j.st).mono ?_
    rintro _ w' ⟨rfl, h', o⟩
    obtain ⟨F', h1, h2⟩ := h.close h' (hi.on a) o
    exact ⟨F', rfl, h1, h2⟩
  send {F w g s} h := by
    obtain ⟨b, ha, hi⟩ := h.open_
    refine (send_nd b _ g s w ha hi).mono ?_
    rintro _ w' ⟨v, b', rfl, hv, h', hi', o⟩
    obtain ⟨F', h1, h2⟩ := h.close h' hi' o
    exact ⟨v, F', rfl, hv.sees, h1, h2⟩
  take {F w g s vx vy} hd h hx bx hy by_ ha hf ht ho := by
    obtain ⟨b, hna, hi⟩ := h.open_
    refine (take_nd b _ g s hd vx vy w hna hi (fun x hx => .inr hx) ⟨hx, bx, hy, by_, ho⟩ ha hf ht).mono ?_
    rintro _ w' ⟨b', rfl, h', hi', o⟩
    obtain ⟨F', h1, h2⟩ := h.close h' hi' o
    exact ⟨F', rfl, h1, h2⟩
  state {F w g s} h := by
    obtain ⟨b, ha, hi⟩ := h.a
    refine (state_nd b _ g s w ha).mono ?_
    rintro _ w' ⟨rfl, rfl⟩
    exact ⟨rfl, Below.refl _ _⟩
  view {F w g s} h := by
    obtain ⟨b, ha, hi⟩ := h.a
    exact view_nd b _ g s w ha
  clock {F w g s} h := by
    obtain ⟨b, ha, hi⟩ := h.a
    refine (clock_nd b _ g s w ha).mono ?_
    rintro _ w' ⟨rfl, rfl⟩
    exact ⟨rfl, Below.refl _ _⟩
/-- What is sent is new memory. -/
theorem sendOwn {F : List Nat} {w : World} {g : Nat} {s : NM} (h : NAt F w g s) : Calls Tryz.prog 33 #[.pointer (some ⟨g, 0, none⟩)] w fun e w' => ∃ v F', e = .returned v ∧ OwnsL w' w.heap.size v s.sent ∧ NAt F' w' g s.sendS ∧ Eff F F' w w' := by
  obtain ⟨b, ha, hi⟩ := h.open_
  refine (send_nd b _ g s w ha hi).mono ?_
  rintro _ w' ⟨v, b', rfl, hv, h', hi', o⟩
  obtain ⟨F', h1, h2⟩ := h.close h' hi' o
  exact ⟨v, F', rfl, hv, h1, h2⟩
theorem nodeMore : NodeMore NAt where
  off {F w g s} h := by
    obtain ⟨b, ha, hi⟩ := h.open_
    refine (off_nd b _ g s w ha).mono ?_
    rintro _ w' ⟨rfl, h', o⟩
    obtain ⟨F', h1, h2⟩ := h.close h' hi.off o
    exact ⟨F', rfl, h1, h2⟩
  write {F w g s v l} h hv hl := by
    obtain ⟨b, ha, hi⟩ := h.open_
    refine (write_nd b _ g s v l w.heap.size w ha (fun x hx => .inr hx) hv hi.j.meB.2.2).mono ?_
    rintro _ w' ⟨rfl, h', o⟩
    obtain ⟨F', h1, h2⟩ := h.close h' (hi.write l hl) o
    exact ⟨F', rfl, h1, h2⟩
  read {F w g s} n h := by
    obtain ⟨b, ha, hi⟩ := h.a
    exact read_nd b _ g s n w ha
  rings {F w g s} n h := by
    obtain ⟨b, ha, hi⟩ := h.a
    refine (rings_nd b _ g s n w ha).mono ?_
    rintro _ w' ⟨rfl, rfl⟩
    exact ⟨rfl, Below.refl _ _⟩
  ack {F w g s} n h := by
    obtain ⟨b, ha, hi⟩ := h.open_
    refine (ack_nd b _ g s n w ha).mono ?_
    rintro _ w' ⟨rfl, h', o⟩
    obtain ⟨F', h1, h2⟩ := h.close h' ⟨⟨hi.j.is, hi.j.i, hi.j.st, hi.j.rd, hi.j.sl, hi.j.da, hi.j.wt, hi.j.ck, hi.j.dr⟩, hi.b1, hi.b2⟩ o
    exact ⟨F', rfl, h1, h2⟩
end Go.Proofs.YtpdenmcacaajkaaGreat

/-! ### NdF -/
namespace Go.Proofs.YtpdenmcacaajkaaGreat
open Go.RowKit
open Tb (D T)

def smnD (i : Nat) : D := ⟨decide ((i : Int) < 4) || ((i : Int) % 2 == 0), ((i : Int) % 3 == 0), 20 + 3 * ((i : Int) * 5 % 8), 4⟩
def smnL (n : Nat) : List D := (List.range n).map smnD
def smnT (n : Nat) (dr : Int) : T := ⟨smnL n, dr, 4 * dr + 6, 4 * dr + 9⟩
theorem smnL_length (n : Nat) : (smnL n).length = n := by simp [smnL]
theorem smnL_succ (n : Nat) : smnL (n + 1) = smnL n ++ [smnD n] := by simp [smnL, List.range_succ]
theorem smnL_get (n k : Nat) (hk : k < n) : (smnL n).getD k default = smnD k := by simp [smnL, List.getD_eq_getElem?_getD, hk]
theorem smn_is (n : Nat) (dr : Int) (h4 : 4 ≤ n) (h8 : n ≤ 8) (hd : 0 ≤ dr ∧ dr ≤ 200) : (smnT n dr).is = true := by
  have ha : Tb.are (smnL n) = true := by
    rcases (by omega : n = 4 ∨ n = 5 ∨ n = 6 ∨ n = 7 ∨ n = 8) with rfl | rfl | rfl | rfl | rfl <;> decide +kernel
  simp only [T.is, Tb.rest, smnT, ha, Bool.true_and, Bool.and_eq_true, Tb.wi_iff]
  omega
theorem smn_few (n : Nat) (dr : Int) (h4 : n < 4) : (smnT n dr).is = false := by
  have ha : Tb.are (smnL n) = false := by
    rcases (by omega : n = 0 ∨ n = 1 ∨ n = 2 ∨ n = 3) with rfl | rfl | rfl | rfl <;> decide +kernel
  simp only [T.is, smnT, ha, Bool.false_and]
set_option maxRecDepth 100000 in
set_option maxHeartbeats 4000000 in
theorem some_nd (n : Nat) (dr : Int) (hn : n ≤ 8) (hd : 0 ≤ dr ∧ dr ≤ 1000) (w : World) :
    Calls Tryz.prog 6 #[.int .i64 (n : Nat), .int .i64 dr] w fun e w' => ∃ v, e = .returned (tabV (smnT n dr) v) ∧ OwnsD w' w.heap.size v (smnL n) ∧ Below w.heap.size w w' := by
  have hsu := Lib.hid smnL_succ
  have hsl := Lib.hid smnL_length
  have z1 : IntKind.i64.wrap (4 * dr) = 4 * dr := IntWalk.i64_in _ (by omega)
  have z2 : IntKind.i64.wrap (4 * dr + 6) = 4 * dr + 6 := IntWalk.i64_in _ (by omega)
  have z3 : IntKind.i64.wrap (4 * dr + 9) = 4 * dr + 9 := IntWalk.i64_in _ (by omega)
  unfold smnT tabV
  simp only
  go_enter Tryz.func6, Tryz.ntmps6
  have hb0 := ((Below.refl w.heap.size w).alloc (Nat.le_refl _) (.cells #[.slice none 0 0, .int .i64 0, .int .i64 0, .int .i64 0] 29)).alloc (by simp) (.cells #[.slice none 0 0, .int .i64 dr, .int .i64 (4 * dr + 6), .int .i64 (4 * dr + 9)] 29)
  have hR := (Blk.new w _ rfl #[.slice none 0 0, .int .i64 0, .int .i64 0, .int .i64 0] 29).alloc (.cells #[.slice none 0 0, .int .i64 dr, .int .i64 (4 * dr + 6), .int .i64 (4 * dr + 9)] 29)
  have hT := Blk.new (w.alloc (.cells #[.slice none 0 0, .int .i64 0, .int .i64 0, .int .i64 0] 29)) (w.heap.size + 1) (by simp) #[.slice none 0 0, .int .i64 dr, .int .i64 (4 * dr + 6), .int .i64 (4 * dr + 9)] 29
  go_wp2
  generalize (w.alloc (.cells #[.slice none 0 0, .int .i64 0, .int .i64 0, .int .i64 0] 29)).alloc (.cells #[.slice none 0 0, .int .i64 dr, .int .i64 (4 * dr + 6), .int .i64 (4 * dr + 9)] 29) = w0 at *
  have hz0 : w.heap.size + 1 < w0.heap.size := hT.lt
  go_loopw [6] (fun i wr => ∃ k : Nat, ∃ v : Value, k ≤ n ∧ i = .int .i64 k ∧ OwnsD wr w0.heap.size v (smnL k) ∧ Blk wr (w.heap.size + 1) #[v, .int .i64 dr, .int .i64 (4 * dr + 6), .int .i64 (4 * dr + 9)] 29 ∧ w0.heap.size ≤ wr.heap.size ∧ Below (w.heap.size + 1) w0 wr) (fun i _ => n - (intOf i).toNat)
  case atStart => exact ⟨0, _, by omega, rfl, OwnsD.nil, hT, Nat.le_refl _, Below.refl _ _⟩
  case round =>
    obtain ⟨k, v, hk, rfl, hown, hblk, hz, hb⟩ := hrel
    by_cases hlt : k < n
    · have q1 : decide ((k : Int) < (n : Nat)) = true := by simp; omega
      have q2 : decide ((k : Int) < 8) = true := by simp; omega
      have t0 := hblk.cell 0 rfl
      have tf := hblk.frozen 0
      have hlk : (smnL k).length ≤ 100000 := by rw [smnL_length]; omega
      have hgv : v.ownBlock ≠ some (w.heap.size + 1) := fun e => by have := (hown.lt _ e).1; omega
      have key : ∀ b : Bool, smnD k = ⟨b, ((k : Int) % 3 == 0), 20 + 3 * ((k : Int) * 5 % 8), 4⟩ → ∀ (v2 : Value) (w2 : World), w2.ownsRow w0.heap.size 60 4 v2 ((smnL k).length + 1) ((smnL k).flatMap dc ++ dc ⟨b, ((k : Int) % 3 == 0), 20 + 3 * ((k : Int) * 5 % 8), 4⟩) →
          Ext (wr.alloc (.cells #[.bool b, .bool ((k : Int) % 3 == 0), .int .i64 (20 + 3 * ((k : Int) * 5 % 8)), .int .i64 4] 60)) w2 v v2 → ∃ g2 c2, v2 = .slice (some ⟨g2, 0, none⟩) (k + 1) c2 ∧ Blk w2 (w.heap.size + 1) #[v, .int .i64 dr, .int .i64 (4 * dr + 6), .int .i64 (4 * dr + 9)] 29 ∧
          OwnsD (w2.setCell ⟨w.heap.size + 1, 0, none⟩ (.slice (some ⟨g2, 0, none⟩) (k + 1) c2)) w0.heap.size v2 (smnL (k + 1)) ∧ Blk (w2.setCell ⟨w.heap.size + 1, 0, none⟩ (.slice (some ⟨g2, 0, none⟩) (k + 1) c2)) (w.heap.size + 1) #[.slice (some ⟨g2, 0, none⟩) (k + 1) c2, .int .i64 dr, .int .i64 (4 * dr + 6), .int .i64 (4 * dr + 9)] 29 ∧
          w0.heap.size ≤ (w2.setCell ⟨w.heap.size + 1, 0, none⟩ (.slice (some ⟨g2, 0, none⟩) (k + 1) c2)).heap.size ∧ Below (w.heap.size + 1) w0 (w2.setCell ⟨w.heap.size + 1, 0, none⟩ (.slice (some ⟨g2, 0, none⟩) (k + 1) c2)) := fun b hsd v2 w2 ho2 hx2 => by
        rw [← hsd] at ho2
        have ho3 : OwnsD w2 w0.heap.size v2 (smnL (k + 1)) := by
          rw [hsu.out]
          exact OwnsD.snoc ho2
        have hxx := ((Ext.refl wr v).alloc (.cells #[.bool b, .bool ((k : Int) % 3 == 0), .int .i64 (20 + 3 * ((k : Int) * 5 % 8)), .int .i64 4] 60)).trans hx2
        have hb2 := hb.trans (hxx.toBelow (B := w.heap.size + 1) (by omega) (fun j hj => by have := (hown.lt j hj).1; omega))
        have hblk5 := hblk.ext hxx hgv
        have hl1 := hsl.out (k + 1)
        obtain ⟨g2, c2, rfl, hg2⟩ : ∃ g2 c2, v2 = .slice (some ⟨g2, 0, none⟩) (k + 1) c2 ∧ w0.heap.size ≤ g2 := by
          rcases ho3.form with ⟨-, h0⟩ | ⟨g2, c2, h, h1, -⟩
          · omega
          · exact ⟨g2, c2, by rw [h, hl1], h1⟩
        refine ⟨g2, c2, rfl, hblk5, ho3.setOther ⟨w.heap.size + 1, 0, none⟩ _ (by simp [Value.ownBlock]; omega), by simpa using hblk5.set 0 (.slice (some ⟨g2, 0, none⟩) (k + 1) c2), by have := hxx.size; simp only [World.setCell, Array.size_modify]; omega, Below.setCell (p := ⟨w.heap.size + 1, 0, none⟩) hb2 (Nat.le_refl _) _⟩
      have key := fun b h => Lib.hid (key b h)
      have hSD : Hid (∀ b, ((b = true ∧ (k : Int) < 4) ∨ (b = ((k : Int) % 2 == 0) ∧ ¬ (k : Int) < 4)) → smnD k = ⟨b, ((k : Int) % 3 == 0), 20 + 3 * ((k : Int) * 5 % 8), 4⟩) := Lib.hid fun b hb => by
        unfold smnD
        rcases hb with ⟨rfl, h⟩ | ⟨rfl, h⟩ <;> simp [h]
      by_cases q4 : (k : Int) < 4
      · have K := key true (hSD.out true (.inl ⟨rfl, q4⟩))
        have hAt := atD_new wr ⟨true, ((k : Int) % 3 == 0), 20 + 3 * ((k : Int) * 5 % 8), 4⟩ 60 wr.heap.size rfl
        go_wp2_with (at_builtin; go_loud (refine wpList_pushC _ rfl (.tmp 25) (.tmp 42) 27 rfl w0.heap.size 60 _ 4 24 info_def rfl (by omega) Tryz.underlying27 v (smnL k).length _ (hown.alloc _) rfl _ 1 _ rfl (src_def _ ⟨true, ((k : Int) % 3 == 0), 20 + 3 * ((k : Int) * 5 % 8), 4⟩ _ _ _ rfl hAt) (by simp; omega) (defs_room hlk).1 (defs_room hlk).2 ?_))
        intro v2 w2 ho2 hx2
        obtain ⟨g2, c2, rfl, B1, O1, B2, Z1, W1⟩ := K.out v2 w2 ho2 hx2
        have u0 := B1.cell 0 rfl
        have uf := B1.frozen 0
        clear t0 tf ho2 hx2 hAt B1 K key
        go_wp2
        go_roundw
        case rel => exact ⟨k + 1, _, by omega, by go_num, O1, B2, Z1, W1⟩
        case measure => simp [intOf]; omega
      · have K := key _ (hSD.out _ (.inr ⟨rfl, q4⟩))
        have hAt := atD_new wr ⟨((k : Int) % 2 == 0), ((k : Int) % 3 == 0), 20 + 3 * ((k : Int) * 5 % 8), 4⟩ 60 wr.heap.size rfl
        go_wp2_with (at_builtin; go_loud (refine wpList_pushC _ rfl (.tmp 25) (.tmp 42) 27 rfl w0.heap.size 60 _ 4 24 info_def rfl (by omega) Tryz.underlying27 v (smnL k).length _ (hown.alloc _) rfl _ 1 _ rfl (src_def _ ⟨((k : Int) % 2 == 0), ((k : Int) % 3 == 0), 20 + 3 * ((k : Int) * 5 % 8), 4⟩ _ _ _ rfl hAt) (by simp; omega) (defs_room hlk).1 (defs_room hlk).2 ?_))
        intro v2 w2 ho2 hx2
        obtain ⟨g2, c2, rfl, B1, O1, B2, Z1, W1⟩ := K.out v2 w2 ho2 hx2
        have u0 := B1.cell 0 rfl
        have uf := B1.frozen 0
        clear t0 tf ho2 hx2 hAt B1 K key
        go_wp2
        go_roundw
        case rel => exact ⟨k + 1, _, by omega, by go_num, O1, B2, Z1, W1⟩
        case measure => simp [intOf]; omega
    · obtain rfl : k = n := by omega
      have q1 : decide ((k : Int) < (k : Nat)) = false := by simp
      obtain ⟨A', c2, rfl, -⟩ := hown.sees.at_
      have hR2 := hR.below hb (by omega)
      have t0 := hblk.cell 0 rfl
      have t1 := hblk.cell 1 rfl
      have t2 := hblk.cell 2 rfl
      have t3 := hblk.cell 3 rfl
      have r0 := hR2.cell 0 rfl
      have r1 := hR2.cell 1 rfl
      have r2 := hR2.cell 2 rfl
      have r3 := hR2.cell 3 rfl
      have f0 := hR2.frozen 0
      have f1 := hR2.frozen 1
      have f2 := hR2.frozen 2
      have f3 := hR2.frozen 3
      have hvR : (Value.slice A' (smnL k).length c2).ownBlock ≠ some w.heap.size := fun e => by have := (hown.lt _ e).1; omega
      have hbr := hb0.trans (hb.mono (by omega))
      clear hR hT
      go_wp2_with fail
      refine bodyPost_ret (v := .agg #[.slice A' (smnL k).length c2, .int .i64 dr, .int .i64 (4 * dr + 6), .int .i64 (4 * dr + 9)]) ?_ rfl ⟨_, rfl, ?_, ?_⟩
      · rw [results_cell rfl]
        go_simp
      · refine OwnsD.base (Bs := w0.heap.size) ?_ (by omega)
        (repeat' (first | exact hown | exact hvR | (with_reducible refine OwnsD.setOther ?_ _ _ ?_)))
      · (repeat' (first | exact hbr | (with_reducible refine Below.setCell ?_ ?_ _) | exact Nat.le_refl _))
end Go.Proofs.YtpdenmcacaajkaaGreat
