/- Texts NdY, NdN in one. For what each says in front of its theorems. -/
import Derived.Deep.RegionHeld3
import Derived.Test.YtpdenmcacaajkaaGreatPB6
import Derived.Test.YtpdenmcacaajkaaGreatPB7
import Derived.Test.YtpdenmcacaajkaaGreatPB19
import Derived.Test.YtpdenmcacaajkaaGreatPB22
import Derived.Test.YtpdenmcacaajkaaGreatPB24
import Derived.Test.YtpdenmcacaajkaaGreatPB29
/-! ### NdY -/
namespace Go.Proofs.YtpdenmcacaajkaaGreat
open Go.RowKit
open Fr (St F)

/-- What is so of every node, its frame's cell apart. -/
structure NJ (m : NM) : Prop where
  is : m.t.is = true
  i : m.i < m.t.ns.length
  st : m.st ≤ 5
  rd : 0 ≤ m.rd ∧ m.rd ≤ 65535
  sl : m.sl < m.t.ns.length
  da : m.da.length ≤ 8 ∧ bytesL m.da
  wt : (m.wt : Int) < m.me.li
  ck : small m.ck
  dr : -1000 ≤ m.dr ∧ m.dr ≤ 1000
structure NI (b : Bool) (m : NM) : Prop where
  j : NJ m
  b1 : b = true → m.sl = m.i ∧ (m.st = 2 ∨ m.st = 4 ∨ m.st = 5)
  b2 : b = m.se ∨ m.st = 5
theorem small.keep4_ {l : List Int} (h : small l) {n : Int} (hn : -1099511627776 ≤ n ∧ n ≤ 1099511627776) : small (keep4 l n) := by
  unfold keep4
  split
  · intro x hx
    rcases List.mem_append.1 hx with hx | hx
    · exact h x (List.mem_of_mem_drop hx)
    · rw [List.mem_singleton] at hx; rw [hx]; exact hn
  · intro x hx
    rcases List.mem_append.1 hx with hx | hx
    · exact h x hx
    · rw [List.mem_singleton] at hx; rw [hx]; exact hn
theorem small_nil : small [] := fun x hx => by simp at hx
theorem me_mem {m : NM} (h : m.i < m.t.ns.length) : m.me ∈ m.t.ns := by
  unfold NM.me
  rw [List.getD_eq_getElem?_getD, List.getElem?_eq_getElem h, Option.getD_some]
  exact List.getElem_mem h
theorem me_li {m : NM} (hs : m.t.is = true) (h : m.i < m.t.ns.length) : 0 < m.me.li := by
  have hn := (Tb.T.may hs).n4
  simp only [Tb.T.is, Tb.are, Bool.and_eq_true, Tb.wi_iff] at hs
  obtain ⟨⟨-, h3, -⟩, -⟩ := hs
  rw [Tb.oks_iff] at h3
  have := h3 _ h
  simp only [Tb.ok, Bool.and_eq_true, Tb.wi_iff] at this
  unfold NM.me
  omega
section
variable {m : NM} {b : Bool}
theorem NJ.may (h : NJ m) : Tb.May m.t := Tb.T.may h.is
theorem NJ.meB (h : NJ m) : (0 ≤ m.me.li ∧ m.me.li ≤ 200) ∧ 1 ≤ m.me.sz ∧ m.me.sz ≤ 8 := h.may.nodes _ (me_mem h.i)
theorem NJ.anew (h : NJ m) (k : Nat) (hk : k ≤ 5) : NJ (m.anew k) :=
  ⟨h.is, h.i, hk, ⟨Int.le_refl _, by show (0 : Int) ≤ 65535; decide⟩, Nat.lt_of_le_of_lt (Nat.zero_le _) h.sl, h.da, me_li (m := m) h.is h.i, small_nil, h.dr⟩
theorem NI.anew (h : NJ m) (k : Nat) (hk : k ≤ 5) : NI false (m.anew k) := ⟨h.anew k hk, (fun h => by cases h), .inl rfl⟩
theorem NJ.ne (h : NJ m) (ht : -4611687117939015680 ≤ m.tm ∧ m.tm ≤ 4611687117939015680) : NE m := ⟨h.ck, h.may.lm, ht, h.dr⟩
theorem NJ.ng (h : NJ m) (ht : -4611687117939015680 ≤ m.tm ∧ m.tm ≤ 4611687117939015680) : NG m := ⟨h.ne ht, ⟨h.may.n4, h.may.n8⟩, h.sl, h.rd⟩
theorem NJ.nxt (h : NJ m) : NJ m.nxt := by
  have := h.may.n4
  have := h.rd
  have := h.sl
  refine ⟨h.is, h.i, h.st, ?_, ?_, h.da, h.wt, h.ck, h.dr⟩
  · show 0 ≤ nxR m.t.ns.length m.rd m.sl ∧ nxR m.t.ns.length m.rd m.sl ≤ 65535
    unfold nxR
    split <;> (try split) <;> omega
  · show (nxS m.t.ns.length m.sl).toNat < m.t.ns.length
    unfold nxS
    split <;> omega
theorem NJ.endR (h : NJ m) : NJ m.endR := by
  unfold NM.endR
  split
  · exact ⟨h.is, h.i, h.st, h.rd, h.sl, h.da, h.wt, small_nil, h.dr⟩
  · exact ⟨h.is, h.i, Nat.le_refl _, h.rd, h.sl, h.da, h.wt, small_nil, h.dr⟩
theorem endR_se (m : NM) : m.endR.se = m.se := by
  unfold NM.endR
  split <;> rfl
theorem NI.goOn (h : NJ m) : NI false m.goOn := by
  rw [NM.goOn_eq]
  split
  · exact ⟨h.nxt, (fun h => by cases h), .inl rfl⟩
  · exact ⟨h.nxt.endR, (fun h => by cases h), .inl (by rw [endR_se]; rfl)⟩
theorem NI.on (h : NI b m) (a : Int) : NI (if m.onE a = 0 then false else b) (m.on a) := by
  unfold NM.on
  split
  · have := NI.anew h.j 1 (by omega)
    exact ⟨⟨this.j.is, this.j.i, this.j.st, this.j.rd, this.j.sl, this.j.da, this.j.wt, this.j.ck, this.j.dr⟩, (fun h => by cases h), .inl rfl⟩
  · exact h
theorem NI.off (h : NI b m) : NI false m.off := NI.anew h.j 0 (by omega)
theorem NI.write (h : NI b m) (l : List Int) (hl : bytesL l) : NI b (m.write l) := by
  have hz := h.j.meB
  unfold NM.write
  split
  · exact h
  · exact ⟨⟨h.j.is, h.j.i, h.j.st, h.j.rd, h.j.sl, ⟨by show l.length ≤ 8; omega, hl⟩, h.j.wt, h.j.ck, h.j.dr⟩, h.b1, h.b2⟩
theorem NJ.took (h : NJ m) (ty : TS) (so : MS) (ck : List Int) (hc : small ck) : NJ (m.took ty so ck) := ⟨h.is, h.i, h.st, h.rd, h.sl, h.da, h.wt, hc, h.dr⟩
theorem NJ.ck_ (h : NJ m) (ck : List Int) (hc : small ck) : NJ { m with ck := ck } := ⟨h.is, h.i, h.st, h.rd, h.sl, h.da, h.wt, hc, h.dr⟩
theorem NJ.knows (h : NJ m) (f : F) (o : Int) (hr : 0 ≤ f.st.r ∧ f.st.r ≤ 65535) (hs : 0 ≤ f.st.s ∧ f.st.s < m.t.ns.length) : NJ (m.knows f o) := by
  have a := h.anew 3 (by omega)
  exact ⟨h.is, h.i, a.st, hr, by show f.st.s.toNat < m.t.ns.length; omega, h.da, a.wt, a.ck, h.dr⟩
end
/-- What is read without an error tells a state that may be. -/
theorem res_may {l : List Int} {own : St} (h : Fr.err l own = 0) : (Fr.res l own).st.may = true := by
  unfold Fr.err at h
  by_cases h1 : Fr.formB l own = true
  · rw [if_pos h1] at h
    by_cases h2 : Fr.sumB l own = true
    · have e : Fr.res l own = Fr.rd l own := by simp [Fr.res, h1, h2]
      rw [e]
      show (Fr.stOf l own).may = true
      simp only [Fr.formB, Bool.and_eq_true] at h1
      exact h1.1.1.2
    · rw [if_neg h2] at h; cases h
  · rw [if_neg h1] at h; cases h
/-! ### Send. -/
theorem nil_sees (w : World) : SeesL w w.heap.size (.slice none 0 0) [] := SeesL.nil
theorem sent_0 {m : NM} (h : m.sendK = 0) : m.sent = [] := by
  unfold NM.sent
  rw [if_pos h]
theorem join_clear (n : Int) : ((⟨0, 0, 0⟩ : TS).join n).clear = (⟨0, 0, 0⟩ : TS).join n := by
  unfold TS.join TS.clear
  split <;> rfl
theorem enc_is {k : Int} {st : St} {d : List Int} (hk : 1 ≤ k ∧ k ≤ 3) (hs : st.may = true) (hd : d.length ≤ 8) : encR ⟨k, st, d⟩ = (⟨k, st, d⟩ : F).bytes := by
  unfold encR
  rw [if_pos ((Fr.F.is_iff _).2 ⟨hk, hs, hd⟩)]
theorem view_may {m : NM} (hr : 0 ≤ m.rd ∧ m.rd ≤ 65535) (hs : m.sl < 8) (ht : m.ty.m < 256) : m.view.may = true := by
  refine (St.may_iff _).2 ⟨hr, ?_, ?_⟩
  · show (0 : Int) ≤ (m.sl : Nat) ∧ ((m.sl : Nat) : Int) < 8; omega
  · show (0 : Int) ≤ (m.ty.m : Nat) ∧ ((m.ty.m : Nat) : Int) ≤ 255; omega
theorem send_nd (b : Bool) (G : Nat → Prop) (g : Nat) (m : NM) (w : World) (h : NA b G w g m) (hi : NI b m) :
    Calls Tryz.prog 33 #[.pointer (some ⟨g, 0, none⟩)] w fun e w' => ∃ v b', e = .returned v ∧ OwnsL w' w.heap.size v m.sent ∧ NA b' G w' g m.sendS ∧ NI b' m.sendS ∧ Only g w w' := by
  have hj := hi.j
  have h5 := hj.st
  have hme := hj.meB
  by_cases h1 : m.st = 1
  · have hb : b = false := by
      cases b
      · rfl
      · have := (hi.b1 rfl).2; omega
    subst hb
    by_cases hlt : (m.wt : Int) + 1 < m.me.li
    · have eS : m.sendS = { m with wt := m.wt + 1, se := false } := by unfold NM.sendS; rw [if_pos h1, if_pos hlt]
      have eK : m.sendK = 0 := by unfold NM.sendK; rw [if_pos h1, if_pos hlt]
      refine (send_a false G g m w h h5 hj.rd h1 hlt (by omega)).mono ?_
      rintro _ w' ⟨rfl, h', o⟩
      rw [sent_0 eK, eS]
      exact ⟨_, false, rfl, OwnsL.nil, h'.se_ false, ⟨⟨hj.is, hj.i, hj.st, hj.rd, hj.sl, hj.da, by show ((m.wt + 1 : Nat) : Int) < m.me.li; omega, hj.ck, hj.dr⟩, (fun h => by cases h), .inl rfl⟩, o⟩
    · have hli : m.me.li = (m.wt : Int) + 1 := by have := hj.wt; omega
      have eS : m.sendS = { m.begun with se := true } := by unfold NM.sendS; rw [if_pos h1, if_neg hlt]
      have eK : m.sendK = 3 := by unfold NM.sendK; rw [if_pos h1, if_neg hlt]
      have eV : m.kindV = 3 := by unfold NM.kindV; rw [if_pos h1]
      have hja := hj.anew 2 (by omega)
      have eO : (({ m.anew 2 with sl := m.i } : NM).out) = { ({ m.begun with se := true } : NM) with se := false } := by
        unfold NM.out NM.begun
        simp only [NM.anew]
        rw [join_clear]
      refine (send_b false G g m w h h5 hj.rd h1 hli (by omega) hj.da.2).mono ?_
      rintro _ w' ⟨v, rfl, hv, h', o⟩
      have h'' : NA true G w' g ({ m.begun with se := true } : NM) := by
        have := h'.se_ true
        rw [eO] at this
        exact this
      rw [eS]
      have hjb : NJ ({ m.begun with se := true } : NM) := ⟨hja.is, hja.i, by show (2 : Nat) ≤ 5; omega, hja.rd, hj.i, hja.da, hja.wt, hja.ck, hja.dr⟩
      refine ⟨v, true, rfl, ?_, h'', ⟨hjb, fun _ => ⟨rfl, .inl rfl⟩, .inl rfl⟩, o⟩
      have e1 : m.sent = encR ⟨m.kindV, ({ m.anew 2 with sl := m.i } : NM).out.view, ({ m.anew 2 with sl := m.i } : NM).out.da⟩ := by
        unfold NM.sent
        rw [eK, if_neg (by decide), eS, eV, eO]
        refine (enc_is ⟨by decide, by decide⟩ ?_ hj.da.1).symm
        exact view_may hjb.rd (by show m.i < 8; have := hj.i; have := hj.may.n8; omega) h''.tyo
      rw [e1]
      exact hv
  · by_cases hs : m.sl = m.i
    · by_cases hoff : m.st = 0 ∨ m.st = 5
      · have eS : m.sendS = { m with se := false } := by unfold NM.sendS; rw [if_neg h1, if_pos (by omega)]
        have eK : m.sendK = 0 := by unfold NM.sendK; rw [if_neg h1, if_pos (by omega)]
        have eU : m.up = m := by unfold NM.up; rw [if_pos hoff]
        have eB : m.upB b = b := by unfold NM.upB; rw [if_neg (by omega)]
        have hfin : ∀ (e : Ending) (w' : World), (e = .returned (.slice none 0 0) ∧ NA (m.upB b) G w' g m.up ∧ Only g w w') → ∃ v b', e = .returned v ∧ OwnsL w' w.heap.size v m.sent ∧ NA b' G w' g m.sendS ∧ NI b' m.sendS ∧ Only g w w' := by
          rintro _ w' ⟨rfl, h', o⟩
          rw [eU, eB] at h'
          rw [sent_0 eK, eS]
          refine ⟨_, b, rfl, OwnsL.nil, h'.se_ false, ⟨⟨hj.is, hj.i, hj.st, hj.rd, hj.sl, hj.da, hj.wt, hj.ck, hj.dr⟩, hi.b1, ?_⟩, o⟩
          rcases hoff with e | e
          · left
            show b = false
            cases b
            · rfl
            · have := (hi.b1 rfl).2; omega
          · exact .inr e
        rcases hoff with e | e
        · exact (send_d0 b G g m w h h5 hj.rd e hs (by rw [eU]; omega)).mono hfin
        · exact (send_d5 b G g m w h h5 hj.rd e hs (by rw [eU]; omega)).mono hfin
      · have eU : m.up = m.enter := by unfold NM.up; rw [if_neg hoff]
        have hst : m.st = 2 ∨ m.st = 3 ∨ m.st = 4 := by omega
        by_cases hu : m.enter.st = 4
        · have eS : m.sendS = { m.enter.joined with se := true } := by unfold NM.sendS; rw [if_neg h1, if_neg (by omega), if_neg (by omega)]
          have eK : m.sendK = m.kindV := by unfold NM.sendK NM.kindV; rw [if_neg h1, if_neg (by omega), if_neg (by omega), if_neg h1]
          have eF : m.enter.i = m.i ∧ m.enter.sl = m.sl ∧ m.enter.rd = m.rd ∧ m.enter.t = m.t ∧ m.enter.da = m.da ∧ m.enter.wt = m.wt ∧ m.enter.ck = m.ck ∧ m.enter.dr = m.dr := by
            unfold NM.enter at hu ⊢
            repeat' split
            all_goals first
              | exact ⟨rfl, rfl, rfl, rfl, rfl, rfl, rfl, rfl⟩
              | (exfalso; simp_all [NM.anew])
          obtain ⟨f1, f2, f3, f4, f5, f6, f7, f8⟩ := eF
          have hje : NJ ({ m.enter.joined with se := true } : NM) := by
            refine ⟨?_, ?_, ?_, ?_, ?_, ?_, ?_, ?_, ?_⟩
            · show m.enter.t.is = true; rw [f4]; exact hj.is
            · show m.enter.i < m.enter.t.ns.length; rw [f1, f4]; exact hj.i
            · show m.enter.st ≤ 5; omega
            · show 0 ≤ m.enter.rd ∧ m.enter.rd ≤ 65535; rw [f3]; exact hj.rd
            · show m.enter.sl < m.enter.t.ns.length; rw [f2, f4]; exact hj.sl
            · show m.enter.da.length ≤ 8 ∧ bytesL m.enter.da; rw [f5]; exact hj.da
            · show (m.enter.wt : Int) < (m.enter.t.ns.getD m.enter.i default).li; rw [f6, f4, f1]; exact hj.wt
            · show small m.enter.ck; rw [f7]; exact hj.ck
            · show -1000 ≤ m.enter.dr ∧ m.enter.dr ≤ 1000; rw [f8]; exact hj.dr
          have hfin : ∀ (e : Ending) (w' : World), (∃ v, e = .returned v ∧ OwnsL w' w.heap.size v (encR ⟨m.kindV, m.up.out.view, m.up.out.da⟩) ∧ NA true G w' g m.up.out ∧ Only g w w') → ∃ v b', e = .returned v ∧ OwnsL w' w.heap.size v m.sent ∧ NA b' G w' g m.sendS ∧ NI b' m.sendS ∧ Only g w w' := by
            rintro _ w' ⟨v, rfl, hv, h', o⟩
            rw [eU] at hv h'
            rw [eS]
            have hk : 1 ≤ m.kindV ∧ m.kindV ≤ 3 := by unfold NM.kindV; repeat' split
                                                      all_goals omega
            refine ⟨v, true, rfl, ?_, h'.se_ true, ⟨hje, fun _ => ⟨?_, .inr (.inl hu)⟩, .inl rfl⟩, o⟩
            · have e1 : m.sent = encR ⟨m.kindV, m.enter.out.view, m.enter.out.da⟩ := by
                unfold NM.sent
                rw [eK, if_neg (by omega), eS]
                refine (enc_is hk ?_ ?_).symm
                · exact view_may hje.rd (by have := hje.sl; have := hje.may.n8; show m.enter.sl < 8; exact Nat.lt_of_lt_of_le hje.sl hje.may.n8) h'.tyo
                · exact hje.da.1
              rw [e1]
              exact hv
            · show m.enter.sl = m.enter.i; rw [f2, f1]; exact hs
          rcases hst with e | e | e
          · exact (send_e2 b G g m w h h5 hj.rd e hs (by rw [eU]; exact hu) hj.da.2).mono hfin
          · exact (send_e3 b G g m w h h5 hj.rd e hs (by rw [eU]; exact hu) hj.da.2).mono hfin
          · exact (send_e4 b G g m w h h5 hj.rd e hs (by rw [eU]; exact hu) hj.da.2).mono hfin
        · have eS : m.sendS = { m.enter with se := false } := by unfold NM.sendS; rw [if_neg h1, if_neg (by omega), if_pos hu]
          have eK : m.sendK = 0 := by unfold NM.sendK; rw [if_neg h1, if_neg (by omega), if_pos hu]
          have hNI : NI (m.upB b) ({ m.enter with se := false } : NM) := by
            by_cases hx : (m.st = 2 ∨ (m.st = 4 ∧ m.clique)) ∧ m.alone
            · have eB : m.upB b = false := by unfold NM.upB; rw [if_pos hx]
              have eE : m.enter = m.anew 1 := by
                unfold NM.enter
                rcases hx.1 with e | ⟨e, hc⟩
                · rw [if_pos e, if_pos hx.2]
                · rw [if_neg (by omega), if_neg (by omega), if_neg (fun h => h hc), if_pos hx.2]
              rw [eB, eE]
              have := NI.anew hj 1 (by omega)
              exact ⟨⟨this.j.is, this.j.i, this.j.st, this.j.rd, this.j.sl, this.j.da, this.j.wt, this.j.ck, this.j.dr⟩, (fun h => by cases h), .inl rfl⟩
            · have eB : m.upB b = b := by unfold NM.upB; rw [if_neg hx]
              rw [eB]
              by_cases h3 : m.st = 3
              · have hb : b = false := by
                  cases b
                  · rfl
                  · have := (hi.b1 rfl).2; omega
                have eE : m.enter = { m with ty := m.ty.clear } := by
                  unfold NM.enter at hu ⊢
                  rw [if_neg (by omega), if_pos h3] at hu ⊢
                  split at hu
                  · exact absurd rfl hu
                  · rename_i hc; rw [if_neg hc]
                rw [eE, hb]
                exact ⟨⟨hj.is, hj.i, hj.st, hj.rd, hj.sl, hj.da, hj.wt, hj.ck, hj.dr⟩, (fun h => by cases h), .inl rfl⟩
              · have h4 : m.st = 4 := by
                  rcases hst with e | e | e
                  · exfalso
                    apply hx
                    refine ⟨.inl e, ?_⟩
                    by_cases ha : m.alone
                    · exact ha
                    · exfalso; apply hu; unfold NM.enter; rw [if_pos e, if_neg ha]
                  · exact absurd e h3
                  · exact e
                have hc : ¬ m.clique := fun hc => hx ⟨.inr ⟨h4, hc⟩, by
                  by_cases ha : m.alone
                  · exact ha
                  · exfalso; apply hu; unfold NM.enter; rw [if_neg (by omega), if_neg h3, if_neg (fun h => h hc), if_neg ha]; exact h4⟩
                have eE : m.enter = { m with st := 5 } := by
                  unfold NM.enter
                  rw [if_neg (by omega), if_neg h3, if_pos hc]
                rw [eE]
                exact ⟨⟨hj.is, hj.i, Nat.le_refl _, hj.rd, hj.sl, hj.da, hj.wt, hj.ck, hj.dr⟩, fun _ => ⟨hs, .inr (.inr rfl)⟩, .inr rfl⟩
          have hfin : ∀ (e : Ending) (w' : World), (e = .returned (.slice none 0 0) ∧ NA (m.upB b) G w' g m.up ∧ Only g w w') → ∃ v b', e = .returned v ∧ OwnsL w' w.heap.size v m.sent ∧ NA b' G w' g m.sendS ∧ NI b' m.sendS ∧ Only g w w' := by
            rintro _ w' ⟨rfl, h', o⟩
            rw [eU] at h'
            rw [sent_0 eK, eS]
            exact ⟨_, m.upB b, rfl, OwnsL.nil, h'.se_ false, hNI, o⟩
          rcases hst with e | e | e
          · exact (send_d2 b G g m w h h5 hj.rd e hs (by rw [eU]; exact hu)).mono hfin
          · exact (send_d3 b G g m w h h5 hj.rd e hs (by rw [eU]; exact hu)).mono hfin
          · exact (send_d4 b G g m w h h5 hj.rd e hs (by rw [eU]; exact hu)).mono hfin
    · have eS : m.sendS = { m with se := false } := by unfold NM.sendS; rw [if_neg h1, if_pos (by omega)]
      have eK : m.sendK = 0 := by unfold NM.sendK; rw [if_neg h1, if_pos (by omega)]
      have hb : b = false := by
        cases b
        · rfl
        · exact absurd (hi.b1 rfl).1 hs
      have hfin : ∀ (e : Ending) (w' : World), (e = .returned (.slice none 0 0) ∧ NA b G w' g m ∧ Only g w w') → ∃ v b', e = .returned v ∧ OwnsL w' w.heap.size v m.sent ∧ NA b' G w' g m.sendS ∧ NI b' m.sendS ∧ Only g w w' := by
        rintro _ w' ⟨rfl, h', o⟩
        rw [sent_0 eK, eS]
        exact ⟨_, b, rfl, OwnsL.nil, h'.se_ false, ⟨⟨hj.is, hj.i, hj.st, hj.rd, hj.sl, hj.da, hj.wt, hj.ck, hj.dr⟩, hi.b1, .inl hb⟩, o⟩
      rcases (by omega : m.st = 0 ∨ m.st = 2 ∨ m.st = 3 ∨ m.st = 4 ∨ m.st = 5) with e | e | e | e | e
      · exact (send_c0 b G g m w h h5 hj.rd e hs).mono hfin
      · exact (send_c2 b G g m w h h5 hj.rd e hs).mono hfin
      · exact (send_c3 b G g m w h h5 hj.rd e hs).mono hfin
      · exact (send_c4 b G g m w h h5 hj.rd e hs).mono hfin
      · exact (send_c5 b G g m w h h5 hj.rd e hs).mono hfin
end Go.Proofs.YtpdenmcacaajkaaGreat

/-! ### NdN -/
namespace Go.Proofs.YtpdenmcacaajkaaGreat
open Go.RowKit
open Tb (D T)

theorem SeesT.src {w : World} {B : Nat} {u : Value} {m : List D} (h : SeesT w B u m) : Src w u 4 m.length (m.flatMap dc) := by
  obtain ⟨A, c, rfl, -, -, h3, h4⟩ := h.at_
  cases A with
  | none =>
    obtain ⟨h5, h6⟩ := h4 rfl
    subst h6
    have := List.length_eq_zero_iff.1 h5
    subst this
    exact .inl ⟨rfl, rfl, rfl⟩
  | some ad =>
    refine .inr ⟨ad, c, rfl, dcs_length m, fun j x hj => ?_, fun x hx => ?_⟩
    · by_cases hjm : j < m.length * 4
      · obtain ⟨b, off, he, _, hc⟩ := h3 (by omega)
        simp only [Option.some.injEq] at he
        subst he
        have h6 := hc (j / 4) (by omega)
        have e1 := dcs_getD m (j / 4) (by omega) (j % 4) (by omega)
        rw [show j / 4 * 4 + j % 4 = j by omega, hj] at e1
        have e2 : w.cell? ⟨b, off + j, none⟩ = (dc (m.getD (j / 4) default))[j % 4]? := by
          rcases (by omega : j % 4 = 0 ∨ j % 4 = 1 ∨ j % 4 = 2 ∨ j % 4 = 3) with h | h | h | h <;> rw [h]
          · rw [show off + j = off + j / 4 * 4 by omega]; exact h6.c0
          · rw [show off + j = off + j / 4 * 4 + 1 by omega]; exact h6.c1
          · rw [show off + j = off + j / 4 * 4 + 2 by omega]; exact h6.c2
          · rw [show off + j = off + j / 4 * 4 + 3 by omega]; exact h6.c3
        rw [← e1] at e2
        by_cases h1 : j = 0
        · subst h1; simpa [Addr.add] using e2
        · simpa [Addr.add, h1] using e2
      · rw [List.getElem?_eq_none (by rw [dcs_length]; omega)] at hj
        cases hj
    · obtain ⟨r, -, hr⟩ := List.mem_flatMap.1 hx
      simp only [dc, List.mem_cons, List.not_mem_nil, or_false] at hr
      rcases hr with rfl | rfl | rfl | rfl <;> rfl
theorem owns_emptyd (w : World) (e : TypeId) (he : e = 60) (B g : Nat) (hB : B ≤ w.heap.size) (hg : g = w.heap.size) : OwnsD (w.alloc (.cells #[] e)) B (.slice (some ⟨g, 0, none⟩) 0 0) [] := by
  subst he hg
  exact World.ownsRow_made w #[] 0 hB (by unfold maxLen; omega) rfl
theorem SeesT.alloc {w : World} {B : Nat} {v : Value} {l : List D} (h : SeesT w B v l) (o : Obj) : SeesT (w.alloc o) B v l := ⟨by
  obtain ⟨A, c, rfl, h1, h2, h3, h4⟩ := h.at_
  refine ⟨A, c, rfl, h1, h2, fun h0 => ?_, h4⟩
  obtain ⟨b, off, e, hb, hc⟩ := h3 h0
  exact ⟨b, off, e, hb, fun k hk => ⟨Lib.cell?_alloc_some o (hc k hk).c0, Lib.cell?_alloc_some o (hc k hk).c1, Lib.cell?_alloc_some o (hc k hk).c2, Lib.cell?_alloc_some o (hc k hk).c3⟩⟩⟩
theorem OwnsD.lt_ {w : World} {B : Nat} {v : Value} {l : List D} (h : OwnsD w B v l) : ∀ j, v.ownBlock = some j → B ≤ j ∧ j < w.heap.size := World.ownsRow.lt h
set_option maxRecDepth 100000 in
set_option maxHeartbeats 4000000 in
/-- slices.Clone of nodes. -/
theorem clone_d (l : List D) (v : Value) (w : World) (B : Nat) (hv : SeesT w B v l) (h4 : l.length ≤ 1000) :
    Calls Tryz.prog 18 #[v] w fun e w' => ∃ v', e = .returned v' ∧ OwnsD w' w.heap.size v' l ∧ Below w.heap.size w w' := by
  obtain ⟨A, c, rfl, h1, h2, h3, h4'⟩ := hv.at_
  cases A with
  | none =>
    obtain ⟨hl, rfl⟩ := h4' rfl
    have hl' := List.length_eq_zero_iff.1 hl
    subst hl'
    clear h1 h2 h3 h4 h4' hl hv
    have hq := Lib.run_eql_slice_nil (P := Tryz.prog) w 27 60 none 0 0 0 0 Tryz.underlying27
    go_enter Tryz.func18, Tryz.ntmps18
    go_wp2
    go_ret
    exact ⟨_, rfl, OwnsD.nil, Below.refl _ _⟩
  | some a =>
    have H := Lib.hid (owns_emptyd w 60 rfl w.heap.size w.heap.size (Nat.le_refl _) rfl)
    have hs := Lib.hid ((hv.alloc (.cells #[] 60)))
    have q0 := Lib.run_eql_slice_nil (P := Tryz.prog) w 27 60 (some a) l.length c 0 0 Tryz.underlying27
    have hR : 0 + l.length ≤ maxLen ∧ (0 + l.length) * 24 ≤ 140737488355328 := ⟨by unfold maxLen; omega, by omega⟩
    clear hv h3 h4'
    go_enter Tryz.func18, Tryz.ntmps18
    go_wp2_with (at_builtin; go_loud (refine wpList_pushC _ rfl (.tmp 5) (.tmp 6) 27 rfl w.heap.size 60 _ 4 24 info_def rfl (by omega) Tryz.underlying27 _ 0 _ H.out rfl _ l.length _ rfl hs.out.src (by simp) hR.1 hR.2 ?_))
    intro v' w' ho he
    have ho : OwnsD w' w.heap.size v' l := by
      unfold OwnsD
      simpa using ho
    have hb := ((Below.refl w.heap.size w).alloc (Nat.le_refl _) (.cells #[] 60)).trans (he.toBelow (by simp) (fun j hj => by simp [Value.ownBlock] at hj; omega))
    go_wp2
    go_ret
    exact ⟨_, rfl, ho, hb⟩
set_option maxRecDepth 100000 in
set_option maxHeartbeats 1000000 in
theorem new_long (l : List R4) (v : Value) (B : Nat) (w : World) (hv : SeesRs w B v l) (h8 : 8 < l.length) :
    Calls Tryz.prog 16 #[v] w fun e w' => e = .returned (.tuple #[.pointer none, .int .i64 1]) ∧ Below w.heap.size w w' := by
  obtain ⟨A, c, rfl, v1, v2, v3, v4⟩ := hv.at_
  unfold maxLen at v2
  have d0 : decide ((8 : Int) < ((l.length : Nat) : Int)) = true := decide_eq_true (by omega)
  clear v3 v4 hv
  go_enter Tryz.func16, Tryz.ntmps16
  go_wp2
  go_ret2
  exact ⟨rfl, Below.refl _ _⟩
/-- May the rules be? -/
def rulesOk (l : List R4) : Prop := l.length ≤ 8 ∧ ∀ k, k < l.length → (l.getD k default).may
theorem new_bad (l : List R4) (v : Value) (B : Nat) (w : World) (hv : SeesRs w B v l) (hB : B ≤ w.heap.size) (h : ¬ rulesOk l) :
    Calls Tryz.prog 16 #[v] w fun e w' => e = .returned (.tuple #[.pointer none, .int .i64 1]) ∧ Below w.heap.size w w' := by
  by_cases h8 : l.length ≤ 8
  · exact new_no l v B w hv hB h8 (fun h' => h ⟨h8, h'⟩)
  · exact new_long l v B w hv (by omega)
end Go.Proofs.YtpdenmcacaajkaaGreat
