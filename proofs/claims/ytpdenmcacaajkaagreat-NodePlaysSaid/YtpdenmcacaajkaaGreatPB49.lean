/- Texts RaZ, RaI, RaJ, NpT in one. For what each says in front of its theorems. -/
import Derived.Test.YtpdenmcacaajkaaGreatPB32
import Derived.Test.YtpdenmcacaajkaaGreatPB34
import Derived.Test.YtpdenmcacaajkaaGreatPB45
import Derived.Test.YtpdenmcacaajkaaGreatPB46
import Derived.Test.YtpdenmcacaajkaaGreatPB47
import Derived.Test.YtpdenmcacaajkaaGreatPB48
/-! ### RaZ -/
namespace Go.Proofs.YtpdenmcacaajkaaGreat
open Go.RowKit
open Fr (St F)
section
variable {b : Bool} {G G' : Nat → Prop} {w W W' : World} {g : Nat} {m : NM} {x : RX} {Fs : List Nat}
theorem RA.cut (h : RA b G W g m x) (hg : ∀ k, G k → k < W.heap.size → G' k) : RA b G' W g m x := by
  obtain ⟨Vn, L, D, R, hB, hA, hV⟩ := h.ex
  obtain ⟨⟨sv, hS, hd⟩, hk⟩ := h.so
  have dat : ∀ {P : List Nat} {v : Value} {l : List Int}, DatG G P W v l → DatG G' P W v l := fun h => ⟨h.1, fun h0 k e => hg k (h.2 h0 k e) (seesL_lt h.1.1 h0 e)⟩
  exact ⟨⟨Vn, L, D, R, hB, hA, ⟨hV.t, hV.tf, fun h0 k e => hg k (hV.tn h0 k e) (seesT_lt hV.t h0 e), hV.l, hV.lf, fun h0 k e => hg k (hV.ln h0 k e) (hV.ll k e), hV.ll, dat hV.d, hV.r, hV.rf, fun h0 k e => hg k (hV.rn h0 k e) (seesR_lt hV.r h0 e)⟩⟩, h.ty, ⟨⟨sv, hS, fun i hi => dat (hd i hi)⟩, hk⟩, h.nb, h.rb, h.nd, fun k hk => hg k (h.gs k hk) (h.lts k hk), h.al2, h.cko, h.n16⟩
theorem seesI_keep {v : Value} {l : List Int} (h : SeesI W W.heap.size v l) (hn : l ≠ [] → ∀ k, vblk v = some k → k ∈ Fs) (hs : W.heap.size ≤ W'.heap.size) (hF : ∀ f, f ∈ Fs → W'.heap[f]? = W.heap[f]?) : SeesI W' W'.heap.size v l := ⟨by
  obtain ⟨A, c, rfl, h1, h2, h3, h4⟩ := h.at_
  refine ⟨A, c, rfl, h1, h2, fun h0 => ?_, h4⟩
  obtain ⟨bl, off, rfl, hb, hc⟩ := h3 h0
  refine ⟨bl, off, rfl, Nat.lt_of_lt_of_le hb hs, fun j hj => ?_⟩
  rw [← hc j hj]
  simp only [World.cell?, hF bl (hn (List.length_pos_iff.1 h0) bl rfl)]⟩
theorem DatG.keepL {P : List Nat} {v : Value} {l : List Int} (h : DatG (fun k => k ∈ Fs) P W v l) (hs : W.heap.size ≤ W'.heap.size) (hF : ∀ f, f ∈ Fs → W'.heap[f]? = W.heap[f]?) : DatG (fun k => k ∈ Fs) P W' v l :=
  ⟨⟨seesL_keep h.1.1 h.2 hs hF, h.1.2⟩, h.2⟩
theorem RA.keepL (h : RA b (fun k => k ∈ Fs) W g m x) (hs : W.heap.size ≤ W'.heap.size) (hF : ∀ f, f ∈ Fs → W'.heap[f]? = W.heap[f]?) : RA b (fun k => k ∈ Fs) W' g m x := by
  obtain ⟨V, L, D, R, hB, hA, hV⟩ := h.ex
  obtain ⟨⟨sv, hS, hd⟩, hk⟩ := h.so
  have e : ∀ f, f ∈ x.a :: x.own g → W'.heap[f]? = W.heap[f]? := fun f hf => hF f (h.gs f hf)
  exact ⟨⟨V, L, D, R, (e g (by simp [RX.own])).trans hB, (e x.a (by simp)).trans hA, ⟨seesT_keep hV.t hV.tn hs hF, hV.tf, hV.tn, seesI_keep hV.l hV.ln hs hF, hV.lf, hV.ln, fun k e => Nat.lt_of_lt_of_le (hV.ll k e) hs, hV.d.keepL hs hF, seesR_keep hV.r hV.rn hs hF, hV.rf, hV.rn⟩⟩, ⟨(e x.m (by simp [RX.own])).trans h.ty.1, h.ty.2⟩, ⟨⟨sv, (e x.s (by simp [RX.own])).trans hS, fun i hi => (hd i hi).keepL hs hF⟩, hk⟩, (e x.n (by simp [RX.own])).trans h.nb, (e x.r (by simp [RX.own])).trans h.rb, h.nd, h.gs, h.al2, h.cko, h.n16⟩
end
/-- The document's node of these blocks; q: what is known of whether it sent. -/
structure RN (q : Bool → Prop) (Fs : List Nat) (W : World) (g : Nat) (m : NM) : Prop where
  ra : ∃ b x, q b ∧ RA b (fun k => k ∈ Fs) W g m x
  j : NJ m
def anyB (_ : Bool) : Prop := True
section
variable {q : Bool → Prop} {w W W' : World} {g : Nat} {m m' : NM} {x : RX} {Fs : List Nat}
theorem RN.any (h : RN q Fs W g m) : RN anyB Fs W g m := by
  obtain ⟨⟨b, x, -, h⟩, j⟩ := h
  exact ⟨⟨b, x, trivial, h⟩, j⟩
theorem RN.keep (h : RN q Fs W g m) (hs : W.heap.size ≤ W'.heap.size) (hF : ∀ f, f ∈ Fs → W'.heap[f]? = W.heap[f]?) : RN q Fs W' g m := by
  obtain ⟨⟨b, x, hq, h⟩, j⟩ := h
  exact ⟨⟨b, x, hq, h.keepL hs hF⟩, j⟩
theorem RN.lt (h : RN q Fs W g m) : g < W.heap.size := by
  obtain ⟨⟨b, x, -, h⟩, -⟩ := h
  exact h.lt
/-- Blocks between two. -/
def newF (Fs : List Nat) (n k : Nat) : List Nat := Fs ++ List.range' n (k - n)
theorem mem_newF {f n k : Nat} : f ∈ newF Fs n k ↔ f ∈ Fs ∨ (n ≤ f ∧ f < k) ∨ (n ≤ f ∧ f < n + (k - n)) := by
  unfold newF
  rw [List.mem_append, List.mem_range'_1]
  constructor
  · rintro (h | h)
    · exact .inl h
    · exact .inr (.inr h)
  · rintro (h | h | h)
    · exact .inl h
    · exact .inr ⟨h.1, by omega⟩
    · exact .inr h
theorem RN.open_ (h : RN q Fs W g m) : ∃ b x, q b ∧ RA b (fun k => k ∈ Fs ∨ W.heap.size ≤ k) W g m x ∧ GN (fun k => k ∈ Fs ∨ W.heap.size ≤ k) W := by
  obtain ⟨⟨b, x, hq, h⟩, j⟩ := h
  exact ⟨b, x, hq, h.mono fun k hk => .inl hk, fun k hk => .inr hk⟩
theorem rn_close {b : Bool} (hq : q b) (hr : RS b (fun k => k ∈ Fs ∨ w.heap.size ≤ k) W g m) (hk : KG (fun k => k ∈ Fs ∨ w.heap.size ≤ k) w W) (j : NJ m) : ∃ F', RN q F' W g m ∧ Eff Fs F' w W := by
  obtain ⟨x, hr⟩ := hr
  refine ⟨newF Fs w.heap.size W.heap.size, ⟨⟨b, x, hq, hr.cut fun k hk hlt => mem_newF.2 (hk.elim .inl fun h => .inr (.inl ⟨h, hlt⟩))⟩, j⟩, hk.kq, fun f hf => ?_⟩
  rcases mem_newF.1 hf with h | h | h
  · exact .inl h
  · exact .inr h.1
  · exact .inr h.1
end
/-! ### Its calls. -/
variable {q : Bool → Prop} {w : World} {g : Nat} {m : NM} {Fs : List Nat}
theorem rn_on (a : Int) (h : RN q Fs w g m) (j : NJ (m.on a)) : Calls Tryz.prog 26 #[.pointer (some ⟨g, 0, none⟩), .int .i64 a] w fun e w' => ∃ F', e = .returned (.int .i64 (m.onE a)) ∧ RN anyB F' w' g (m.on a) ∧ Eff Fs F' w w' := by
  obtain ⟨b, x, -, ha, hG⟩ := h.open_
  refine (on_ra b _ g m x a w ha hG h.j.st).mono ?_
  rintro _ w' ⟨rfl, ⟨b', hr⟩, hk⟩
  obtain ⟨F', h1, h2⟩ := rn_close (q := anyB) (b := b') trivial hr hk j
  exact ⟨F', rfl, h1, h2⟩
theorem rn_off (h : RN q Fs w g m) (j : NJ m.off) : Calls Tryz.prog 28 #[.pointer (some ⟨g, 0, none⟩)] w fun e w' => ∃ F', e = .returned (.tuple #[]) ∧ RN anyB F' w' g m.off ∧ Eff Fs F' w w' := by
  obtain ⟨b, x, -, ha, hG⟩ := h.open_
  refine (off_ra b _ g m x w ha hG).mono ?_
  rintro _ w' ⟨rfl, hr, hk⟩
  obtain ⟨F', h1, h2⟩ := rn_close (q := anyB) trivial hr hk j
  exact ⟨F', rfl, h1, h2⟩
theorem rn_write {v : Value} {l : List Int} {B : Nat} (h : RN q Fs w g m) (hv : SeesL w B v l) (j : NJ (m.write l)) : Calls Tryz.prog 30 #[.pointer (some ⟨g, 0, none⟩), v] w fun e w' => ∃ F', e = .returned (.int .i64 (m.writeE l)) ∧ RN anyB F' w' g (m.write l) ∧ Eff Fs F' w w' := by
  obtain ⟨b, x, -, ha, hG⟩ := h.open_
  refine (write_ra b _ g m x v l B w ha hG h.j.i hv (by have := h.j.meB; omega)).mono ?_
  rintro _ w' ⟨rfl, hr, hk⟩
  obtain ⟨F', h1, h2⟩ := rn_close (q := anyB) (b := b) trivial ⟨x, hr⟩ hk j
  exact ⟨F', rfl, h1, h2⟩
theorem rn_view (h : RN q Fs w g m) : Calls Tryz.prog 40 #[.pointer (some ⟨g, 0, none⟩)] w fun e w' => e = .returned (csV m.rd m.sl m.ty.m) ∧ Below w.heap.size w w' := by
  obtain ⟨⟨b, x, -, ha⟩, j⟩ := h
  exact view_ra b _ g m x w ha
theorem rn_cells (h : RN q Fs w g m) : w.cell? ⟨g, 6, none⟩ = some (.int .i64 (m.st : Nat)) ∧ w.cell? ⟨g, 10, none⟩ = some (.int .i64 m.tm) := by
  obtain ⟨⟨b, x, -, ha⟩, j⟩ := h
  exact ⟨ha.c6, ha.c10⟩
theorem rn_tym (h : RN q Fs w g m) : m.ty.m < 256 := by
  obtain ⟨⟨b, x, -, ha⟩, j⟩ := h
  exact ha.ty.2
/-- What it tells: its store, its alarms. -/
theorem rn_parts (h : RN q Fs w g m) : ∃ gs ga : Nat, (w.cell? ⟨g, 13, none⟩ = some (.pointer (some ⟨gs, 0, none⟩)) ∧ w.cell? ⟨g, 14, none⟩ = some (.pointer (some ⟨ga, 0, none⟩))) ∧
    (∀ W, Below w.heap.size w W → ∀ n, Calls Tryz.prog 44 #[.pointer (some ⟨gs, 0, none⟩), .int .i64 n] W fun e w' => ∃ v, e = .returned (.agg #[v, .int .i64 (m.so.ga n), .bool (m.so.gg n)]) ∧ SeesL w' w'.heap.size v (m.so.gd n) ∧ Below W.heap.size W w') ∧
    (∀ W, Below w.heap.size w W → ∀ n, Calls Tryz.prog 46 #[.pointer (some ⟨ga, 0, none⟩), .int .i64 n] W fun e w' => e = .returned (.int .i64 ((if isR m.al n then m.ar n.toNat else 0 : Nat) : Int)) ∧ w' = W) := by
  obtain ⟨⟨b, x, -, ha⟩, j⟩ := h
  exact ⟨x.s, x.a, ⟨ha.c13, ha.c14⟩, fun W hW n => get_rs _ _ x.s m.so n W (ha.below hW).so, fun W hW n => rings_ra b _ g m x n W (ha.below hW)⟩
def isS (s b : Bool) : Prop := b = s
theorem rn_send (h : RN q Fs w g m) (ha2 : m.ty.a < 1000) (j : NJ m.sendS) : Calls Tryz.prog 34 #[.pointer (some ⟨g, 0, none⟩)] w fun e w' => ∃ v F', e = .returned v ∧ OwnsL w' w.heap.size v m.sent ∧ RN (isS m.sendS.se) F' w' g m.sendS ∧ Eff Fs F' w w' := by
  obtain ⟨b, x, -, ha, hG⟩ := h.open_
  have hj := h.j
  have key : ∀ k, (m.sendK = k) → Snd (fun k => k ∈ Fs ∨ w.heap.size ≤ k) g m m.sendS k w → Calls Tryz.prog 34 #[.pointer (some ⟨g, 0, none⟩)] w fun e w' => ∃ v F', e = .returned v ∧ OwnsL w' w.heap.size v m.sent ∧ RN (isS m.sendS.se) F' w' g m.sendS ∧ Eff Fs F' w w' := fun k hk hs => by
    refine hs.mono ?_
    rintro _ w' ⟨v, rfl, hv, hr, hkg⟩
    obtain ⟨F', h1, h2⟩ := rn_close (q := isS m.sendS.se) rfl hr hkg j
    refine ⟨v, F', rfl, ?_, h1, h2⟩
    unfold NM.sent
    rw [hk]
    by_cases h0 : k = 0
    · rw [if_pos h0] at hv ⊢
      exact hv
    · rw [if_neg h0] at hv ⊢
      have hk3 : 1 ≤ k ∧ k ≤ 3 := by
        rw [← hk]
        rw [← hk] at h0
        revert h0
        unfold NM.sendK
        repeat' split
        all_goals (intro h0; omega)
      have hn8 := j.may.n8
      have hsl := j.sl
      rwa [show encR (m.sendS.frm k) = (m.sendS.frm k).bytes from enc_is hk3 (view_may j.rd (by omega) (rn_tym h1)) j.da.1] at hv
  by_cases h1 : m.st = 1
  · by_cases hw : (m.wt : Int) + 1 < m.me.li
    · exact key 0 (by unfold NM.sendK; rw [if_pos h1, if_pos hw]) (by
        have e : m.sendS = { m with wt := m.wt + 1, se := false } := by unfold NM.sendS; rw [if_pos h1, if_pos hw]
        rw [e]; exact snd_1 b _ g m x w ha hG hj h1 hw)
    · exact key 3 (by unfold NM.sendK; rw [if_pos h1, if_neg hw]) (by
        have e : m.sendS = { m.begun with se := true } := by unfold NM.sendS; rw [if_pos h1, if_neg hw]
        rw [e]; exact snd_2 b _ g m x w ha hG hj h1 hw)
  · by_cases h2 : m.st = 0 ∨ m.st = 5 ∨ m.sl ≠ m.i
    · exact key 0 (by unfold NM.sendK; rw [if_neg h1, if_pos h2]) (by
        have e : m.sendS = { m with se := false } := by unfold NM.sendS; rw [if_neg h1, if_pos h2]
        rw [e]; exact snd_3 b _ g m x w ha hj.st h1 h2)
    · have hst : m.st = 2 ∨ m.st = 3 ∨ m.st = 4 := by have := hj.st; omega
      have hs : m.sl = m.i := by omega
      by_cases he : m.enter.st = 4
      · exact key m.kd (by unfold NM.sendK; rw [if_neg h1, if_neg h2, if_neg (fun h => h he)]; rfl) (by
          have e : m.sendS = { m.enter.joined with se := true } := by unfold NM.sendS; rw [if_neg h1, if_neg h2, if_neg (fun h => h he)]
          rw [e]; exact snd_5 b _ g m x w ha hG hj hst hs ha2 he)
      · exact key 0 (by unfold NM.sendK; rw [if_neg h1, if_neg h2, if_pos he]) (by
          have e : m.sendS = { m.enter with se := false } := by unfold NM.sendS; rw [if_neg h1, if_neg h2, if_pos he]
          rw [e]; exact snd_4 b _ g m x w ha hG hst hs ha2 he)
end Go.Proofs.YtpdenmcacaajkaaGreat

/-! ### RaI -/
namespace Go.Proofs.YtpdenmcacaajkaaGreat
open Go.RowKit
open Fr (St F)
theorem rn_take {Fs : List Nat} {w : World} {g : Nat} {m : NM} (h : Hn) {vx vy : Value} (hr : RN (isS m.se) Fs w g m) (hh : HOk w h vx vy) (ha : m.ty.a < 900) (hf : m.ty.f < 900) (ht : -4611686018427387904 ≤ m.tm ∧ m.tm ≤ 4611686018427387904) (j : NJ (m.take h)) :
    Calls Tryz.prog 37 #[.pointer (some ⟨g, 0, none⟩), hdV h vx vy] w fun e w' => ∃ F', e = .returned (.tuple #[]) ∧ RN anyB F' w' g (m.take h) ∧ Eff Fs F' w w' := by
  obtain ⟨b, x, hb, hm, hG⟩ := hr.open_
  have hj := hr.j
  have hmay := hj.may
  have hn8 := hmay.n8
  have hsl := hj.sl
  have ho := hh.o
  have fin : Tke (fun k => k ∈ Fs ∨ w.heap.size ≤ k) g (m.take h) h vx vy w → Calls Tryz.prog 37 #[.pointer (some ⟨g, 0, none⟩), hdV h vx vy] w fun e w' => ∃ F', e = .returned (.tuple #[]) ∧ RN anyB F' w' g (m.take h) ∧ Eff Fs F' w w' := fun ht => by
    refine ht.mono ?_
    rintro _ w' ⟨rfl, ⟨b', hr'⟩, hk⟩
    obtain ⟨F', h1, h2⟩ := rn_close (q := anyB) (b := b') trivial hr' hk j
    exact ⟨F', rfl, h1, h2⟩
  refine fin ?_
  have hHW : ∀ W, Below w.heap.size w W → HOk W h vx vy := fun W hW => ⟨(hh.x.below hW).more hW.size, hh.bx, (hh.y.below hW).more hW.size, hh.by_, hh.o⟩
  by_cases hoff : m.st = 0 ∨ m.st = 5
  · have eT : m.take h = m := by unfold NM.take; rw [if_pos hoff]
    rw [eT]
    exact tke_off b _ g m x h vx vy w hm hh hoff
  · by_cases h1 : m.st = 1
    · rcases hl : m.firstL h with _ | l
      · have eT : m.take h = if h.a ≠ 0 ∨ h.b ≠ 0 then { m with wt := 0 } else m := by unfold NM.take; rw [if_neg hoff, if_pos h1, hl]
        rw [eT]
        exact tke_listen b b _ g m _ x h vx vy w hm hh h1 fun W hW => tk_none b _ g m x h vx vy W (hm.below hW) (hHW W hW) hl
      · have eT : m.take h = (m.knows (Fr.res l NM.z3) h.o).goOn := by unfold NM.take; rw [if_neg hoff, if_pos h1, hl]
        have htl : m.tells l := by
          have := List.find?_some hl
          exact of_decide_eq_true this
        obtain ⟨he, hk1, hs1, hs2⟩ := htl
        have hrm := (St.may_iff _).1 (res_may he)
        have hjk := hj.knows (Fr.res l NM.z3) h.o hrm.1 ⟨hrm.2.1.1, hs1⟩
        have hgk : NG (m.knows (Fr.res l NM.z3) h.o) := hjk.ng (by show -4611687117939015680 ≤ m.tm + h.o ∧ m.tm + h.o ≤ 4611687117939015680; omega)
        have hl2 : l = h.x ∨ l = h.y := mem_rows (List.mem_of_find?_eq_some hl)
        have hbl : bytesL l := by
          rcases hl2 with e | e
          · rw [e]; exact hh.bx
          · rw [e]; exact hh.by_
        rw [eT]
        exact tke_listen b false _ g m _ x h vx vy w hm hh h1 fun W hW => tk_some b _ g m x h vx vy l W (hm.below hW) (hG.up hW.size) (hHW W hW) hl hgk ht ⟨hrm.2.1.1, by omega⟩ (res_bytes _ _ hbl)
    · have hst : m.st = 2 ∨ m.st = 3 ∨ m.st = 4 := by have := hj.st; omega
      by_cases hs : m.sl = m.i
      · have eT : m.take h = ({ m with ck := if m.se = true then m.meas m.i 0 else m.ck } : NM).goOn := by unfold NM.take; rw [if_neg hoff, if_neg h1, if_pos hs]
        have hb : b = m.se := hb
        by_cases hs1 : m.se = true
        · rw [hs1] at hb
          subst hb
          by_cases hsy : m.me.sy = true
          · have eC : m.take h = ({ m with ck := keep4 m.ck 0 } : NM).goOn := by
              rw [eT, if_pos hs1]
              unfold NM.meas
              rw [if_pos (show (m.at_ m.i).sy = true from hsy)]
            rw [eC]
            have hjc := hj.ck_ (keep4 m.ck 0) (hj.ck.keep4_ (by omega))
            exact tke_own1 _ g m x h vx vy w hm hG hh hst hs hj.i hsy (hjc.ng (by show -4611687117939015680 ≤ m.tm ∧ m.tm ≤ 4611687117939015680; omega))
          · have hsy0 : m.me.sy = false := by simpa using hsy
            have eC : m.take h = m.goOn := by
              rw [eT, if_pos hs1]
              unfold NM.meas
              rw [if_neg (show ¬ (m.at_ m.i).sy = true from hsy)]
            rw [eC]
            exact tke_own0 _ g m x h vx vy w hm hG hh hst hs hj.i hsy0 (hj.ng (by omega))
        · have hs0 : m.se = false := by simpa using hs1
          rw [hs0] at hb
          subst hb
          have eC : m.take h = m.goOn := by rw [eT, if_neg hs1]
          rw [eC]
          exact tke_ownn _ g m x h vx vy w hm hG hh hst hs hj.i (hj.ng (by omega))
      · rcases hl : m.rightL h with _ | l
        · by_cases hq : h.a = 0 ∧ h.b = 0
          · have eT : m.take h = (m.took (m.ty.miss m.sl) m.so m.ck).goOn := by unfold NM.take; rw [if_neg hoff, if_neg h1, if_neg hs, hl]; exact if_pos hq
            rw [eT]
            exact tke_miss b _ g m x h vx vy w hm hG hh hst hs ⟨hsl, hn8⟩ ⟨by omega, by omega⟩ hl hq ((hj.took _ _ _ hj.ck).ng (by show -4611687117939015680 ≤ m.tm ∧ m.tm ≤ 4611687117939015680; omega))
          · have eT : m.take h = (m.took (m.ty.wrong m.sl) m.so m.ck).goOn := by unfold NM.take; rw [if_neg hoff, if_neg h1, if_neg hs, hl]; exact if_neg hq
            rw [eT]
            exact tke_wrong b _ g m x h vx vy w hm hG hh hst hs ⟨hsl, hn8⟩ ⟨by omega, by omega⟩ hl hq ((hj.took _ _ _ hj.ck).ng (by show -4611687117939015680 ≤ m.tm ∧ m.tm ≤ 4611687117939015680; omega))
        · have hbl : bytesL l := by
            rcases mem_rows (List.mem_of_find?_eq_some hl) with e | e
            · rw [e]; exact hh.bx
            · rw [e]; exact hh.by_
          by_cases hsy : (m.at_ m.sl).sy = true
          · have eT : m.take h = (m.took (m.ty.right m.sl) (m.so.put m.sl (Fr.res l m.own).d) (keep4 m.ck h.o)).goOn := by
              unfold NM.take
              rw [if_neg hoff, if_neg h1, if_neg hs, hl]
              simp only [NM.meas, if_pos hsy]
            rw [eT]
            exact tke_sync b _ g m x h vx vy l w hm hG hh hst hs ⟨hsl, hn8⟩ ⟨by omega, by omega⟩ hl (res_bytes _ _ hbl) hsy ((hj.took _ _ _ (hj.ck.keep4_ ho)).ng (by show -4611687117939015680 ≤ m.tm ∧ m.tm ≤ 4611687117939015680; omega))
          · have eT : m.take h = (m.took (m.ty.right m.sl) (m.so.put m.sl (Fr.res l m.own).d) m.ck).goOn := by
              unfold NM.take
              rw [if_neg hoff, if_neg h1, if_neg hs, hl]
              simp only [NM.meas, if_neg hsy]
            rw [eT]
            exact tke_nosync b _ g m x h vx vy l w hm hG hh hst hs ⟨hsl, hn8⟩ ⟨by omega, by omega⟩ hl (res_bytes _ _ hbl) (by simpa using hsy) ((hj.took _ _ _ hj.ck).ng (by show -4611687117939015680 ≤ m.tm ∧ m.tm ≤ 4611687117939015680; omega))
end Go.Proofs.YtpdenmcacaajkaaGreat

/-! ### RaJ -/
namespace Go.Proofs.YtpdenmcacaajkaaGreat
open Go.RowKit
open Tb (D T)
theorem three (wr : World) (c1 c2 c3 : Array Value) (t t3 : TypeId) : Blk (((wr.alloc (.cells c1 t)).alloc (.cells c2 t)).alloc (.cells c3 t3)).drew wr.heap.size c1 t ∧ Blk (((wr.alloc (.cells c1 t)).alloc (.cells c2 t)).alloc (.cells c3 t3)).drew (wr.heap.size + 1) c2 t ∧ Blk (((wr.alloc (.cells c1 t)).alloc (.cells c2 t)).alloc (.cells c3 t3)).drew (wr.heap.size + 2) c3 t3 :=
  ⟨(((Blk.new wr _ rfl c1 t).alloc _).alloc _).drew, ((Blk.new (wr.alloc (.cells c1 t)) _ (by simp) c2 t).alloc _).drew, (Blk.new ((wr.alloc (.cells c1 t)).alloc (.cells c2 t)) _ (by simp) c3 t3).drew⟩
set_option maxRecDepth 100000 in
set_option maxHeartbeats 4000000 in
theorem new_r9_two (l : List R4) (v : Value) (w : World) (hv : SeesRs w w.heap.size v l) (h : rulesOk l) (h2l : l.length = 2) :
    Calls Tryz.prog 21 #[v] w fun e w' => (∃ ga gn gr, e = .returned (.tuple #[.pointer (some ⟨ga, 0, none⟩), .int .i64 0]) ∧ Blk w' ga #[v, .slice (some ⟨gn, 0, none⟩) 2 2, .slice (some ⟨gr, 0, none⟩) 2 2] 128 ∧ Blk w' gn (two fun _ => 0) 3 ∧ Blk w' gr (two fun _ => 0) 3 ∧ (gn ≠ gr ∧ ga ≠ gn ∧ ga ≠ gr) ∧ w.heap.size ≤ ga ∧ w.heap.size ≤ gn ∧ w.heap.size ≤ gr) ∧ Below w.heap.size w w' := by
  have HL := Lib.hid h2l
  clear h2l
  obtain ⟨A, c, rfl, v1, v2, v3, -⟩ := hv.at_
  unfold maxLen at v2
  have h8 := h.1
  have d0 : decide ((8 : Int) < ((l.length : Nat) : Int)) = false := decide_eq_false (by omega)
  have HX : Hid (0 < l.length → ∃ b off, A = some ⟨b, off, none⟩ ∧ ∀ W, Below w.heap.size w W → ∀ k, k < l.length → AtRl W b (off + k * 4) (l.getD k default)) := Lib.hid fun h0 => by
    obtain ⟨b, off, hA, hb, hc⟩ := v3 h0
    exact ⟨b, off, hA, fun W hW k hk => (hc k hk).keep fun o => hW.cell (p := ⟨b, o, none⟩) (by show b < _; omega)⟩
  have hm := Lib.hid h.2
  obtain ⟨i0, hi, hz0, hz1, hz2⟩ := info_parts infoInt
  have hmk := fun W => Lib.hid (run_make_rowN (P := Tryz.prog) 46 3 i0 (.int .i64 0) Tryz.underlying46 hi hz0 .i64 .i64 l.length l.length (Nat.le_refl _) (by rw [hz2]; omega) (by omega) W)
  clear v3 hv h
  go_enter Tryz.func21, Tryz.ntmps21
  go_wp2_with fail
  go_loopw [4] (fun i wr => ∃ k : Nat, k ≤ l.length ∧ i = .int .i64 k ∧ Below w.heap.size w wr) (fun i _ => l.length - (intOf i).toNat)
  case atStart => exact ⟨0, by omega, rfl, Below.refl _ _⟩
  case round =>
    obtain ⟨k, hk, rfl, b⟩ := hrel
    by_cases hlt : k < l.length
    · have r1 : decide ((k : Int) < ((l.length : Nat) : Int)) = true := decide_eq_true (by omega)
      obtain ⟨bl, off, rfl, HG⟩ := HX.out (by omega)
      obtain ⟨x0, x1, x2, x3⟩ := HG _ b k hlt
      have hmk0 := hm.out k hlt
      clear HG HX hm hmk
      generalize l.getD k default = q at *
      have hq := mayB_iff q
      rw [decide_eq_true hmk0] at hq
      clear hmk0
      obtain ⟨qn, ql, qh, qs⟩ := q
      have hq2 : ∀ n a b t, Tb.wi n a b = t → ∀ W, Hid (Calls Tryz.prog 60 #[.int .i64 n, .int .i64 a, .int .i64 b] W fun e w' => e = .returned (.bool t) ∧ W = w') := by
        rintro n a b t rfl W
        exact Lib.hid (in_r9 n a b W)
      simp only at x0 x1 x2 x3
      have hb2 := b.alloc b.size (.cells #[.int .i64 qn, .int .i64 ql, .int .i64 qh, .int .i64 qs] 80)
      unfold mayB at hq
      simp only [Bool.and_eq_true] at hq
      obtain ⟨⟨⟨q0, q1⟩, q2⟩, q3⟩ := hq
      have f0 := hq2 _ _ _ _ q0
      have f1 := hq2 _ _ _ _ q1
      have f2 := hq2 _ _ _ _ q2
      have f3 := hq2 _ _ _ _ q3
      clear q0 q1 q2 q3 hq2
      go_wp2_with fail
      refine (f0 _).out.mono ?_
      rintro _ w2 ⟨rfl, rfl⟩
      go_wp2_with fail
      refine (f1 _).out.mono ?_
      rintro _ w3 ⟨rfl, rfl⟩
      go_wp2_with fail
      refine (f2 _).out.mono ?_
      rintro _ w4 ⟨rfl, rfl⟩
      go_wp2_with fail
      refine (f3 _).out.mono ?_
      rintro _ w5 ⟨rfl, rfl⟩
      go_wp2
      go_roundw
      case rel => exact ⟨k + 1, by omega, by go_num, hb2⟩
      case measure => simp [intOf]; omega
    · obtain rfl : k = l.length := by omega
      have m0 := fun W => (hmk W).out
      have eM : madeCells #[Value.int .i64 0] l.length = two (fun _ => 0) := by rw [HL.out]; kernel_rfl
      have eMH := Lib.hid eM
      clear HX hm hmk eM
      go_wp2_with fail
      go_region
      all_goals
        go_wp2
        go_ret2
        first
          | exact ⟨⟨wr.heap.size + 2, wr.heap.size, wr.heap.size + 1, rfl, (three wr (madeCells #[.int .i64 0] l.length) (madeCells #[.int .i64 0] l.length) #[.slice A l.length c, .slice (some ⟨wr.heap.size, 0, none⟩) l.length l.length, .slice (some ⟨wr.heap.size + 1, 0, none⟩) l.length l.length] 3 128).2.2.eq (by rw [HL.out]), (three wr _ _ _ _ _).1.eq eMH.out, (three wr _ _ _ _ _).2.1.eq eMH.out, by omega, by have := b.size; omega⟩, (((b.alloc b.size _).alloc (by have := b.size; simp; omega) _).alloc (by have := b.size; simp; omega) _).drew⟩
          | exact ⟨⟨wr.heap.size + 2, wr.heap.size + 1, wr.heap.size, rfl, (three wr (madeCells #[.int .i64 0] l.length) (madeCells #[.int .i64 0] l.length) #[.slice A l.length c, .slice (some ⟨wr.heap.size + 1, 0, none⟩) l.length l.length, .slice (some ⟨wr.heap.size, 0, none⟩) l.length l.length] 3 128).2.2.eq (by rw [HL.out]), (three wr _ _ _ _ _).2.1.eq eMH.out, (three wr _ _ _ _ _).1.eq eMH.out, by omega, by have := b.size; omega⟩, (((b.alloc b.size _).alloc (by have := b.size; simp; omega) _).alloc (by have := b.size; simp; omega) _).drew⟩
set_option maxRecDepth 100000 in
set_option maxHeartbeats 4000000 in
theorem new10 (B : Nat) (t : Tb.T) (v u : Value) (i dr : Int) (l : List R4) (w : World) (hv : SeesT w w.heap.size v t.ns) (hu : SeesRs w w.heap.size u l) (h2l : l.length = 2) (hm : NM.may t i dr l) (hBw : B ≤ w.heap.size) (hvB : t.ns ≠ [] → ∀ k, v.ownBlock = some k → B ≤ k) (huB : l ≠ [] → ∀ k, u.ownBlock = some k → B ≤ k) :
    Calls Tryz.prog 8 #[tabV t v, .int .i64 i, .int .i64 dr, u] w fun e w' => ∃ g, e = .returned (.tuple #[.pointer (some ⟨g, 0, none⟩), .int .i64 0]) ∧ RS false (fun k => B ≤ k) w' g (NM.new t i.toNat dr l) ∧ Below w.heap.size w w' := by
  obtain ⟨ht, ⟨hi, hj⟩, ⟨hd, he⟩, hl8, hlm⟩ := hm
  have h : rulesOk l := ⟨hl8, hlm⟩
  have hvu := Lib.hid (And.intro (And.intro hv hvB) (And.intro hu huB))
  obtain ⟨A, c, rfl, n1, n2, -, -⟩ := hv.at_
  obtain ⟨Ar, cr, rfl, r1, r2, -, -⟩ := hu.at_
  have hb0 := (Below.refl w.heap.size w).alloc (Nat.le_refl _) (.cells #[.slice A t.ns.length c, .int .i64 t.dr, .int .i64 t.wi, .int .i64 t.lm] 29)
  have hX := Blk.new w w.heap.size rfl #[.slice A t.ns.length c, .int .i64 t.dr, .int .i64 t.wi, .int .i64 t.lm] 29
  have hu1 := (hu.below hb0).more hb0.size
  have hI := fun W (hW : Below w.heap.size w W) => Lib.hid (is_rf t (.slice A t.ns.length c) W W.heap.size (Nat.le_refl _) ((hv.below hW).more hW.size))
  have hN := Lib.hid (new_r9_two l _ _ hu1 h h2l)
  have tm := Tb.T.may ht
  have n8 := tm.n8
  have d1 := tm.dr.1
  have d2 := tm.dr.2
  rw [ht] at hI
  unfold tabV at *
  have H2L := Lib.hid h2l
  clear hu1 hv hu h hvB huB h2l
  go_enter Tryz.func8, Tryz.ntmps8
  go_wp2_with fail
  refine hN.out.mono ?_
  rintro _ w2 ⟨⟨ga, gn, gr, rfl, hA, hNn, hRr, hne, hlo⟩, b2⟩
  have hz0 : (w.alloc (.cells #[.slice A t.ns.length c, .int .i64 t.dr, .int .i64 t.wi, .int .i64 t.lm] 29)).heap.size = w.heap.size + 1 := by simp
  rw [hz0] at hlo
  have hX2 := hX.below b2 (by simp)
  have b2 := hb0.trans (b2.mono hb0.size)
  have x0 := hX2.cell 0 (x := .slice A t.ns.length c) rfl
  have x1 := hX2.cell 1 (x := .int .i64 t.dr) rfl
  have x2 := hX2.cell 2 (x := .int .i64 t.wi) rfl
  have x3 := hX2.cell 3 (x := .int .i64 t.lm) rfl
  have hI := hI w2 b2
  clear hX hb0
  go_wp2_with fail
  refine hI.out.mono ?_
  rintro _ w3 ⟨rfl, b3⟩
  have hO3 := Lib.hid (And.intro (hA.below b3 hA.lt) (And.intro (hNn.below b3 hNn.lt) (hRr.below b3 hRr.lt)))
  have hlt2 : ga < w2.heap.size ∧ gn < w2.heap.size ∧ gr < w2.heap.size := ⟨hA.lt, hNn.lt, hRr.lt⟩
  have hz3 := b3.size
  clear hA hNn hRr
  have hX3 := hX2.below b3 hX2.lt
  have b3 := b2.trans (b3.mono b2.size)
  clear x0 x1 x2 x3
  have R7 := fun W => Lib.hid (new_rt 0 W)
  have R8 := fun W => Lib.hid (new_rs (fun k => B ≤ k) W)
  have x0 := hX3.cell 0 (x := .slice A t.ns.length c) rfl
  have x1 := hX3.cell 1 (x := .int .i64 t.dr) rfl
  have x2 := hX3.cell 2 (x := .int .i64 t.wi) rfl
  have x3 := hX3.cell 3 (x := .int .i64 t.lm) rfl
  have HS : ∀ W, Below w3.heap.size w3 W → W.cell? ⟨w.heap.size, 0, none⟩ = some (.slice A t.ns.length c) ∧ W.cell? ⟨w.heap.size, 1, none⟩ = some (.int .i64 t.dr) ∧ W.cell? ⟨w.heap.size, 2, none⟩ = some (.int .i64 t.wi) ∧ W.cell? ⟨w.heap.size, 3, none⟩ = some (.int .i64 t.lm) := fun W hW => by
    have hY := hX3.below hW hX3.lt
    exact ⟨hY.cell 0 rfl, hY.cell 1 rfl, hY.cell 2 rfl, hY.cell 3 rfl⟩
  have hb1 := Below.refl w3.heap.size w3
  go_wp2_with fail
  have S0 := Lib.hid (HS _ hb1.drew)
  have HH := Lib.hid (And.intro hX3 HS)
  clear hX3 HS hX2
  go_region_held3 (fun W => W.cell? ⟨w.heap.size, 0, none⟩ = some (.slice A t.ns.length c) ∧ W.cell? ⟨w.heap.size, 1, none⟩ = some (.int .i64 t.dr) ∧ W.cell? ⟨w.heap.size, 2, none⟩ = some (.int .i64 t.wi) ∧ W.cell? ⟨w.heap.size, 3, none⟩ = some (.int .i64 t.lm)) ((first | exact S0.out | exact S1.out | exact S2.out | exact HH.out.2 _ (b7.alloc b7.size _)))
    (first
      | (go_at_call 23; refine (R7 w3.drew).out.mono ?_; rintro _ w4 ⟨rfl, hT4, b4, -⟩; (have b5 := hb1.drew.trans (b4.mono (by simp))); (have S1 := Lib.hid (HH.out.2 w4 b5)))
      | (go_at_call 24; refine (R8 w4).out.mono ?_; rintro _ w6 ⟨g8, rfl, hg8, hS8, b6⟩; (have b7 := b5.trans (b6.mono b5.size)); (have S2 := Lib.hid (HH.out.2 w6 b7)))
      | fail)
  clear S0 S1 S2 HH R7 R8 x0 x1 x2 x3
  have hgm : (w3.drew).heap.size = w3.heap.size := by simp
  have hgm4 : w3.heap.size < w4.heap.size := by have := hT4.lt; simpa using this
  have hg86 : g8 < w6.heap.size := SRt.lt (hS8 [])
  have hb4 := b4.size
  have hO3 := hO3.out
  have hw3 := b3.size
  have hbA : Below w3.heap.size w3 w6 := b7
  have hA6 := hO3.1.below hbA (by omega)
  have hN6 := hO3.2.1.below hbA (by omega)
  have hR6 := hO3.2.2.below hbA (by omega)
  have hT6 := hT4.below b6 hT4.lt
  have bw6 := b3.trans (b7.mono b3.size)
  have hfin : Hid (RS false (fun k => B ≤ k) (w6.alloc (.cells (rnc (NM.new t i.toNat dr l) (.slice A t.ns.length c) (.slice none 0 0) (.slice none 0 0) ⟨w3.heap.size, g8, ga, gn, gr⟩ false) 91)) w6.heap.size (NM.new t i.toNat dr l)) := Lib.hid ⟨⟨w3.heap.size, g8, ga, gn, gr⟩, by
    obtain ⟨⟨hv, hvB⟩, hu, huB⟩ := hvu.out
    have bw := bw6.alloc bw6.size (.cells (rnc (NM.new t i.toNat dr l) (.slice A t.ns.length c) (.slice none 0 0) (.slice none 0 0) ⟨w3.heap.size, g8, ga, gn, gr⟩ false) 91)
    have hz23 : w.heap.size ≤ w2.heap.size := b2.size
    have own : ∀ f, f ∈ ga :: (⟨w3.heap.size, g8, ga, gn, gr⟩ : RX).own w6.heap.size → w.heap.size ≤ f := fun f hf => by
      simp only [RX.own, List.mem_cons, List.not_mem_nil, or_false] at hf
      omega
    refine ⟨⟨_, _, _, _, Blk.new w6 _ rfl _ _, hA6.alloc _, ⟨(hv.below bw).more bw.size, fun f hf h0 e => ?_, fun h0 k e => hvB h0 k e, SeesI.nil, fun f hf e => by simp [vblk] at e, fun h0 => absurd rfl h0, fun k e => by simp [vblk] at e, DatG.nil, (hu.below bw).more bw.size, fun f hf h0 e => ?_, fun h0 k e => huB h0 k e⟩⟩, ⟨hT6.1.alloc _, hT6.2⟩, (hS8 _).below ((Below.refl _ _).alloc (Nat.le_refl _) _), hN6.alloc _, hR6.alloc _, ?_, fun k hk => Nat.le_trans hBw (own k hk), H2L.out, (by show 0 ≤ 4; omega), fun k hk => ⟨by show 0 < 16; omega, by show 0 < 16; omega, Nat.or_self 0⟩⟩
    · have := seesT_lt hv h0 e
      have := own f (List.mem_cons_of_mem _ hf)
      omega
    · have := seesR_lt hu h0 e
      have := own f (List.mem_cons_of_mem _ hf)
      omega
    · simp only [RX.own, List.nodup_cons, List.mem_cons, List.not_mem_nil, or_false, not_or, List.nodup_nil, and_true, not_false_eq_true]
      omega⟩
  have hbfin : Hid (Below w.heap.size w (w6.alloc (.cells (rnc (NM.new t i.toNat dr l) (.slice A t.ns.length c) (.slice none 0 0) (.slice none 0 0) ⟨w3.heap.size, g8, ga, gn, gr⟩ false) 91))) := Lib.hid (bw6.alloc bw6.size _)
  have eI : ((i.toNat : Nat) : Int) = i := by omega
  unfold rnc NM.new at hfin hbfin
  simp only [eI] at hfin hbfin
  go_wp2
  go_ret2
  exact ⟨_, rfl, hfin.out, hbfin.out⟩
end Go.Proofs.YtpdenmcacaajkaaGreat

/-! ### NpT -/
namespace Go.Proofs.YtpdenmcacaajkaaGreat
open Go.RowKit
open Fr (St F)
/-- A node and the document's, apart, of blocks from B on, none of them in P. -/
structure Two (B : Nat) (P : List Nat) (q : Bool → Prop) (W : World) (g1 g2 : Nat) (m1 m2 : NM) : Prop where
  ex : ∃ F1 F2, NAt F1 W g1 m1 ∧ RN q F2 W g2 m2 ∧ (∀ f, f ∈ F1 → B ≤ f ∧ f ∉ P) ∧ (∀ f, f ∈ F2 → B ≤ f ∧ f ∉ P ∧ f < W.heap.size) ∧ (∀ f, f ∈ F1 → f ∉ F2)
  lo : B ≤ W.heap.size
  p : ∀ p, p ∈ P → p < W.heap.size
section
variable {B : Nat} {P : List Nat} {q q' : Bool → Prop} {w w' W W' : World} {g1 g2 : Nat} {m1 m2 m m' : NM}
theorem Two.nj1 (h : Two B P q W g1 g2 m1 m2) : NJ m1 := by
  obtain ⟨F1, F2, h1, -⟩ := h.ex
  obtain ⟨b, -, hi⟩ := h1.a
  exact hi.j
theorem Two.nj2 (h : Two B P q W g1 g2 m1 m2) : NJ m2 := by
  obtain ⟨F1, F2, -, h2, -⟩ := h.ex
  exact h2.j
theorem Two.below (h : Two B P q W g1 g2 m1 m2) (b : Below W.heap.size W W') : Two B P q W' g1 g2 m1 m2 := by
  obtain ⟨F1, F2, h1, h2, h3, h4, h5⟩ := h.ex
  have hs := b.size
  exact ⟨⟨F1, F2, h1.keep hs fun f hf => b.block f (h1.lt f hf), h2.keep hs fun f hf => b.block f (h4 f hf).2.2, h3, fun f hf => ⟨(h4 f hf).1, (h4 f hf).2.1, Nat.lt_of_lt_of_le (h4 f hf).2.2 hs⟩, h5⟩, Nat.le_trans h.lo hs, fun p hp => Nat.lt_of_lt_of_le (h.p p hp) hs⟩
/-- What was made since is guarded. -/
theorem Two.add (h : Two B P q W g1 g2 m1 m2) (b : Below W.heap.size W W') (L : List Nat) (hL : ∀ f, f ∈ L → W.heap.size ≤ f ∧ f < W'.heap.size) : Two B (L ++ P) q W' g1 g2 m1 m2 := by
  obtain ⟨F1, F2, h1, h2, h3, h4, h5⟩ := h.ex
  have hs := b.size
  refine ⟨⟨F1, F2, h1.keep hs fun f hf => b.block f (h1.lt f hf), h2.keep hs fun f hf => b.block f (h4 f hf).2.2, fun f hf => ⟨(h3 f hf).1, fun hm => ?_⟩, fun f hf => ⟨(h4 f hf).1, fun hm => ?_, Nat.lt_of_lt_of_le (h4 f hf).2.2 hs⟩, h5⟩, Nat.le_trans h.lo hs, fun p hp => ?_⟩
  · rcases List.mem_append.1 hm with hm | hm
    · have := (hL f hm).1; have := h1.lt f hf; omega
    · exact (h3 f hf).2 hm
  · rcases List.mem_append.1 hm with hm | hm
    · have := (hL f hm).1; have := (h4 f hf).2.2; omega
    · exact (h4 f hf).2.1 hm
  · rcases List.mem_append.1 hp with hp | hp
    · exact (hL p hp).2
    · exact Nat.lt_of_lt_of_le (h.p p hp) hs
theorem Two.less {L : List Nat} (h : Two B (L ++ P) q W g1 g2 m1 m2) : Two B P q W g1 g2 m1 m2 := by
  obtain ⟨F1, F2, h1, h2, h3, h4, h5⟩ := h.ex
  exact ⟨⟨F1, F2, h1, h2, fun f hf => ⟨(h3 f hf).1, fun hm => (h3 f hf).2 (List.mem_append_right _ hm)⟩, fun f hf => ⟨(h4 f hf).1, fun hm => (h4 f hf).2.1 (List.mem_append_right _ hm), (h4 f hf).2.2⟩, h5⟩, h.lo, fun p hp => h.p p (List.mem_append_right _ hp)⟩
theorem rn_lts {Fs : List Nat} {g : Nat} (h : RN q Fs W g m) : ∃ Fs', RN q Fs' W g m ∧ (∀ f, f ∈ Fs' → f ∈ Fs ∧ f < W.heap.size) := by
  obtain ⟨⟨b, x, hq, hr⟩, j⟩ := h
  refine ⟨Fs.filter fun f => decide (f < W.heap.size), ⟨⟨b, x, hq, hr.cut fun k hk hl => List.mem_filter.2 ⟨hk, decide_eq_true hl⟩⟩, j⟩, fun f hf => ?_⟩
  obtain ⟨h1, h2⟩ := List.mem_filter.1 hf
  exact ⟨h1, of_decide_eq_true h2⟩
theorem bw_kq {F : List Nat} (hk : Kq F w w') (hF : ∀ f, f ∈ F → B ≤ f ∧ f ∉ P) (hB : B ≤ w.heap.size) (hP : ∀ p, p ∈ P → p < w.heap.size) : Bw B P w w' :=
  ⟨hk.below (fun f hm => (hF f hm).1) hB, fun p hp => hk.block p (hP p hp) fun hm => (hF p hm).2 hp⟩
/-- The node's own call. -/
theorem two_n (h : Two B P q w g1 g2 m1 m2) (e' : Ending → Prop) {fn : FuncId} {args : Array Value}
    (hc : ∀ F, NAt F w g1 m1 → Calls Tryz.prog fn args w fun e w' => ∃ F', e' e ∧ NAt F' w' g1 m ∧ Eff F F' w w') :
    Calls Tryz.prog fn args w fun e w' => e' e ∧ Two B P q w' g1 g2 m m2 ∧ Bw B P w w' := by
  obtain ⟨F1, F2, h1, h2, h3, h4, h5⟩ := h.ex
  refine (hc F1 h1).mono ?_
  rintro e w' ⟨F', he, h1', hk, hf⟩
  have hs := hk.size
  refine ⟨he, ⟨⟨F', F2, h1', h2.keep hs fun f hm => hk.block f (h4 f hm).2.2 fun hm1 => h5 f hm1 hm, fun f hm => ?_, fun f hm => ⟨(h4 f hm).1, (h4 f hm).2.1, Nat.lt_of_lt_of_le (h4 f hm).2.2 hs⟩, fun f hm hm2 => ?_⟩, Nat.le_trans h.lo hs, fun p hp => Nat.lt_of_lt_of_le (h.p p hp) hs⟩, bw_kq hk h3 h.lo h.p⟩
  · rcases hf f hm with h' | h'
    · exact h3 f h'
    · exact ⟨Nat.le_trans h.lo h', fun hp => by have := h.p f hp; omega⟩
  · rcases hf f hm with h' | h'
    · exact h5 f h' hm2
    · have := (h4 f hm2).2.2; omega
/-- The document's own call. -/
theorem two_x (h : Two B P q w g1 g2 m1 m2) (e' : Ending → Prop) {fn : FuncId} {args : Array Value}
    (hc : ∀ F, RN q F w g2 m2 → Calls Tryz.prog fn args w fun e w' => ∃ F', e' e ∧ RN q' F' w' g2 m ∧ Eff F F' w w') :
    Calls Tryz.prog fn args w fun e w' => e' e ∧ Two B P q' w' g1 g2 m1 m ∧ Bw B P w w' := by
  obtain ⟨F1, F2, h1, h2, h3, h4, h5⟩ := h.ex
  refine (hc F2 h2).mono ?_
  rintro e w' ⟨F'', he, h2'', hk, hf''⟩
  obtain ⟨F', h2', hfl⟩ := rn_lts h2''
  have hf : ∀ f, f ∈ F' → f ∈ F2 ∨ w.heap.size ≤ f := fun f hm => hf'' f (hfl f hm).1
  have hs := hk.size
  refine ⟨he, ⟨⟨F1, F', h1.keep hs fun f hm => hk.block f (h1.lt f hm) fun hm2 => h5 f hm hm2, h2', h3, fun f hm => ?_, fun f hm hm2 => ?_⟩, Nat.le_trans h.lo hs, fun p hp => Nat.lt_of_lt_of_le (h.p p hp) hs⟩, bw_kq hk (fun f hm => ⟨(h4 f hm).1, (h4 f hm).2.1⟩) h.lo h.p⟩
  · rcases hf f hm with h' | h'
    · exact ⟨(h4 f h').1, (h4 f h').2.1, (hfl f hm).2⟩
    · exact ⟨Nat.le_trans h.lo h', fun hp => by have := h.p f hp; omega, (hfl f hm).2⟩
  · rcases hf f hm2 with h' | h'
    · exact h5 f hm h'
    · have := h1.lt f hm; omega
/-! ### The acts of both. -/
theorem two_on1 (a : Int) (h : Two B P q w g1 g2 m m2) : Calls Tryz.prog 25 #[.pointer (some ⟨g1, 0, none⟩), .int .i64 a] w fun e w' => e = .returned (.int .i64 (m.onE a)) ∧ Two B P q w' g1 g2 (m.on a) m2 ∧ Bw B P w w' := two_n h _ fun _ hn => nodeApi.on a hn
theorem two_on2 (a : Int) (h : Two B P q w g1 g2 (m.on a) m) : Calls Tryz.prog 26 #[.pointer (some ⟨g2, 0, none⟩), .int .i64 a] w fun e w' => e = .returned (.int .i64 (m.onE a)) ∧ Two B P anyB w' g1 g2 (m.on a) (m.on a) ∧ Bw B P w w' := two_x h _ fun _ hr => rn_on a hr h.nj1
theorem two_off1 (h : Two B P q w g1 g2 m m2) : Calls Tryz.prog 27 #[.pointer (some ⟨g1, 0, none⟩)] w fun e w' => e = .returned (.tuple #[]) ∧ Two B P q w' g1 g2 m.off m2 ∧ Bw B P w w' := two_n h _ fun _ hn => nodeMore.off hn
theorem two_off2 (h : Two B P q w g1 g2 m.off m) : Calls Tryz.prog 28 #[.pointer (some ⟨g2, 0, none⟩)] w fun e w' => e = .returned (.tuple #[]) ∧ Two B P anyB w' g1 g2 m.off m.off ∧ Bw B P w w' := two_x h _ fun _ hr => rn_off hr h.nj1
theorem two_write1 {v : Value} {l : List Int} (h : Two B P q w g1 g2 m m2) (hv : SeesL w w.heap.size v l) (hl : bytesL l) : Calls Tryz.prog 29 #[.pointer (some ⟨g1, 0, none⟩), v] w fun e w' => e = .returned (.int .i64 (m.writeE l)) ∧ Two B P q w' g1 g2 (m.write l) m2 ∧ Bw B P w w' := two_n h _ fun _ hn => nodeMore.write hn hv hl
theorem two_write2 {v : Value} {l : List Int} (h : Two B P q w g1 g2 (m.write l) m) (hv : SeesL w w.heap.size v l) : Calls Tryz.prog 30 #[.pointer (some ⟨g2, 0, none⟩), v] w fun e w' => e = .returned (.int .i64 (m.writeE l)) ∧ Two B P anyB w' g1 g2 (m.write l) (m.write l) ∧ Bw B P w w' := two_x h _ fun _ hr => rn_write hr hv h.nj1
theorem two_take1 {vx vy : Value} (hd : Hn) (h : Two B P q w g1 g2 m m2) (hh : HOk w hd vx vy) (ha : m.ty.a < 900) (hf : m.ty.f < 900) (ht : -4611686018427387904 ≤ m.tm ∧ m.tm ≤ 4611686018427387904) : Calls Tryz.prog 36 #[.pointer (some ⟨g1, 0, none⟩), hdV hd vx vy] w fun e w' => e = .returned (.tuple #[]) ∧ Two B P q w' g1 g2 (m.take hd) m2 ∧ Bw B P w w' := two_n h _ fun _ hn => nodeApi.take hd hn hh.x hh.bx hh.y hh.by_ ha hf ht hh.o
theorem two_take2 {vx vy : Value} (hd : Hn) (h : Two B P (isS m.se) w g1 g2 (m.take hd) m) (hh : HOk w hd vx vy) (ha : m.ty.a < 900) (hf : m.ty.f < 900) (ht : -4611686018427387904 ≤ m.tm ∧ m.tm ≤ 4611686018427387904) : Calls Tryz.prog 37 #[.pointer (some ⟨g2, 0, none⟩), hdV hd vx vy] w fun e w' => e = .returned (.tuple #[]) ∧ Two B P anyB w' g1 g2 (m.take hd) (m.take hd) ∧ Bw B P w w' := two_x h _ fun _ hr => rn_take hd hr hh ha hf ht h.nj1
/-- Both send: the same bytes, each in new memory. -/
theorem two_send (h : Two B P q w g1 g2 m m) (ha : m.ty.a < 1000) : Calls Tryz.prog 33 #[.pointer (some ⟨g1, 0, none⟩)] w fun e w1 => ∃ v1, e = .returned v1 ∧ SeesL w1 w1.heap.size v1 m.sent ∧ Bw B P w w1 ∧
    Calls Tryz.prog 34 #[.pointer (some ⟨g2, 0, none⟩)] w1 fun e w2 => ∃ v2, e = .returned v2 ∧ SeesL w2 w2.heap.size v2 m.sent ∧ SeesL w2 w2.heap.size v1 m.sent ∧ Two B P (isS m.sendS.se) w2 g1 g2 m.sendS m.sendS ∧ Bw B P w1 w2 := by
  obtain ⟨F1, F2, h1, h2, h3, h4, h5⟩ := h.ex
  refine (sendOwn h1).mono ?_
  rintro _ w1 ⟨v1, F', rfl, hv, h1', hk, hf⟩
  have hs := hk.size
  have h2' := h2.keep hs fun f hm => hk.block f (h4 f hm).2.2 fun hm1 => h5 f hm1 hm
  have j : NJ m.sendS := by
    obtain ⟨b, -, hi⟩ := h1'.a
    exact hi.j
  have hT : Two B P q w1 g1 g2 m.sendS m := ⟨⟨F', F2, h1', h2', fun f hm => by
    rcases hf f hm with h' | h'
    · exact h3 f h'
    · exact ⟨Nat.le_trans h.lo h', fun hp => by have := h.p f hp; omega⟩, fun f hm => ⟨(h4 f hm).1, (h4 f hm).2.1, Nat.lt_of_lt_of_le (h4 f hm).2.2 hs⟩, fun f hm hm2 => by
    rcases hf f hm with h' | h'
    · exact h5 f h' hm2
    · have := (h4 f hm2).2.2; omega⟩, Nat.le_trans h.lo hs, fun p hp => Nat.lt_of_lt_of_le (h.p p hp) hs⟩
  refine ⟨v1, rfl, hv.sees, bw_kq hk h3 h.lo h.p, ?_⟩
  refine (rn_send h2' ha j).mono ?_
  rintro _ w2 ⟨v2, F'', rfl, hv2, h2'', hk2, hf2''⟩
  obtain ⟨F3, h3', hfl⟩ := rn_lts h2''
  have hf2 : ∀ f, f ∈ F3 → f ∈ F2 ∨ w1.heap.size ≤ f := fun f hm => hf2'' f (hfl f hm).1
  have hs2 := hk2.size
  refine ⟨v2, rfl, hv2.sees, ?_, ⟨⟨F', F3, h1'.keep hs2 fun f hm => hk2.block f (h1'.lt f hm) fun hm2 => ?_, h3', ?_, fun f hm => ?_, fun f hm hm2 => ?_⟩, Nat.le_trans hT.lo hs2, fun p hp => Nat.lt_of_lt_of_le (hT.p p hp) hs2⟩, bw_kq hk2 (fun f hm => ⟨(h4 f hm).1, (h4 f hm).2.1⟩) hT.lo hT.p⟩
  · have hs1 := hv.sees
    refine ⟨?_⟩
    obtain ⟨A, c, rfl, q1, q2, q3, q4⟩ := hs1.at_
    refine ⟨A, c, rfl, q1, q2, fun h0 => ?_, q4⟩
    obtain ⟨bl, off, rfl, hb, hc⟩ := q3 h0
    refine ⟨bl, off, rfl, Nat.lt_of_lt_of_le hb hs2, fun jj hj => ?_⟩
    rw [← hc jj hj]
    have e : w2.heap[bl]? = w1.heap[bl]? := hk2.block bl hb fun hm => by
      have := (h4 bl hm).2.2
      have := (hv.lt bl rfl).1
      omega
    simp only [World.cell?, e]
  · rcases hf f hm with h' | h'
    · exact h5 f h' hm2
    · have := (h4 f hm2).2.2; omega
  · exact fun f hm => by
      rcases hf f hm with h' | h'
      · exact h3 f h'
      · exact ⟨Nat.le_trans h.lo h', fun hp => by have := h.p f hp; omega⟩
  · rcases hf2 f hm with h' | h'
    · exact ⟨(h4 f h').1, (h4 f h').2.1, (hfl f hm).2⟩
    · exact ⟨Nat.le_trans hT.lo h', fun hp => by have := hT.p f hp; omega, (hfl f hm).2⟩
  · rcases hf2 f hm2 with h' | h'
    · rcases hf f hm with h'' | h''
      · exact h5 f h'' h'
      · have := (h4 f h').2.2; omega
    · have := h1'.lt f hm; omega
end
end Go.Proofs.YtpdenmcacaajkaaGreat
