/- Texts RaS, RaE, RaN in one. For what each says in front of its theorems. -/
import Derived.Deep.RegionHeld3
import Derived.Test.YtpdenmcacaajkaaGreatPB30
import Derived.Test.YtpdenmcacaajkaaGreatPB36
import Derived.Test.YtpdenmcacaajkaaGreatPB47
/-! ### RaS -/
namespace Go.Proofs.YtpdenmcacaajkaaGreat
open Go.RowKit
open Fr (St F)
set_option maxRecDepth 100000 in
set_option maxHeartbeats 2000000 in
theorem made_ra (b : Bool) (G : Nat → Prop) (g : Nat) (m : NM) (x : RX) (k : Int) (w : World) (h : RA b G w g m x) (hd : bytesL m.da) :
    Calls Tryz.prog 76 #[.pointer (some ⟨g, 0, none⟩), .int .i64 k] w fun e w' => ∃ v, e = .returned v ∧ OwnsL w' w.heap.size v (encR (m.frm k)) ∧ RA true G w' g m x ∧ KG G w w' := by
  have c17 := h.c17
  have f17 := h.frozen 17
  have hg := h.G_
  have h1 := h.sSe true
  have hk1 : Hid (KG G w (w.setCell ⟨g, 17, none⟩ (.bool true))) := Lib.hid (((Only.refl g w).set 17 _).kg hg)
  have hz : (w.setCell ⟨g, 17, none⟩ (.bool true)).heap.size = w.heap.size := by simp [World.setCell]
  clear h
  go_enter Tryz.func76, Tryz.ntmps76
  go_wp2_with fail
  clear c17 f17
  generalize w.setCell ⟨g, 17, none⟩ _ = w1 at *
  obtain ⟨A, c, c15, hD⟩ := h1.c15
  have HV := fun W (hW : Below w1.heap.size w1 W) => Lib.hid (show Calls Tryz.prog 40 #[.pointer (some ⟨g, 0, none⟩)] W fun e w' => e = .returned (.agg #[.int .i64 m.rd, .int .i64 (m.sl : Nat), .int .i64 (m.ty.m : Nat)]) ∧ Below W.heap.size W w' from view_ra true G g m x W (h1.below hW))
  have HE := fun W (hW : Below w1.heap.size w1 W) => Lib.hid (encode_ref (m.frm k) (.slice A m.da.length c) W ((hD.1.1.below hW).more hW.size) hd)
  unfold Enc at HE
  have HS : ∀ W, Below w1.heap.size w1 W → W.cell? ⟨g, 15, none⟩ = some (.slice A m.da.length c) := fun W hW => (hW.cell (p := ⟨g, 15, none⟩) h1.lt).trans c15
  have h1 := Lib.hid h1
  have b0 := (Below.refl w1.heap.size w1).drew
  have S0 := Lib.hid (HS _ b0)
  have HH := Lib.hid HS
  clear HS hD
  go_wp2_with fail
  clear c15
  go_region_held3 (fun W => W.cell? ⟨g, 15, none⟩ = some (.slice A m.da.length c)) ((first | exact S0.out | exact S1.out | exact S2.out))
    (first
      | (go_at_call 40; refine (HV _ b0).out.mono ?_; rintro _ w2 ⟨rfl, b2⟩; (have b3 := b0.trans (b2.mono (by simp))); (have S1 := Lib.hid (HH.out _ b3)))
      | (go_at_call 77; refine (HE _ b3).out.mono ?_; rintro _ w4 ⟨v, rfl, ho, b4⟩; (have b5 := b3.trans (b4.mono b3.size)); (have S2 := Lib.hid (HH.out _ b5)))
      | fail)
  have h5 := Lib.hid (h1.out.below b5)
  have hk5 := Lib.hid (hk1.out.trans (kg_below b5))
  have hz2 : w.heap.size ≤ w2.heap.size := by have := b3.size; omega
  have hf := Lib.hid (ho.base hz2)
  clear S0 S1 S2 HH HV HE h1 ho
  go_wp2
  go_ret
  exact ⟨v, rfl, hf.out, h5.out, hk5.out⟩
set_option maxRecDepth 100000 in
set_option maxHeartbeats 2000000 in
theorem lst_no (b : Bool) (G : Nat → Prop) (g : Nat) (m : NM) (x : RX) (w : World) (h : RA b G w g m x) (hG : GN G w) (hi : m.i < m.t.ns.length) (_hi8 : m.i < 8) (_hd : bytesL m.da) (hw : (m.wt : Int) + 1 < m.me.li) (_hw0 : (m.wt : Int) < m.me.li) (hl : m.me.li ≤ 1000) :
    Calls Tryz.prog 72 #[.pointer (some ⟨g, 0, none⟩)] w fun e w' => e = .returned (.slice none 0 0) ∧ RA b G w' g { m with wt := m.wt + 1 } x ∧ KG G w w' := by
  have c16 := h.c16
  have f16 := h.frozen 16
  have hg := h.G_
  have hwr : IntKind.i64.wrap (((m.wt : Nat) : Int) + 1) = ((m.wt : Nat) : Int) + 1 := IntWalk.i64_in _ (by omega)
  have h1 := h.sWt (m.wt + 1)
  have q1 : decide (((m.wt : Nat) : Int) + 1 < m.me.li) = true := decide_eq_true (by omega)
  rw [show (((m.wt + 1 : Nat)) : Int) = ((m.wt : Nat) : Int) + 1 by push_cast; rfl] at h1
  have hk1 : Hid (KG G w (w.setCell ⟨g, 16, none⟩ (.int .i64 (((m.wt : Nat) : Int) + 1)))) := Lib.hid (((Only.refl g w).set 16 _).kg hg)
  obtain ⟨N, hN⟩ : ∃ N, m.t.ns.length = N := ⟨_, rfl⟩
  obtain ⟨i, hii⟩ : ∃ i, m.i = i := ⟨_, rfl⟩
  obtain ⟨li, hli⟩ : ∃ li, m.me.li = li := ⟨_, rfl⟩
  obtain ⟨bl, off, cn, e0, hbl, ⟨-, -, e2, -⟩, hcn⟩ := h1.defAt hi
  have c0 : _ = some (Value.slice (some ⟨bl, off, none⟩) m.t.ns.length cn) := e0
  have d2 : (w.setCell ⟨g, 16, none⟩ (.int .i64 (((m.wt : Nat) : Int) + 1))).cell? ⟨bl, off + m.i * 4 + 2, none⟩ = some (Value.int .i64 m.me.li) := e2
  have c4 : _ = some (Value.int .i64 (m.i : Nat)) := h1.c4
  have c16' := h1.c16
  rw [show (((m.wt + 1 : Nat)) : Int) = ((m.wt : Nat) : Int) + 1 by push_cast; rfl] at c16'
  clear e0 e2
  rw [hN] at c0
  rw [hii] at c4
  rw [hli, hii] at d2
  rw [hli] at q1
  have hiN : i < N := by rw [← hii, ← hN]; exact hi
  have hcN : N ≤ cn := by rw [← hN]; exact hcn
  clear hii hli hi hcn hw _hw0 hl
  have h1 := Lib.hid h1
  have hGw := hG.up hk1.out.size
  clear hN
  clear h
  go_enter Tryz.func72, Tryz.ntmps72
  go_wp2_with fail
  clear c16 f16
  generalize w.setCell ⟨g, 16, none⟩ _ = w1 at *
  go_quiet (fail)
  go_wp2
  go_ret
  exact ⟨rfl, h1.out.drewN _, hk1.out.trans (kg_below (below_drewN (Below.refl _ _) _))⟩
set_option maxRecDepth 100000 in
set_option maxHeartbeats 2000000 in
theorem lst_yes (b : Bool) (G : Nat → Prop) (g : Nat) (m : NM) (x : RX) (w : World) (h : RA b G w g m x) (hG : GN G w) (hi : m.i < m.t.ns.length) (_hi8 : m.i < 8) (hd : bytesL m.da) (hw : ¬ (m.wt : Int) + 1 < m.me.li) (hw0 : (m.wt : Int) < m.me.li) (hl : m.me.li ≤ 1000) :
    Calls Tryz.prog 72 #[.pointer (some ⟨g, 0, none⟩)] w fun e w' => ∃ v, e = .returned v ∧ OwnsL w' w.heap.size v (encR (({ m.begun with se := true } : NM).frm 3)) ∧ RS true G w' g { m.begun with se := true } ∧ KG G w w' := by
  have c16 := h.c16
  have f16 := h.frozen 16
  have hg := h.G_
  have hwr : IntKind.i64.wrap (((m.wt : Nat) : Int) + 1) = ((m.wt : Nat) : Int) + 1 := IntWalk.i64_in _ (by omega)
  have h1 := h.sWt (m.wt + 1)
  have q1 : decide (((m.wt : Nat) : Int) + 1 < m.me.li) = false := decide_eq_false (by omega)
  rw [show (((m.wt + 1 : Nat)) : Int) = ((m.wt : Nat) : Int) + 1 by push_cast; rfl] at h1
  have hk1 : Hid (KG G w (w.setCell ⟨g, 16, none⟩ (.int .i64 (((m.wt : Nat) : Int) + 1)))) := Lib.hid (((Only.refl g w).set 16 _).kg hg)
  obtain ⟨N, hN⟩ : ∃ N, m.t.ns.length = N := ⟨_, rfl⟩
  obtain ⟨i, hii⟩ : ∃ i, m.i = i := ⟨_, rfl⟩
  obtain ⟨li, hli⟩ : ∃ li, m.me.li = li := ⟨_, rfl⟩
  obtain ⟨bl, off, cn, e0, hbl, ⟨-, -, e2, -⟩, hcn⟩ := h1.defAt hi
  have c0 : _ = some (Value.slice (some ⟨bl, off, none⟩) m.t.ns.length cn) := e0
  have d2 : (w.setCell ⟨g, 16, none⟩ (.int .i64 (((m.wt : Nat) : Int) + 1))).cell? ⟨bl, off + m.i * 4 + 2, none⟩ = some (Value.int .i64 m.me.li) := e2
  have c4 : _ = some (Value.int .i64 (m.i : Nat)) := h1.c4
  have c16' := h1.c16
  rw [show (((m.wt + 1 : Nat)) : Int) = ((m.wt : Nat) : Int) + 1 by push_cast; rfl] at c16'
  clear e0 e2
  rw [hN] at c0
  rw [hii] at c4
  rw [hli, hii] at d2
  rw [hli] at q1
  have hiN : i < N := by rw [← hii, ← hN]; exact hi
  have hcN : N ≤ cn := by rw [← hN]; exact hcn
  clear hii hli hi hcn hw hw0 hl
  have h1 := Lib.hid h1
  have hGw := hG.up hk1.out.size
  clear hN
  clear h
  go_enter Tryz.func72, Tryz.ntmps72
  go_wp2_with fail
  clear c16 f16
  generalize w.setCell ⟨g, 16, none⟩ _ = w1 at *
  go_quiet (fail)
  clear c0 c4 c16' d2
  have hA := Lib.hid (fun n => anew_ra b G g { m with wt := m.wt + 1 } x 2 (w1.drewN n) (h1.out.drewN n) (hGw.up (by simp)))
  clear h1
  go_wp2_with fail
  refine (hA.out _).mono ?_
  rintro _ w2 ⟨rfl, ⟨x2, h2⟩, k2⟩
  have h2 : RA false G w2 g (m.anew 2) x2 := h2
  have c4 : _ = some (Value.int .i64 (m.i : Nat)) := h2.c4
  have c8 := h2.c8
  have f8 := h2.frozen 8
  have h3 : RA false G _ g ({ m.anew 2 with sl := m.i } : NM) x2 := h2.sSl m.i
  have k3 : Hid (KG G w (w2.setCell ⟨g, 8, none⟩ (.int .i64 (m.i : Nat)))) := Lib.hid (((hk1.out.trans (kg_below (below_drewN (Below.refl _ _) _))).trans k2).trans (((Only.refl g w2).set 8 _).kg hg))
  clear h2 k2 hA
  go_wp2_with fail
  clear c4 c8 f8
  generalize w2.setCell ⟨g, 8, none⟩ _ = w3 at *
  have HS : ∀ W, RA false G W g ({ m.anew 2 with sl := m.i } : NM) x2 → W.cell? ⟨g, 9, none⟩ = some (.pointer (some ⟨x2.m, 0, none⟩)) ∧ W.cell? ⟨g, 4, none⟩ = some (.int .i64 (m.i : Nat)) := fun W h => ⟨h.c9, h.c4⟩
  have hd3 := h3.drew
  have S0 := Lib.hid (HS _ hd3)
  have hJ := Lib.hid (join_rt x2.m ⟨0, 0, 0⟩ (m.i : Nat) w3.drew hd3.ty)
  have hgm := h3.gs x2.m (by simp [RX.own])
  have hUp := Lib.hid (fun w4 (hT : TAt 130 w4 x2.m ((⟨0, 0, 0⟩ : TS).join (m.i : Nat))) (o : Only x2.m w3.drew w4) => (show RA false G w4 g m.begun x2 from hd3.upM hT o))
  have hne := h3.ne.2.2.2.2.2.1
  have HT := Lib.hid (fun w4 (o : Only x2.m w3.drew w4) => (show w4.cell? ⟨g, 9, none⟩ = some (.pointer (some ⟨x2.m, 0, none⟩)) ∧ w4.cell? ⟨g, 4, none⟩ = some (.int .i64 (m.i : Nat)) from by
    obtain ⟨p0, p1⟩ := HS _ hd3
    have e1 : w4.heap[g]? = w3.drew.heap[g]? := o.block g hd3.lt (by simpa using hne)
    exact ⟨Eq.trans (by simp only [World.cell?, e1]) p0, Eq.trans (by simp only [World.cell?, e1]) p1⟩))
  clear h3 hd3 HS
  go_region_held3 (fun W => W.cell? ⟨g, 9, none⟩ = some (.pointer (some ⟨x2.m, 0, none⟩)) ∧ W.cell? ⟨g, 4, none⟩ = some (.int .i64 (m.i : Nat))) ((first | exact S0.out | exact S1.out))
    (first
      | (go_at_call 74; refine hJ.out.mono ?_; rintro _ w4 ⟨rfl, hT, o4⟩; (have S1 := Lib.hid (HT.out w4 o4)); (have h5 := Lib.hid (hUp.out w4 hT o4)); (have k5 := Lib.hid ((k3.out.trans (kg_below (Below.refl _ w3).drew)).trans (o4.kg hgm))))
      | fail)
  clear S0 S1 hJ hUp HT hT o4 k3
  have hM := Lib.hid (made_ra false G g m.begun x2 3 w4 h5.out hd)
  go_wp2_with fail
  refine hM.out.mono ?_
  rintro _ w6 ⟨v, rfl, hv, h6, k6⟩
  have hf := Lib.hid (hv.base k5.out.size)
  have h7 := Lib.hid (h6.se_ true)
  have k7 := Lib.hid (k5.out.trans k6)
  clear hM h5 k5 h6 k6 hv
  go_wp2
  go_ret
  exact ⟨v, rfl, hf.out, ⟨x2, h7.out⟩, k7.out⟩
end Go.Proofs.YtpdenmcacaajkaaGreat

/-! ### RaE -/
namespace Go.Proofs.YtpdenmcacaajkaaGreat
open Go.RowKit
def Ent (G : Nat → Prop) (g : Nat) (m : NM) (w : World) : Prop := Calls Tryz.prog 73 #[.pointer (some ⟨g, 0, none⟩)] w fun e w' => e = .returned (.bool (decide (m.enter.st = 4))) ∧ RS false G w' g m.enter ∧ KG G w w'
set_option maxRecDepth 100000 in
set_option maxHeartbeats 2000000 in
theorem ent_A (G : Nat → Prop) (g : Nat) (m : NM) (x : RX) (w : World) (h : RA false G w g m x) (hG : GN G w) (hst : m.st = 2) (_ha : m.ty.a < 1000) (h0 : m.ty.a = 0) : Ent G g m w := by
  unfold Ent
  have e : m.enter = m.anew 1 := by
    have ka : m.alone ↔ m.ty.a = 0 := Iff.rfl
    have kc : m.clique ↔ m.ty.f ≤ m.ty.a := Iff.rfl
    unfold NM.enter
    rw [if_pos hst, if_pos (ka.2 h0)]
  have c6 : _ = some (Value.int .i64 ((m.st : Nat) : Int)) := h.c6
  rw [hst] at c6
  have c6 : w.cell? ⟨g, 6, none⟩ = some (.int .i64 2) := c6
  have c9 := h.c9
  have hg := h.G_
  have ca := h.ty.c1
  rw [h0] at ca
  have ca : w.cell? ⟨x.m, 1, none⟩ = some (.int .i64 0) := ca
  have hA := Lib.hid (fun W (hr : RA false G W g m x) (hgn : GN G W) => anew_ra false G g m x 1 W hr hgn)
  have hk := Lib.hid h
  clear h
  go_enter Tryz.func73, Tryz.ntmps73
  go_wp2_with fail
  refine (hA.out w hk.out hG).mono ?_
  rintro _ w2 ⟨rfl, ⟨x2, h2⟩, k2⟩
  have d6 : w2.cell? ⟨g, 6, none⟩ = some (.int .i64 1) := h2.c6
  have h2 := Lib.hid h2
  clear hA c6 c9 ca
  go_wp2
  go_ret
  rw [e]
  exact ⟨rfl, ⟨x2, h2.out⟩, k2⟩
set_option maxRecDepth 100000 in
set_option maxHeartbeats 2000000 in
theorem ent_B (G : Nat → Prop) (g : Nat) (m : NM) (x : RX) (w : World) (h : RA false G w g m x) (_hG : GN G w) (hst : m.st = 2) (_ha : m.ty.a < 1000) (h0 : m.ty.a ≠ 0) : Ent G g m w := by
  unfold Ent
  have e : m.enter = { m with st := 4 } := by
    have ka : m.alone ↔ m.ty.a = 0 := Iff.rfl
    have kc : m.clique ↔ m.ty.f ≤ m.ty.a := Iff.rfl
    unfold NM.enter
    rw [if_pos hst, if_neg (fun h => h0 (ka.1 h))]
  have c6 : _ = some (Value.int .i64 ((m.st : Nat) : Int)) := h.c6
  rw [hst] at c6
  have c6 : w.cell? ⟨g, 6, none⟩ = some (.int .i64 2) := c6
  have c9 := h.c9
  have hg := h.G_
  have ca := h.ty.c1
  have qa : (((m.ty.a : Nat) : Int) == 0) = false := by rw [beq_eq_false_iff_ne]; omega
  have f6 := h.frozen 6
  have h2 := Lib.hid (h.sSt 4)
  have k2 : Hid (KG G w (w.setCell ⟨g, 6, none⟩ (.int .i64 (4 : Nat)))) := Lib.hid (((Only.refl g w).set 6 _).kg hg)
  clear h
  go_enter Tryz.func73, Tryz.ntmps73
  go_wp2
  go_ret
  rw [e]
  exact ⟨rfl, ⟨x, h2.out⟩, k2.out⟩
set_option maxRecDepth 100000 in
set_option maxHeartbeats 2000000 in
theorem ent_C (G : Nat → Prop) (g : Nat) (m : NM) (x : RX) (w : World) (h : RA false G w g m x) (_hG : GN G w) (hst : m.st = 3) (ha : m.ty.a < 1000) (h0 : m.ty.a ≠ 0) (hc : m.ty.f ≤ m.ty.a) : Ent G g m w := by
  unfold Ent
  have e : m.enter = { m with st := 4 } := by
    have ka : m.alone ↔ m.ty.a = 0 := Iff.rfl
    have kc : m.clique ↔ m.ty.f ≤ m.ty.a := Iff.rfl
    unfold NM.enter
    rw [if_neg (by omega), if_pos hst, if_pos ⟨fun h => h0 (ka.1 h), kc.2 hc⟩]
  have c6 : _ = some (Value.int .i64 ((m.st : Nat) : Int)) := h.c6
  rw [hst] at c6
  have c6 : w.cell? ⟨g, 6, none⟩ = some (.int .i64 3) := c6
  have c9 := h.c9
  have hg := h.G_
  have ca := h.ty.c1
  have qa : (((m.ty.a : Nat) : Int) == 0) = false := by rw [beq_eq_false_iff_ne]; omega
  have hC := Lib.hid (fun W (hr : RA false G W g m x) => clique_rt x.m m.ty W hr.ty ha)
  rw [decide_eq_true hc] at hC
  have hk := Lib.hid h
  have H2 := Lib.hid (fun n => And.intro ((h.drewN n).c6) (And.intro ((h.drewN n).frozen 6) (And.intro ((h.drewN n).sSt 4) ((kg_below (G := G) (below_drewN (Below.refl _ w) n)).trans (((Only.refl g (w.drewN n)).set 6 (.int .i64 (4 : Nat))).kg hg)))))
  clear h
  go_enter Tryz.func73, Tryz.ntmps73
  go_wp2_with fail
  refine (hC.out w hk.out).mono ?_
  rintro _ w2 ⟨rfl, n, rfl⟩
  obtain ⟨d6, f6, h2, k2⟩ := H2.out n
  have h2 := Lib.hid h2
  have k2 := Lib.hid k2
  go_wp2
  go_ret
  rw [e]
  exact ⟨rfl, ⟨x, h2.out⟩, k2.out⟩
set_option maxRecDepth 100000 in
set_option maxHeartbeats 2000000 in
theorem ent_D0 (G : Nat → Prop) (g : Nat) (m : NM) (x : RX) (w : World) (h : RA false G w g m x) (_hG : GN G w) (hst : m.st = 3) (_ha : m.ty.a < 1000) (h0 : m.ty.a = 0) : Ent G g m w := by
  unfold Ent
  have e : m.enter = { m with ty := m.ty.clear } := by
    have ka : m.alone ↔ m.ty.a = 0 := Iff.rfl
    have kc : m.clique ↔ m.ty.f ≤ m.ty.a := Iff.rfl
    unfold NM.enter
    rw [if_neg (by omega), if_pos hst, if_neg (fun h => h.1 (ka.2 h0))]
  have c6 : _ = some (Value.int .i64 ((m.st : Nat) : Int)) := h.c6
  rw [hst] at c6
  have c6 : w.cell? ⟨g, 6, none⟩ = some (.int .i64 3) := c6
  have c9 := h.c9
  have hg := h.G_
  have ca := h.ty.c1
  rw [h0] at ca
  have ca : w.cell? ⟨x.m, 1, none⟩ = some (.int .i64 0) := ca
  have hL := Lib.hid (clear_rt x.m m.ty w h.ty)
  have hk := Lib.hid h
  have hgm := h.gs x.m (by simp [RX.own])
  clear h
  go_enter Tryz.func73, Tryz.ntmps73
  go_wp2_with fail
  refine hL.out.mono ?_
  rintro _ w3 ⟨rfl, hT, o3⟩
  have h3 : RA false G w3 g { m with ty := m.ty.clear } x := hk.out.upM hT o3
  have k3 := Lib.hid ((o3.kg hgm))
  have d6 : w3.cell? ⟨g, 6, none⟩ = some (.int .i64 ((m.st : Nat) : Int)) := h3.c6
  rw [hst] at d6
  have d6 : w3.cell? ⟨g, 6, none⟩ = some (.int .i64 3) := d6
  have h3 := Lib.hid h3
  clear hT o3
  go_wp2
  go_ret
  rw [e]
  exact ⟨by show _ = Ending.returned (.bool (decide (m.st = 4))); rw [hst]; rfl, ⟨x, h3.out⟩, k3.out⟩
set_option maxRecDepth 100000 in
set_option maxHeartbeats 2000000 in
theorem ent_D1 (G : Nat → Prop) (g : Nat) (m : NM) (x : RX) (w : World) (h : RA false G w g m x) (_hG : GN G w) (hst : m.st = 3) (ha : m.ty.a < 1000) (h0 : m.ty.a ≠ 0) (hc : ¬ m.ty.f ≤ m.ty.a) : Ent G g m w := by
  unfold Ent
  have e : m.enter = { m with ty := m.ty.clear } := by
    have ka : m.alone ↔ m.ty.a = 0 := Iff.rfl
    have kc : m.clique ↔ m.ty.f ≤ m.ty.a := Iff.rfl
    unfold NM.enter
    rw [if_neg (by omega), if_pos hst, if_neg (fun h => hc (kc.1 h.2))]
  have c6 : _ = some (Value.int .i64 ((m.st : Nat) : Int)) := h.c6
  rw [hst] at c6
  have c6 : w.cell? ⟨g, 6, none⟩ = some (.int .i64 3) := c6
  have c9 := h.c9
  have hg := h.G_
  have ca := h.ty.c1
  have qa : (((m.ty.a : Nat) : Int) == 0) = false := by rw [beq_eq_false_iff_ne]; omega
  have hC := Lib.hid (fun W (hr : RA false G W g m x) => clique_rt x.m m.ty W hr.ty ha)
  rw [decide_eq_false hc] at hC
  have hL := Lib.hid (fun n => clear_rt x.m m.ty (w.drewN n) (h.drewN n).ty)
  have hk := Lib.hid h
  have hgm := h.gs x.m (by simp [RX.own])
  have C := Lib.hid (fun n => And.intro ((h.drewN n).c6) ((h.drewN n).c9))
  clear h
  go_enter Tryz.func73, Tryz.ntmps73
  go_wp2_with fail
  refine (hC.out w hk.out).mono ?_
  rintro _ w2 ⟨rfl, n, rfl⟩
  obtain ⟨d6, d9⟩ := C.out n
  rw [hst] at d6
  go_wp2_with fail
  refine (hL.out n).mono ?_
  rintro _ w3 ⟨rfl, hT, o3⟩
  have h3 : RA false G w3 g { m with ty := m.ty.clear } x := (hk.out.drewN n).upM hT o3
  have k3 := Lib.hid ((kg_below (below_drewN (Below.refl _ w) n)).trans (o3.kg hgm))
  have d6 : w3.cell? ⟨g, 6, none⟩ = some (.int .i64 ((m.st : Nat) : Int)) := h3.c6
  rw [hst] at d6
  have d6 : w3.cell? ⟨g, 6, none⟩ = some (.int .i64 3) := d6
  have h3 := Lib.hid h3
  clear hT o3
  go_wp2
  go_ret
  rw [e]
  exact ⟨by show _ = Ending.returned (.bool (decide (m.st = 4))); rw [hst]; rfl, ⟨x, h3.out⟩, k3.out⟩
set_option maxRecDepth 100000 in
set_option maxHeartbeats 2000000 in
theorem ent_E (G : Nat → Prop) (g : Nat) (m : NM) (x : RX) (w : World) (h : RA false G w g m x) (_hG : GN G w) (hst : m.st = 4) (ha : m.ty.a < 1000) (hc : ¬ m.ty.f ≤ m.ty.a) : Ent G g m w := by
  unfold Ent
  have e : m.enter = { m with st := 5 } := by
    have ka : m.alone ↔ m.ty.a = 0 := Iff.rfl
    have kc : m.clique ↔ m.ty.f ≤ m.ty.a := Iff.rfl
    unfold NM.enter
    rw [if_neg (by omega), if_neg (by omega), if_pos (fun h => hc (kc.1 h))]
  have c6 : _ = some (Value.int .i64 ((m.st : Nat) : Int)) := h.c6
  rw [hst] at c6
  have c6 : w.cell? ⟨g, 6, none⟩ = some (.int .i64 4) := c6
  have c9 := h.c9
  have hg := h.G_
  have ca := h.ty.c1
  have hC := Lib.hid (fun W (hr : RA false G W g m x) => clique_rt x.m m.ty W hr.ty ha)
  rw [decide_eq_false hc] at hC
  have hk := Lib.hid h
  have H2 := Lib.hid (fun n => And.intro ((h.drewN n).c6) (And.intro ((h.drewN n).frozen 6) (And.intro ((h.drewN n).sSt 5) ((kg_below (G := G) (below_drewN (Below.refl _ w) n)).trans (((Only.refl g (w.drewN n)).set 6 (.int .i64 (5 : Nat))).kg hg)))))
  clear h
  generalize (m.ty.a : Nat) = aa at ca
  go_enter Tryz.func73, Tryz.ntmps73
  go_wp2_with fail
  refine (hC.out w hk.out).mono ?_
  rintro _ w2 ⟨rfl, n, rfl⟩
  obtain ⟨d6, f6, h2, k2⟩ := H2.out n
  have h2 := Lib.hid h2
  have k2 := Lib.hid k2
  go_wp2
  go_ret
  rw [e]
  exact ⟨rfl, ⟨x, h2.out⟩, k2.out⟩
set_option maxRecDepth 100000 in
set_option maxHeartbeats 2000000 in
theorem ent_F (G : Nat → Prop) (g : Nat) (m : NM) (x : RX) (w : World) (h : RA false G w g m x) (hG : GN G w) (hst : m.st = 4) (ha : m.ty.a < 1000) (h0 : m.ty.a = 0) (hc : m.ty.f ≤ m.ty.a) : Ent G g m w := by
  unfold Ent
  have e : m.enter = m.anew 1 := by
    have ka : m.alone ↔ m.ty.a = 0 := Iff.rfl
    have kc : m.clique ↔ m.ty.f ≤ m.ty.a := Iff.rfl
    unfold NM.enter
    rw [if_neg (by omega), if_neg (by omega), if_neg (fun h => h (kc.2 hc)), if_pos (ka.2 h0)]
  have c6 : _ = some (Value.int .i64 ((m.st : Nat) : Int)) := h.c6
  rw [hst] at c6
  have c6 : w.cell? ⟨g, 6, none⟩ = some (.int .i64 4) := c6
  have c9 := h.c9
  have hg := h.G_
  have ca := h.ty.c1
  rw [h0] at ca
  have ca : w.cell? ⟨x.m, 1, none⟩ = some (.int .i64 0) := ca
  have hC := Lib.hid (fun W (hr : RA false G W g m x) => clique_rt x.m m.ty W hr.ty ha)
  rw [decide_eq_true hc] at hC
  have hA := Lib.hid (fun W (hr : RA false G W g m x) (hgn : GN G W) => anew_ra false G g m x 1 W hr hgn)
  have hk := Lib.hid h
  clear h
  go_enter Tryz.func73, Tryz.ntmps73
  go_wp2_with fail
  refine (hC.out w hk.out).mono ?_
  rintro _ w1 ⟨rfl, n, rfl⟩
  go_wp2_with fail
  refine (hA.out _ (hk.out.drewN n) (hG.up (by simp))).mono ?_
  rintro _ w2 ⟨rfl, ⟨x2, h2⟩, k2⟩
  have d6 : w2.cell? ⟨g, 6, none⟩ = some (.int .i64 1) := h2.c6
  have h2 := Lib.hid h2
  clear hA c6 c9 ca
  go_wp2
  go_ret
  rw [e]
  exact ⟨rfl, ⟨x2, h2.out⟩, (kg_below (below_drewN (Below.refl _ w) n)).trans k2⟩
set_option maxRecDepth 100000 in
set_option maxHeartbeats 2000000 in
theorem ent_G (G : Nat → Prop) (g : Nat) (m : NM) (x : RX) (w : World) (h : RA false G w g m x) (_hG : GN G w) (hst : m.st = 4) (ha : m.ty.a < 1000) (h0 : m.ty.a ≠ 0) (hc : m.ty.f ≤ m.ty.a) : Ent G g m w := by
  unfold Ent
  have e : m.enter = m := by
    have ka : m.alone ↔ m.ty.a = 0 := Iff.rfl
    have kc : m.clique ↔ m.ty.f ≤ m.ty.a := Iff.rfl
    unfold NM.enter
    rw [if_neg (by omega), if_neg (by omega), if_neg (fun h => h (kc.2 hc)), if_neg (fun h => h0 (ka.1 h))]
  have c6 : _ = some (Value.int .i64 ((m.st : Nat) : Int)) := h.c6
  rw [hst] at c6
  have c6 : w.cell? ⟨g, 6, none⟩ = some (.int .i64 4) := c6
  have c9 := h.c9
  have hg := h.G_
  have ca := h.ty.c1
  have qa : (((m.ty.a : Nat) : Int) == 0) = false := by rw [beq_eq_false_iff_ne]; omega
  have hC := Lib.hid (fun W (hr : RA false G W g m x) => clique_rt x.m m.ty W hr.ty ha)
  rw [decide_eq_true hc] at hC
  have hk := Lib.hid h
  have C := Lib.hid (fun n => (h.drewN n).c6)
  clear h
  go_enter Tryz.func73, Tryz.ntmps73
  go_wp2_with fail
  refine (hC.out w hk.out).mono ?_
  rintro _ w2 ⟨rfl, n, rfl⟩
  have d6 := C.out n
  rw [hst] at d6
  go_wp2
  go_ret
  rw [e, hst]
  exact ⟨rfl, ⟨x, hk.out.drewN n⟩, kg_below (below_drewN (Below.refl _ w) n)⟩
theorem ent_ra (G : Nat → Prop) (g : Nat) (m : NM) (x : RX) (w : World) (h : RA false G w g m x) (hG : GN G w) (hst : m.st = 2 ∨ m.st = 3 ∨ m.st = 4) (ha : m.ty.a < 1000) : Ent G g m w := by
  rcases hst with hs | hs | hs
  · by_cases h0 : m.ty.a = 0
    · exact ent_A G g m x w h hG hs ha h0
    · exact ent_B G g m x w h hG hs ha h0
  · by_cases h0 : m.ty.a = 0
    · exact ent_D0 G g m x w h hG hs ha h0
    · by_cases hc : m.ty.f ≤ m.ty.a
      · exact ent_C G g m x w h hG hs ha h0 hc
      · exact ent_D1 G g m x w h hG hs ha h0 hc
  · by_cases hc : m.ty.f ≤ m.ty.a
    · by_cases h0 : m.ty.a = 0
      · exact ent_F G g m x w h hG hs ha h0 hc
      · exact ent_G G g m x w h hG hs ha h0 hc
    · exact ent_E G g m x w h hG hs ha hc
end Go.Proofs.YtpdenmcacaajkaaGreat

/-! ### RaN -/
namespace Go.Proofs.YtpdenmcacaajkaaGreat
open Go.RowKit
def Snd (G : Nat → Prop) (g : Nat) (_m m' : NM) (k : Int) (w : World) : Prop := Calls Tryz.prog 34 #[.pointer (some ⟨g, 0, none⟩)] w fun e w' => ∃ v, e = .returned v ∧ OwnsL w' w.heap.size v (if k = 0 then [] else encR (m'.frm k)) ∧ RS m'.se G w' g m' ∧ KG G w w'
theorem set17 {b : Bool} {G : Nat → Prop} {g : Nat} {m : NM} {x : RX} {w : World} (h : RA b G w g m x) : RA false G (w.setCell ⟨g, 17, none⟩ (.bool false)) g m x ∧ KG G w (w.setCell ⟨g, 17, none⟩ (.bool false)) := ⟨h.sSe false, ((Only.refl g w).set 17 _).kg h.G_⟩
set_option maxRecDepth 100000 in
set_option maxHeartbeats 2000000 in
theorem snd_1 (b : Bool) (G : Nat → Prop) (g : Nat) (m : NM) (x : RX) (w : World) (h : RA b G w g m x) (hG : GN G w) (hj : NJ m) (hst : m.st = 1) (hw : (m.wt : Int) + 1 < m.me.li) : Snd G g m { m with wt := m.wt + 1, se := false } 0 w := by
  unfold Snd
  have c17 := h.c17
  have f17 := h.frozen 17
  obtain ⟨h1, k1⟩ := set17 h
  have c6 : _ = some (Value.int .i64 ((m.st : Nat) : Int)) := h1.c6
  rw [hst] at c6
  have c6 : (w.setCell ⟨g, 17, none⟩ (.bool false)).cell? ⟨g, 6, none⟩ = some (.int .i64 1) := c6
  have hL := Lib.hid (lst_no false G g m x _ h1 (hG.up k1.size) hj.i (by have := hj.may.n8; have := hj.i; omega) hj.da.2 hw hj.wt (by have := hj.meB; omega))
  have k1 := Lib.hid k1
  clear h h1 hw hj hst
  go_enter Tryz.func34, Tryz.ntmps34
  go_wp2_with fail
  refine hL.out.mono ?_
  rintro _ w2 ⟨rfl, h2, k2⟩
  have h2 := Lib.hid (h2.se_ false)
  have k2 := Lib.hid (k1.out.trans k2)
  clear c17 f17 c6 hL k1
  go_wp2
  go_ret
  exact ⟨.slice none 0 0, rfl, OwnsL.nil, ⟨x, h2.out⟩, k2.out⟩
set_option maxRecDepth 100000 in
set_option maxHeartbeats 2000000 in
theorem snd_2 (b : Bool) (G : Nat → Prop) (g : Nat) (m : NM) (x : RX) (w : World) (h : RA b G w g m x) (hG : GN G w) (hj : NJ m) (hst : m.st = 1) (hw : ¬ (m.wt : Int) + 1 < m.me.li) : Snd G g m { m.begun with se := true } 3 w := by
  unfold Snd
  have c17 := h.c17
  have f17 := h.frozen 17
  obtain ⟨h1, k1⟩ := set17 h
  have c6 : _ = some (Value.int .i64 ((m.st : Nat) : Int)) := h1.c6
  rw [hst] at c6
  have c6 : (w.setCell ⟨g, 17, none⟩ (.bool false)).cell? ⟨g, 6, none⟩ = some (.int .i64 1) := c6
  have hL := Lib.hid (lst_yes false G g m x _ h1 (hG.up k1.size) hj.i (by have := hj.may.n8; have := hj.i; omega) hj.da.2 hw hj.wt (by have := hj.meB; omega))
  have hz := k1.size
  have k1 := Lib.hid k1
  clear h h1 hw hj hst
  go_enter Tryz.func34, Tryz.ntmps34
  go_wp2_with fail
  refine hL.out.mono ?_
  rintro _ w2 ⟨v, rfl, hv, ⟨x2, h2⟩, k2⟩
  have h2 := Lib.hid h2
  have k2 := Lib.hid (k1.out.trans k2)
  have hf := Lib.hid (hv.base hz)
  clear c17 f17 c6 hL k1 hv
  go_wp2
  go_ret
  exact ⟨v, rfl, hf.out, ⟨x2, h2.out⟩, k2.out⟩
set_option maxRecDepth 100000 in
set_option maxHeartbeats 2000000 in
theorem snd_3 (b : Bool) (G : Nat → Prop) (g : Nat) (m : NM) (x : RX) (w : World) (h : RA b G w g m x) (h5 : m.st ≤ 5) (h1' : m.st ≠ 1) (hst : m.st = 0 ∨ m.st = 5 ∨ m.sl ≠ m.i) : Snd G g m { m with se := false } 0 w := by
  unfold Snd
  have c17 := h.c17
  have f17 := h.frozen 17
  obtain ⟨h1, k1⟩ := set17 h
  have c6 : _ = some (Value.int .i64 ((m.st : Nat) : Int)) := h1.c6
  have c8 := h1.c8
  have c4 := h1.c4
  have hF : Hid (∀ n, RA false G ((w.setCell ⟨g, 17, none⟩ (.bool false)).drewN n) g { m with se := false } x ∧ KG G w ((w.setCell ⟨g, 17, none⟩ (.bool false)).drewN n)) := Lib.hid fun n => ⟨(h1.drewN n).se_ false, k1.trans (kg_below (below_drewN (Below.refl _ _) n))⟩
  clear h h1 k1
  have hcase : m.st = 0 ∨ m.st = 5 ∨ (m.sl ≠ m.i ∧ (m.st = 2 ∨ m.st = 3 ∨ m.st = 4)) := by omega
  clear hst h5 h1'
  rcases hcase with e | e | ⟨e', e | e | e⟩
  all_goals
    rw [e] at c6
    clear e
    try have q : ((((m.sl : Nat) : Int)) != (((m.i : Nat) : Int))) = true := by rw [bne_iff_ne]; omega
    try clear e'
    generalize ((m.sl : Nat) : Int) = y at *
    generalize ((m.i : Nat) : Int) = z at *
    go_enter Tryz.func34, Tryz.ntmps34
    go_wp2_with fail
    go_quiet (fail)
    go_wp2
    go_ret
    exact ⟨.slice none 0 0, rfl, OwnsL.nil, ⟨x, (hF.out _).1⟩, (hF.out _).2⟩
set_option maxRecDepth 100000 in
set_option maxHeartbeats 2000000 in
theorem snd_4 (b : Bool) (G : Nat → Prop) (g : Nat) (m : NM) (x : RX) (w : World) (h : RA b G w g m x) (hG : GN G w) (hst : m.st = 2 ∨ m.st = 3 ∨ m.st = 4) (hs : m.sl = m.i) (ha : m.ty.a < 1000) (he : m.enter.st ≠ 4) : Snd G g m { m.enter with se := false } 0 w := by
  unfold Snd
  have c17 := h.c17
  have f17 := h.frozen 17
  obtain ⟨h1, k1⟩ := set17 h
  have c6 : _ = some (Value.int .i64 ((m.st : Nat) : Int)) := h1.c6
  have c8 := h1.c8
  have c4 := h1.c4
  rw [hs] at c8
  have hE := Lib.hid (fun n => ent_ra G g m x ((w.setCell ⟨g, 17, none⟩ (.bool false)).drewN n) (h1.drewN n) (hG.up (by have := k1.size; simp)) hst ha)
  unfold Ent at hE
  rw [decide_eq_false he] at hE
  have D := Lib.hid (fun n => And.intro ((h1.drewN n).c6) (k1.trans (kg_below (G := G) (below_drewN (Below.refl _ _) n))))
  clear h h1 k1 hs ha he
  rcases hst with e | e | e
  all_goals
    rw [e] at c6 D
    clear e
    generalize ((m.i : Nat) : Int) = z at *
    go_enter Tryz.func34, Tryz.ntmps34
    go_wp2_with fail
    go_quiet (fail)
    obtain ⟨d6, k2⟩ := D.out _
    have k2 := Lib.hid k2
    go_wp2_with fail
    refine (hE.out _).mono ?_
    rintro _ w3 ⟨rfl, ⟨x3, h3⟩, k3⟩
    have h3 := Lib.hid (h3.se_ false)
    have k3 := Lib.hid (k2.out.trans k3)
    clear c17 f17 c6 c8 c4 d6 D hE k2
    go_wp2
    go_ret
    exact ⟨.slice none 0 0, rfl, OwnsL.nil, ⟨x3, h3.out⟩, k3.out⟩
theorem enter_same {m : NM} (h : m.enter.st = 4) : m.enter = { m with st := 4 } := by
  have key : m.enter = { m with st := 4 } ∨ m.enter.st ≠ 4 := by
    unfold NM.enter
    split
    · split
      · exact .inr (by show (1 : Nat) ≠ 4; omega)
      · exact .inl rfl
    · split
      · split
        · exact .inl rfl
        · rename_i h3 _; exact .inr (by show m.st ≠ 4; omega)
      · split
        · exact .inr (by show (5 : Nat) ≠ 4; omega)
        · split
          · exact .inr (by show (1 : Nat) ≠ 4; omega)
          · by_cases e : m.st = 4
            · exact .inl (by rw [← e])
            · exact .inr e
  rcases key with k | k
  · exact k
  · exact absurd h k
/-- What is sent: its kind. -/
def NM.kd (m : NM) : Int := if m.me.inf = true ∨ m.st ≠ 4 ∨ m.rd % 2 = 0 then 2 else 1
set_option maxRecDepth 100000 in
set_option maxHeartbeats 4000000 in
theorem snd_5 (b : Bool) (G : Nat → Prop) (g : Nat) (m : NM) (x : RX) (w : World) (h : RA b G w g m x) (hG : GN G w) (hj : NJ m) (hst : m.st = 2 ∨ m.st = 3 ∨ m.st = 4) (hs : m.sl = m.i) (ha : m.ty.a < 1000) (he : m.enter.st = 4) : Snd G g m { m.enter.joined with se := true } m.kd w := by
  unfold Snd
  rw [if_neg (by unfold NM.kd; split <;> decide)]
  have c17 := h.c17
  have f17 := h.frozen 17
  obtain ⟨h1, k1⟩ := set17 h
  have c6 : _ = some (Value.int .i64 ((m.st : Nat) : Int)) := h1.c6
  have c8 := h1.c8
  have c4 := h1.c4
  rw [hs] at c8
  have hE := Lib.hid (fun n => ent_ra G g m x ((w.setCell ⟨g, 17, none⟩ (.bool false)).drewN n) (h1.drewN n) (hG.up (by have := k1.size; simp)) hst ha)
  unfold Ent at hE
  rw [decide_eq_true he] at hE
  have D := Lib.hid (fun n => And.intro ((h1.drewN n).c6) (k1.trans (kg_below (G := G) (below_drewN (Below.refl _ _) n))))
  have hes := enter_same he
  have hme : m.enter.i = m.i := by rw [hes]
  have ekd : m.kd = if m.me.inf = true ∨ m.st ≠ 4 ∨ m.rd % 2 = 0 then 2 else 1 := rfl
  have hin : m.enter.joined.i < m.enter.joined.t.ns.length := by show m.enter.i < m.enter.t.ns.length; rw [hes]; exact hj.i
  have hdef : m.enter.joined.t.ns.getD m.enter.joined.i default = m.me := by show m.enter.t.ns.getD m.enter.i default = m.me; rw [hes]; rfl
  have hda : bytesL m.enter.joined.da := by show bytesL m.enter.da; rw [hes]; exact hj.da.2
  have hrd : m.enter.joined.rd = m.rd := by show m.enter.rd = m.rd; rw [hes]
  have hrb := hj.rd
  clear h h1 k1 hs ha he hj hes
  generalize hm1 : m.enter = m1 at *
  generalize hm2 : m1.joined = m2 at *
  generalize hk : m.kd = kd at *
  rcases hst with e | e | e
  all_goals
    rw [e] at c6 D
    go_enter Tryz.func34, Tryz.ntmps34
    go_wp2_with fail
    go_quiet (fail)
    obtain ⟨d6, k2⟩ := D.out _
    have k2 := Lib.hid k2
    go_wp2_with fail
    refine (hE.out _).mono ?_
    rintro _ w3 ⟨rfl, ⟨x3, h3⟩, k3⟩
    have k3 := Lib.hid (k2.out.trans k3)
    clear c17 f17 c6 c8 c4 d6 D hE k2
    go_wp2_with fail
    have HS : ∀ W, RA false G W g m1 x3 → W.cell? ⟨g, 9, none⟩ = some (.pointer (some ⟨x3.m, 0, none⟩)) ∧ W.cell? ⟨g, 4, none⟩ = some (.int .i64 (m1.i : Nat)) := fun W h => ⟨h.c9, h.c4⟩
    have hd3 := h3.drew
    have S0 := Lib.hid (HS _ hd3)
    have hJ := Lib.hid (join_rt x3.m m1.ty (m1.i : Nat) w3.drew hd3.ty)
    have hgm := h3.gs x3.m (by simp [RX.own])
    have hUp := Lib.hid (fun w4 (hT : TAt 130 w4 x3.m (m1.ty.join (m1.i : Nat))) (o : Only x3.m w3.drew w4) => hd3.upM hT o)
    have hne := h3.ne.2.2.2.2.2.1
    have HT := Lib.hid (fun w4 (o : Only x3.m w3.drew w4) => (show w4.cell? ⟨g, 9, none⟩ = some (.pointer (some ⟨x3.m, 0, none⟩)) ∧ w4.cell? ⟨g, 4, none⟩ = some (.int .i64 (m1.i : Nat)) from by
      obtain ⟨p0, p1⟩ := HS _ hd3
      have e1 : w4.heap[g]? = w3.drew.heap[g]? := o.block g hd3.lt (by simpa using hne)
      exact ⟨Eq.trans (by simp only [World.cell?, e1]) p0, Eq.trans (by simp only [World.cell?, e1]) p1⟩))
    clear h3 hd3 HS hme
    go_region_held3 (fun W => W.cell? ⟨g, 9, none⟩ = some (.pointer (some ⟨x3.m, 0, none⟩)) ∧ W.cell? ⟨g, 4, none⟩ = some (.int .i64 (m1.i : Nat))) ((first | exact S0.out | exact S1.out))
      (first
        | (go_at_call 74; refine hJ.out.mono ?_; rintro _ w4 ⟨rfl, hT, o4⟩; (have S1 := Lib.hid (HT.out w4 o4)); (have h5 := hUp.out w4 hT o4); (have k5 := Lib.hid ((k3.out.trans (kg_below (Below.refl _ w3).drew)).trans (o4.kg hgm))))
        | fail)
    clear S0 S1 hJ hUp HT hT o4 k3
    have c9 : w4.cell? ⟨g, 9, none⟩ = some (.pointer (some ⟨x3.m, 0, none⟩)) := h5.c9
    have hC := Lib.hid (clear_rt x3.m _ w4 h5.ty)
    have h5 := Lib.hid h5
    go_wp2_with fail
    refine hC.out.mono ?_
    rintro _ w5 ⟨rfl, hT, o5⟩
    have h6 : RA false G w5 g m1.joined x3 := h5.out.upM hT o5
    rw [hm2] at h6
    have k6 := Lib.hid (k5.out.trans (o5.kg hgm))
    clear h5 hC k5 hT o5 c9
    obtain ⟨bl, off, cn, c0, hbl, ⟨-, d1, -, -⟩, hcn⟩ := h6.defAt hin
    rw [hdef] at d1
    have c4 := h6.c4
    have c7 := h6.c7
    rw [hrd] at c7
    have hm' : Int.tmod m.rd 2 = m.rd % 2 := Int.tmod_eq_emod_of_nonneg hrb.1
    have hM := Lib.hid (fun n k => made_ra false G g m2 x3 k (w5.drewN n) (h6.drewN n) hda)
    have hiN : m2.i < m2.t.ns.length := hin
    clear h6 hin hdef hda hm1 hm2 hrd hk
    generalize m2.t.ns.length = N at *
    generalize m2.i = i at *
    generalize m.me.inf = q at *
    generalize m.rd = r at *
    rw [e] at ekd
    clear e
    rcases (by omega : r % 2 = 0 ∨ r % 2 = 1) with hp | hp
    all_goals
      cases q
      all_goals
        have hkd : kd = 2 ∨ kd = 1 := by rw [ekd]; split <;> simp
        rcases hkd with rfl | rfl
        all_goals try (exfalso; simp [hp] at ekd; done)
        clear ekd
        go_wp2_with fail
        go_quiet (fail)
        go_wp2_with fail
        refine (hM.out _ _).mono ?_
        rintro _ w7 ⟨v, rfl, hv, h7, k7⟩
        have h8 := Lib.hid (h7.se_ true)
        have hz6 := k6.out.size
        have hf := Lib.hid (hv.base (B := w.heap.size) (by simpa using hz6))
        have k8 := Lib.hid (k6.out.trans ((kg_below (below_drewN (Below.refl _ w5) _)).trans k7))
        clear hv h7 k7 hz6 c0 c4 c7 d1 hM k6
        go_wp2
        go_ret
        exact ⟨v, rfl, hf.out, ⟨x3, h8.out⟩, k8.out⟩
end Go.Proofs.YtpdenmcacaajkaaGreat
