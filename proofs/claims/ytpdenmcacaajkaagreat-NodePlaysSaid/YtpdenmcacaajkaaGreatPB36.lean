/- Texts RaA in one. For what each says in front of its theorems. -/
import Derived.RegionTactic
import Derived.BigQuiet
import Derived.Deep.RegionHeld3
import Derived.Test.YtpdenmcacaajkaaGreatPB35
/-! ### RaA -/
namespace Go.Proofs.YtpdenmcacaajkaaGreat
open Go.RowKit
section
variable {b : Bool} {G : Nat → Prop} {W W' : World} {g : Nat} {m : NM} {x : RX}
/-- Where all that is new may turn. -/
def GN (G : Nat → Prop) (w : World) : Prop := ∀ k, w.heap.size ≤ k → G k
theorem GN.up {w w' : World} (h : GN G w) (k : w.heap.size ≤ w'.heap.size) : GN G w' := fun i hi => h i (Nat.le_trans k hi)
end
/-- A node of some blocks. -/
def RS (b : Bool) (G : Nat → Prop) (W : World) (g : Nat) (m : NM) : Prop := ∃ x, RA b G W g m x
def RL (G : Nat → Prop) (W : World) (g : Nat) (m : NM) : Prop := ∃ b, RS b G W g m
set_option maxRecDepth 100000 in
set_option maxHeartbeats 4000000 in
theorem anew_ra (b : Bool) (G : Nat → Prop) (g : Nat) (m : NM) (x : RX) (k : Nat) (w : World) (h : RA b G w g m x) (hG : GN G w) :
    Calls Tryz.prog 63 #[.pointer (some ⟨g, 0, none⟩), .int .i64 (k : Nat)] w fun e w' => e = .returned (.tuple #[]) ∧ RS false G w' g (m.anew k) ∧ KG G w w' := by
  have c6 := h.c6
  have c7 := h.c7
  have c8 := h.c8
  have c16 := h.c16
  have c17 := h.c17
  have f6 := h.frozen 6
  have f7 := h.frozen 7
  have f8 := h.frozen 8
  have f16 := h.frozen 16
  have f17 := h.frozen 17
  have hg := h.G_
  have h1 := Lib.hid (((((h.sSt k).sRd 0).sSl 0).sWt 0).sSe false)
  have hk1 : Hid (KG G w (((((w.setCell ⟨g, 6, none⟩ (.int .i64 (k : Nat))).setCell ⟨g, 7, none⟩ (.int .i64 0)).setCell ⟨g, 8, none⟩ (.int .i64 (0 : Nat))).setCell ⟨g, 16, none⟩ (.int .i64 (0 : Nat))).setCell ⟨g, 17, none⟩ (.bool false))) :=
    Lib.hid ((((((Only.refl g w).set _ _).set _ _).set _ _).set _ _).set _ _ |>.kg hg)
  go_enter Tryz.func63, Tryz.ntmps63
  go_wp2_with fail
  clear c6 c7 c8 c16 c17 f6 f7 f8 f16 f17
  (generalize ((((w.setCell ⟨g, 6, none⟩ _).setCell ⟨g, 7, none⟩ _).setCell ⟨g, 8, none⟩ _).setCell ⟨g, 16, none⟩ _).setCell ⟨g, 17, none⟩ _ = w1 at h1 hk1 ⊢)
  refine (new_rt 0 w1).mono ?_
  rintro _ w2 ⟨rfl, hT, hb2, hs2⟩
  have hz1 : w.heap.size ≤ w1.heap.size := hk1.out.size
  have h2 := h1.out.below hb2
  have c9 := h2.c9
  have f9 := h2.frozen 9
  have h3 := h1.out.freshM hb2 rfl hT (hG _ hz1)
  have hk3 : Hid (KG G w (w2.setCell ⟨g, 9, none⟩ (.pointer (some ⟨w1.heap.size, 0, none⟩)))) := Lib.hid ((hk1.out.trans (kg_below hb2)).trans (((Only.refl g w2).set 9 _).kg hg))
  clear h1 hk1 h2 h
  go_wp2_with fail
  clear c9 f9
  generalize w2.setCell ⟨g, 9, none⟩ _ = w3 at h3 hk3 ⊢
  obtain ⟨c, L, hc, hup⟩ := h3.clock
  refine (rclear_kt c g _ L _ w3 hc).mono ?_
  rintro _ w4 ⟨rfl, hc4, o4⟩
  have h4 := hup _ _ _ hc4 o4 (fun k e => by simp [vblk] at e) (by simp) fun i hi => hG i (Nat.le_trans hk3.out.size hi)
  have hk4 := Lib.hid (hk3.out.trans (o4.kg hg))
  have c13 := h4.c13
  have hC := Lib.hid (clear_rs G _ _ _ w4 h4.so (by simp [RX.own]))
  have h4 := Lib.hid h4
  clear h3 hk3 hc hup hc4 hT
  go_wp2_with fail
  refine hC.out.mono ?_
  rintro _ w5 ⟨rfl, h5, o5⟩
  have h6 := Lib.hid ((h4.out.upS h5 o5).se_ false)
  have hk5 := Lib.hid (hk4.out.trans (o5.kg (h4.out.gs _ (List.mem_cons_of_mem _ (by simp [RX.own])))))
  clear h4 hk4 hC h5 o5
  go_wp2
  exact bodyPost_end (results_none (by rfl) _ _ _) rfl ⟨rfl, ⟨_, h6.out⟩, hk5.out⟩
set_option maxRecDepth 100000 in
set_option maxHeartbeats 1000000 in
theorem off_ra (b : Bool) (G : Nat → Prop) (g : Nat) (m : NM) (x : RX) (w : World) (h : RA b G w g m x) (hG : GN G w) :
    Calls Tryz.prog 28 #[.pointer (some ⟨g, 0, none⟩)] w fun e w' => e = .returned (.tuple #[]) ∧ RS false G w' g m.off ∧ KG G w w' := by
  have H := Lib.hid (anew_ra b G g m x 0 w h hG)
  unfold NM.off
  generalize m.anew 0 = m' at *
  clear h
  go_enter Tryz.func28, Tryz.ntmps28
  go_wp2_with fail
  refine H.out.mono ?_
  rintro _ w1 ⟨rfl, h1, o1⟩
  go_wp2
  exact bodyPost_end (results_none (by rfl) _ _ _) rfl ⟨rfl, h1, o1⟩
set_option maxRecDepth 100000 in
set_option maxHeartbeats 1000000 in
theorem on_ra (b : Bool) (G : Nat → Prop) (g : Nat) (m : NM) (x : RX) (a : Int) (w : World) (h : RA b G w g m x) (hG : GN G w) (h5 : m.st ≤ 5) :
    Calls Tryz.prog 26 #[.pointer (some ⟨g, 0, none⟩), .int .i64 a] w fun e w' => e = .returned (.int .i64 (m.onE a)) ∧ RL G w' g (m.on a) ∧ KG G w w' := by
  by_cases h1 : a < -1000 ∨ 1000 < a
  · have e : m.onE a = 1 := by unfold NM.onE; rw [if_pos h1]
    rw [e, show m.on a = m by unfold NM.on; rw [e]; rfl]
    by_cases h2 : a < -1000
    · clear h1
      go_enter Tryz.func26, Tryz.ntmps26
      go_wp2
      go_ret
      exact ⟨rfl, ⟨_, _, h⟩, KG.refl _ _⟩
    · have h3 : 1000 < a := by omega
      have h2 : -1000 ≤ a := by omega
      clear h1
      go_enter Tryz.func26, Tryz.ntmps26
      go_wp2
      go_ret
      exact ⟨rfl, ⟨_, _, h⟩, KG.refl _ _⟩
  · have a1 : -1000 ≤ a := by omega
    have a2 : a ≤ 1000 := by omega
    have c6 := h.c6
    by_cases h2 : m.st ≠ 0 ∧ m.st ≠ 5
    · have e : m.onE a = 4 := by unfold NM.onE; rw [if_neg h1, if_pos h2]
      rw [e, show m.on a = m by unfold NM.on; rw [e]; rfl]
      have hk : Hid (RA b G w g m x) := Lib.hid h
      clear h1 e h
      rcases (by omega : m.st = 1 ∨ m.st = 2 ∨ m.st = 3 ∨ m.st = 4) with e | e | e | e
      all_goals
        rw [e] at c6
        clear h2 e h5
        go_enter Tryz.func26, Tryz.ntmps26
        go_wp2
        go_ret
        exact ⟨rfl, ⟨_, _, hk.out⟩, KG.refl _ _⟩
    · have e : m.onE a = 0 := by unfold NM.onE; rw [if_neg h1, if_neg h2]
      rw [e, show m.on a = { m.anew 1 with tm := a } by unfold NM.on; rw [if_pos e]]
      have HB := Lib.hid (anew_ra b G g m x 1 w h hG)
      clear h h1 e
      generalize m.anew 1 = m' at *
      rcases (by omega : m.st = 0 ∨ m.st = 5) with e | e
      all_goals
        rw [e] at c6
        clear h2 e
        go_enter Tryz.func26, Tryz.ntmps26
        go_wp2_with fail
        refine HB.out.mono ?_
        rintro _ w1 ⟨rfl, ⟨x1, h1⟩, o1⟩
        have c10 := h1.c10
        have f10 := h1.frozen 10
        have h2 := Lib.hid (h1.sTm a)
        have hg := h1.G_
        clear h1
        go_wp2
        go_ret
        exact ⟨rfl, ⟨_, _, h2.out⟩, o1.trans (((Only.refl g w1).set _ _).kg hg)⟩
set_option maxRecDepth 100000 in
set_option maxHeartbeats 1000000 in
theorem view_ra (b : Bool) (G : Nat → Prop) (g : Nat) (m : NM) (x : RX) (w : World) (h : RA b G w g m x) :
    Calls Tryz.prog 40 #[.pointer (some ⟨g, 0, none⟩)] w fun e w' => e = .returned (csV m.rd m.sl m.ty.m) ∧ Below w.heap.size w w' := by
  have HS : ∀ W, Below w.heap.size w W → W.cell? ⟨g, 7, none⟩ = some (.int .i64 m.rd) ∧ W.cell? ⟨g, 8, none⟩ = some (.int .i64 (m.sl : Nat)) ∧ W.cell? ⟨g, 9, none⟩ = some (.pointer (some ⟨x.m, 0, none⟩)) ∧ W.cell? ⟨x.m, 0, none⟩ = some (.int .i64 (m.ty.m : Nat)) := fun W hW => by
    have h' := h.below hW
    exact ⟨h'.c7, h'.c8, h'.c9, h'.ty.c0⟩
  unfold csV
  clear h
  go_enter Tryz.func40, Tryz.ntmps40
  go_wp2_with fail
  obtain ⟨c7, c8, c9, c0⟩ := HS (w.alloc (.cells #[.int .i64 0, .int .i64 0, .int .i64 0] 101)) ((Below.refl _ _).alloc (Nat.le_refl _) _)
  have b0 := ((Below.refl w.heap.size w).alloc (Nat.le_refl _) (.cells #[.int .i64 0, .int .i64 0, .int .i64 0] 101)).drew
  have S0 := Lib.hid (HS _ b0)
  have HH := Lib.hid HS
  clear HS c7 c8 c9 c0
  go_region_held3 (fun W => W.cell? ⟨g, 7, none⟩ = some (.int .i64 m.rd) ∧ W.cell? ⟨g, 8, none⟩ = some (.int .i64 (m.sl : Nat)) ∧ W.cell? ⟨g, 9, none⟩ = some (.pointer (some ⟨x.m, 0, none⟩)) ∧ W.cell? ⟨x.m, 0, none⟩ = some (.int .i64 (m.ty.m : Nat))) ((first | exact S0.out | (refine HH.out _ ?_; (repeat' (first | exact Below.refl _ _ | exact Nat.le_refl _ | (with_reducible refine Below.setCell ?_ ?_ _) | (with_reducible refine Below.alloc ?_ (Nat.le_refl _) _) | (with_reducible refine below_drewN ?_ _) | (with_reducible refine Below.drew ?_)))))) (fail)
  go_wp2
  refine bodyPost_ret (v := .agg #[.int .i64 m.rd, .int .i64 (m.sl : Nat), .int .i64 (m.ty.m : Nat)]) ?_ rfl ?_
  · rw [results_cell rfl]
    go_simp
  · refine ⟨rfl, ?_⟩
    (repeat' (first | exact Below.refl _ _ | exact Nat.le_refl _ | (with_reducible refine Below.setCell ?_ ?_ _) | (with_reducible refine Below.alloc ?_ (Nat.le_refl _) _) | (with_reducible refine below_drewN ?_ _) | (with_reducible refine Below.drew ?_)))
set_option maxRecDepth 100000 in
set_option maxHeartbeats 1000000 in
theorem write_ra (b : Bool) (G : Nat → Prop) (g : Nat) (m : NM) (x : RX) (v : Value) (l : List Int) (B : Nat) (w : World) (h : RA b G w g m x) (hG : GN G w) (hi : m.i < m.t.ns.length) (hv : SeesL w B v l) (hz : m.me.sz ≤ 8) :
    Calls Tryz.prog 30 #[.pointer (some ⟨g, 0, none⟩), v] w fun e w' => e = .returned (.int .i64 (m.writeE l)) ∧ RA b G w' g (m.write l) x ∧ KG G w w' := by
  obtain ⟨bl, off, cn, c0, hbl, ⟨-, -, -, d3⟩, hcn⟩ := h.defAt hi
  have c4 := h.c4
  obtain ⟨A, c, rfl, v1, v2, v3, v4⟩ := hv.at_
  unfold maxLen at v2
  rw [show m.t.ns.getD m.i default = m.me from rfl] at d3
  have hk : Hid (RA b G w g m x) := Lib.hid h
  have hg := h.G_
  clear v3 v4 h
  generalize m.t.ns.length = N at *
  generalize m.i = i at *
  generalize hze : m.me.sz = z at *
  by_cases h1 : z < l.length
  · rw [show m.writeE l = 1 by unfold NM.writeE; rw [if_pos (by omega)], show m.write l = m by unfold NM.write; rw [if_pos (by omega)]]
    have q1 : decide (z < ((l.length : Nat) : Int)) = true := decide_eq_true h1
    clear hze
    go_enter Tryz.func30, Tryz.ntmps30
    go_wp2_with fail
    go_quiet (fail)
    go_wp2
    go_ret
    exact ⟨rfl, hk.out.drewN _, kg_below (below_drewN (Below.refl _ _) _)⟩
  · rw [show m.writeE l = 0 by unfold NM.writeE; rw [if_neg (by omega)], show m.write l = { m with da := l } by unfold NM.write; rw [if_neg (by omega)]]
    have q1 : decide (z < ((l.length : Nat) : Int)) = false := decide_eq_false h1
    clear hze
    have hem : Hid (∀ n, OwnsL ((w.drewN n).alloc (.cells #[] 5)) (w.drewN n).heap.size (.slice (some ⟨(w.drewN n).heap.size, 0, none⟩) 0 0) []) := Lib.hid fun n => owns_empty _ _ rfl _ _ (Nat.le_refl _) rfl
    have hvs : Hid (∀ n, SeesL ((w.drewN n).alloc (.cells #[] 5)) B (.slice A l.length c) l) := Lib.hid fun n => (hv.below (below_drewN (Below.refl B w) n)).alloc _
    clear hv
    go_enter Tryz.func30, Tryz.ntmps30
    go_wp2_with fail
    go_quiet (fail)
    go_wp2_with (at_builtin; go_loud (refine wpList_pushL _ rfl (.tmp 21) (.tmp 22) 37 rfl (w.drewN _).heap.size infoU8 Tryz.underlying37 _ [] (hem.out _) rfl B _ l rfl (hvs.out _) (by simp) (by simp; omega) ?_))
    intro v1 w1 ho1 hx1
    have ho2 : OwnsL w1 w.heap.size v1 l := by simpa using ho1
    have hb1 : Below w.heap.size w w1 := (((below_drewN (Below.refl w.heap.size w) _).alloc (by simp) (.cells #[] 5))).trans (hx1.toBelow (B := w.heap.size) (by simp) (fun j hj => by simp [Value.ownBlock] at hj; omega))
    have h2 := hk.out.below hb1
    obtain ⟨A', c', c15, -⟩ := h2.c15
    have f15 := h2.frozen 15
    have h3 := Lib.hid (h2.sDa (v := v1) (l := l) ⟨⟨ho2.sees, fun f hf _ e => by have := (ho2.lt f e).1; have := hk.out.lts f (List.mem_cons_of_mem _ hf); omega⟩, fun _ k hk => hG k (ho2.lt k hk).1⟩)
    obtain ⟨A2, d2, rfl, -⟩ := ho2.sees.at_
    clear h2 ho1 ho2 hx1 hem hvs c0 c4 d3
    go_wp2
    go_ret
    exact ⟨rfl, h3.out, (kg_below hb1).trans (((Only.refl g w1).set _ _).kg hg)⟩
end Go.Proofs.YtpdenmcacaajkaaGreat
