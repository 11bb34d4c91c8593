/- Texts FrH in one. For what each says in front of its theorems. -/
import Derived.ScopeJumps
import Derived.WalkMore
import Derived.Test.YtpdenmcacaajkaaGreatXB3
/-! ### FrH -/
namespace Go.Proofs.YtpdenmcacaajkaaGreat
open Go.RowKit
open Fr (St F)

/-- A scope in which each jump goes on to one label ahead. -/
theorem wp_scope_go {P : Program} {Q : Exit → Act → World → Prop} {a : Act} {w : World} {c rest : Code} (l : Nat) (hf : findLabel c l = some rest) (first : c.wp P (Exit.jump l (fun a w => rest.wp P (Exit.jump l (fun _ _ => False) Q) a w) Q) a w) : (Code.scope c).wp P Q a w :=
  wp_scope_jumps l _ (fun _ _ => 0) hf first fun a w h => Code.wp_mono (fun e a w hq => by
    cases e
    case goto l' => exact hq.2.elim
    all_goals exact hq) h


/-- The four new blocks of Decode: the state that came in, the result, the frame, the state that is read. -/
structure BoxD (w W : World) (o s : St) : Prop where
  below : Below w.heap.size w W
  lt : w.heap.size + 1 + 1 + 1 < W.heap.size
  own : W.cell? ⟨w.heap.size, 0, none⟩ = some (.int .i64 o.r) ∧ W.cell? ⟨w.heap.size, 1, none⟩ = some (.int .i64 o.s) ∧ W.cell? ⟨w.heap.size, 2, none⟩ = some (.int .i64 o.m)
  res : W.cell? ⟨w.heap.size + 1, 0, none⟩ = some (.int .i64 0) ∧ W.cell? ⟨w.heap.size + 1, 1, none⟩ = some (.int .i64 0) ∧ W.cell? ⟨w.heap.size + 1, 2, none⟩ = some (.int .i64 0) ∧ W.cell? ⟨w.heap.size + 1, 3, none⟩ = some (.int .i64 0) ∧ W.cell? ⟨w.heap.size + 1, 4, none⟩ = some (.slice none 0 0)
  fr : W.cell? ⟨w.heap.size + 1 + 1, 0, none⟩ = some (.int .i64 0) ∧ W.cell? ⟨w.heap.size + 1 + 1, 1, none⟩ = some (.int .i64 0) ∧ W.cell? ⟨w.heap.size + 1 + 1, 2, none⟩ = some (.int .i64 0) ∧ W.cell? ⟨w.heap.size + 1 + 1, 3, none⟩ = some (.int .i64 0) ∧ W.cell? ⟨w.heap.size + 1 + 1, 4, none⟩ = some (.slice none 0 0)
  st : W.cell? ⟨w.heap.size + 1 + 1 + 1, 0, none⟩ = some (.int .i64 s.r) ∧ W.cell? ⟨w.heap.size + 1 + 1 + 1, 1, none⟩ = some (.int .i64 s.s) ∧ W.cell? ⟨w.heap.size + 1 + 1 + 1, 2, none⟩ = some (.int .i64 s.m)
  fz : ∀ b i, w.heap.size ≤ b → b ≤ w.heap.size + 1 + 1 + 1 → W.frozen? ⟨b, i, none⟩ = false
theorem BoxD.keep {w W W' : World} {o s : St} (h : BoxD w W o s) (hb : Below W.heap.size W W') : BoxD w W' o s := by
  have hlt := h.lt
  have hc := bcell hb
  refine ⟨h.below.trans (hb.mono (by omega)), by have := hb.size; omega, ?_, ?_, ?_, ?_, fun b i h1 h2 => ?_⟩
  · rw [hc _ _ (by omega), hc _ _ (by omega), hc _ _ (by omega)]; exact h.own
  · rw [hc _ _ (by omega), hc _ _ (by omega), hc _ _ (by omega), hc _ _ (by omega), hc _ _ (by omega)]; exact h.res
  · rw [hc _ _ (by omega), hc _ _ (by omega), hc _ _ (by omega), hc _ _ (by omega), hc _ _ (by omega)]; exact h.fr
  · rw [hc _ _ (by omega), hc _ _ (by omega), hc _ _ (by omega)]; exact h.st
  · rw [← h.fz b i h1 h2]
    unfold World.frozen?
    rw [hb.block b (by omega)]
theorem cells3 {W : World} {b : Nat} {a0 a1 a2 : Value} (h0 : W.cell? ⟨b, 0, none⟩ = some a0) (h1 : W.cell? ⟨b, 1, none⟩ = some a1) (h2 : W.cell? ⟨b, 2, none⟩ = some a2) (x y z : Value) :
    (((W.setCell ⟨b, 0, none⟩ x).setCell ⟨b, 1, none⟩ y).setCell ⟨b, 2, none⟩ z).cell? ⟨b, 0, none⟩ = some x ∧ (((W.setCell ⟨b, 0, none⟩ x).setCell ⟨b, 1, none⟩ y).setCell ⟨b, 2, none⟩ z).cell? ⟨b, 1, none⟩ = some y ∧ (((W.setCell ⟨b, 0, none⟩ x).setCell ⟨b, 1, none⟩ y).setCell ⟨b, 2, none⟩ z).cell? ⟨b, 2, none⟩ = some z := by
  refine ⟨?_, ?_, ?_⟩
  · rw [World.cell?_setCell_other _ _ _ _ (by simp), World.cell?_setCell_other _ _ _ _ (by simp), World.cell?_setCell_same _ _ _ h0]
  · rw [World.cell?_setCell_other _ _ _ _ (by simp), World.cell?_setCell_same _ _ _ ((World.cell?_setCell_other _ _ _ _ (by simp)).trans h1)]
  · rw [World.cell?_setCell_same _ _ _ ((World.cell?_setCell_other _ _ _ _ (by simp)).trans ((World.cell?_setCell_other _ _ _ _ (by simp)).trans h2))]
theorem BoxD.store {w W : World} {o s : St} (h : BoxD w W o s) (t : St) : BoxD w (((W.setCell ⟨w.heap.size + 1 + 1 + 1, 0, none⟩ (.int .i64 t.r)).setCell ⟨w.heap.size + 1 + 1 + 1, 1, none⟩ (.int .i64 t.s)).setCell ⟨w.heap.size + 1 + 1 + 1, 2, none⟩ (.int .i64 t.m)) o t := by
  obtain ⟨hb, hlt, ho, hr, hf, hs, hz⟩ := h
  have hB := (((Below.refl (w.heap.size + 1 + 1 + 1) W).setCell (p := ⟨w.heap.size + 1 + 1 + 1, 0, none⟩) (Nat.le_refl _) (.int .i64 t.r)).setCell (p := ⟨w.heap.size + 1 + 1 + 1, 1, none⟩) (Nat.le_refl _) (.int .i64 t.s)).setCell (p := ⟨w.heap.size + 1 + 1 + 1, 2, none⟩) (Nat.le_refl _) (.int .i64 t.m)
  have hc := bcell hB
  refine ⟨hb.trans (hB.mono (by omega)), by simpa using hlt, ?_, ?_, ?_, ?_, fun b i h1 h2 => ?_⟩
  · rw [hc _ _ (by omega), hc _ _ (by omega), hc _ _ (by omega)]; exact ho
  · rw [hc _ _ (by omega), hc _ _ (by omega), hc _ _ (by omega), hc _ _ (by omega), hc _ _ (by omega)]; exact hr
  · rw [hc _ _ (by omega), hc _ _ (by omega), hc _ _ (by omega), hc _ _ (by omega), hc _ _ (by omega)]; exact hf
  · exact cells3 hs.1 hs.2.1 hs.2.2 _ _ _
  · rw [World.frozen?_setCell, World.frozen?_setCell, World.frozen?_setCell]
    exact hz b i h1 h2
theorem OwnsL.other {w : World} {Bs g : Nat} {v : Value} {l : List Int} (h : OwnsL w Bs v l) (hg : g < Bs) (i : Nat) (u : Value) : OwnsL (w.setCell ⟨g, i, none⟩ u) Bs v l :=
  World.ownsRow.kept (row := some g) h ⟨rfl, rfl, rfl, by simp [World.setCell], fun k _ hne => Below.heap_setCell _ _ _ _ (fun e => hne (by rw [e]))⟩ (.inr fun e => by have := World.ownsRow.lt h g e; omega)
theorem cells5 {W : World} {b : Nat} {a0 a1 a2 a3 a4 : Value} (h0 : W.cell? ⟨b, 0, none⟩ = some a0) (h1 : W.cell? ⟨b, 1, none⟩ = some a1) (h2 : W.cell? ⟨b, 2, none⟩ = some a2) (h3 : W.cell? ⟨b, 3, none⟩ = some a3) (h4 : W.cell? ⟨b, 4, none⟩ = some a4) (x0 x1 x2 x3 x4 : Value) (W' : World) (hW : W' = ((((W.setCell ⟨b, 0, none⟩ x0).setCell ⟨b, 1, none⟩ x1).setCell ⟨b, 2, none⟩ x2).setCell ⟨b, 3, none⟩ x3).setCell ⟨b, 4, none⟩ x4) :
    W'.cell? ⟨b, 0, none⟩ = some x0 ∧ W'.cell? ⟨b, 1, none⟩ = some x1 ∧ W'.cell? ⟨b, 2, none⟩ = some x2 ∧ W'.cell? ⟨b, 3, none⟩ = some x3 ∧ W'.cell? ⟨b, 4, none⟩ = some x4 := by
  subst hW
  have o := fun (V : World) (i j : Nat) (u : Value) (h : i ≠ j) => World.cell?_setCell_other V ⟨b, i, none⟩ ⟨b, j, none⟩ u (fun e => h (by injection e))
  have s := fun (V : World) (i : Nat) (u u' : Value) (h : V.cell? ⟨b, i, none⟩ = some u') => World.cell?_setCell_same V ⟨b, i, none⟩ u h
  refine ⟨?_, ?_, ?_, ?_, ?_⟩
  · rw [o _ _ _ _ (by decide), o _ _ _ _ (by decide), o _ _ _ _ (by decide), o _ _ _ _ (by decide)]
    exact s _ _ _ _ h0
  · rw [o _ _ _ _ (by decide), o _ _ _ _ (by decide), o _ _ _ _ (by decide)]
    refine s _ _ _ _ (?_ : _ = some a1)
    rw [o _ _ _ _ (by decide)]
    exact h1
  · rw [o _ _ _ _ (by decide), o _ _ _ _ (by decide)]
    refine s _ _ _ _ (?_ : _ = some a2)
    rw [o _ _ _ _ (by decide), o _ _ _ _ (by decide)]
    exact h2
  · rw [o _ _ _ _ (by decide)]
    refine s _ _ _ _ (?_ : _ = some a3)
    rw [o _ _ _ _ (by decide), o _ _ _ _ (by decide), o _ _ _ _ (by decide)]
    exact h3
  · refine s _ _ _ _ (?_ : _ = some a4)
    rw [o _ _ _ _ (by decide), o _ _ _ _ (by decide), o _ _ _ _ (by decide), o _ _ _ _ (by decide)]
    exact h4
/-- The frame is filled. -/
structure BoxF (w W : World) (v : Value) (l : List Int) (x0 x1 x2 x3 x4 : Value) : Prop where
  below : Below w.heap.size w W
  res : W.cell? ⟨w.heap.size + 1, 0, none⟩ = some (.int .i64 0) ∧ W.cell? ⟨w.heap.size + 1, 1, none⟩ = some (.int .i64 0) ∧ W.cell? ⟨w.heap.size + 1, 2, none⟩ = some (.int .i64 0) ∧ W.cell? ⟨w.heap.size + 1, 3, none⟩ = some (.int .i64 0) ∧ W.cell? ⟨w.heap.size + 1, 4, none⟩ = some (.slice none 0 0)
  fr : W.cell? ⟨w.heap.size + 1 + 1, 0, none⟩ = some x0 ∧ W.cell? ⟨w.heap.size + 1 + 1, 1, none⟩ = some x1 ∧ W.cell? ⟨w.heap.size + 1 + 1, 2, none⟩ = some x2 ∧ W.cell? ⟨w.heap.size + 1 + 1, 3, none⟩ = some x3 ∧ W.cell? ⟨w.heap.size + 1 + 1, 4, none⟩ = some x4
  fz : ∀ i, W.frozen? ⟨w.heap.size + 1, i, none⟩ = false
  own : OwnsL W (w.heap.size + 1 + 1 + 1) v l
theorem BoxD.fill {w W : World} {o s : St} (h : BoxD w W o s) {v : Value} {l : List Int} (ho : OwnsL W (w.heap.size + 1 + 1 + 1) v l) (x0 x1 x2 x3 x4 : Value) :
    BoxF w (((((W.setCell ⟨w.heap.size + 1 + 1, 0, none⟩ x0).setCell ⟨w.heap.size + 1 + 1, 1, none⟩ x1).setCell ⟨w.heap.size + 1 + 1, 2, none⟩ x2).setCell ⟨w.heap.size + 1 + 1, 3, none⟩ x3).setCell ⟨w.heap.size + 1 + 1, 4, none⟩ x4) v l x0 x1 x2 x3 x4 := by
  have hB := (((((Below.refl (w.heap.size + 1 + 1) W).setCell (p := ⟨w.heap.size + 1 + 1, 0, none⟩) (Nat.le_refl _) x0).setCell (p := ⟨w.heap.size + 1 + 1, 1, none⟩) (Nat.le_refl _) x1).setCell (p := ⟨w.heap.size + 1 + 1, 2, none⟩) (Nat.le_refl _) x2).setCell (p := ⟨w.heap.size + 1 + 1, 3, none⟩) (Nat.le_refl _) x3).setCell (p := ⟨w.heap.size + 1 + 1, 4, none⟩) (Nat.le_refl _) x4
  have hc := bcell hB
  refine ⟨h.below.trans (hB.mono (by omega)), ?_, cells5 h.fr.1 h.fr.2.1 h.fr.2.2.1 h.fr.2.2.2.1 h.fr.2.2.2.2 x0 x1 x2 x3 x4 _ rfl, fun i => ?_, ?_⟩
  · rw [hc _ _ (by omega), hc _ _ (by omega), hc _ _ (by omega), hc _ _ (by omega), hc _ _ (by omega)]; exact h.res
  · rw [World.frozen?_setCell, World.frozen?_setCell, World.frozen?_setCell, World.frozen?_setCell, World.frozen?_setCell]
    exact h.fz _ i (by omega) (by omega)
  · exact ((((ho.other (by omega) _ _).other (by omega) _ _).other (by omega) _ _).other (by omega) _ _).other (by omega) _ _
theorem boxD (w : World) (o : St) (t t' : TypeId) : BoxD w ((((w.alloc (.cells #[.int .i64 o.r, .int .i64 o.s, .int .i64 o.m] t)).alloc (.cells #[.int .i64 0, .int .i64 0, .int .i64 0, .int .i64 0, .slice none 0 0] t')).alloc (.cells #[.int .i64 0, .int .i64 0, .int .i64 0, .int .i64 0, .slice none 0 0] t')).alloc (.cells #[.int .i64 o.r, .int .i64 o.s, .int .i64 o.m] t)).drew o o := by
  refine ⟨((((((Below.refl w.heap.size w).alloc (Nat.le_refl _) _).alloc (by simp) _).alloc (by simp; omega) _).alloc (by simp; omega) _)).drew, by simp, ?_, ?_, ?_, ?_, fun b i h1 h2 => ?_⟩
  · refine ⟨?_, ?_, ?_⟩ <;> (rw [World.cell?_drew, World.cell?_alloc_past _ _ _ (by simp; omega), World.cell?_alloc_past _ _ _ (by simp; omega), World.cell?_alloc_past _ _ _ (by simp), World.cell?_alloc_at _ _ _ _ rfl]; rfl)
  · refine ⟨?_, ?_, ?_, ?_, ?_⟩ <;> (rw [World.cell?_drew, World.cell?_alloc_past _ _ _ (by simp), World.cell?_alloc_past _ _ _ (by simp), World.cell?_alloc_at _ _ _ _ (by simp)]; rfl)
  · refine ⟨?_, ?_, ?_, ?_, ?_⟩ <;> (rw [World.cell?_drew, World.cell?_alloc_past _ _ _ (by simp), World.cell?_alloc_at _ _ _ _ (by simp)]; rfl)
  · refine ⟨?_, ?_, ?_⟩ <;> (rw [World.cell?_drew, World.cell?_alloc_at _ _ _ _ (by simp)]; rfl)
  · have : b = w.heap.size ∨ b = w.heap.size + 1 ∨ b = w.heap.size + 1 + 1 ∨ b = w.heap.size + 1 + 1 + 1 := by omega
    rcases this with rfl | rfl | rfl | rfl <;> go_simp

theorem SeesL.sub {W : World} {B b off n c : Nat} {l : List Int} (h : SeesL W B (.slice (some ⟨b, off, none⟩) n c) l) (i j : Nat) (hij : i ≤ j) (hj : j ≤ l.length) (A : Option Addr) (hA : A = some ⟨b, off + i, none⟩) (k e : Nat) (hk : k = j - i) (he : e = c - i) :
    SeesL W B (.slice A k e) ((l.drop i).take (j - i)) := by
  obtain ⟨A', c', e1, h1, h2, h3, -⟩ := h.at_
  injection e1 with q1 q2 q3
  subst q1 q2 q3 hA hk he
  have hlen : ((l.drop i).take (j - i)).length = j - i := by rw [List.length_take, List.length_drop]; omega
  refine ⟨some ⟨b, off + i, none⟩, c - i, by rw [hlen], by omega, by omega, ?_, fun h => by cases h⟩
  rw [hlen]
  intro h0
  obtain ⟨b', off', q, hb, hc⟩ := h3 (by omega)
  simp only [Option.some.injEq, Addr.mk.injEq] at q
  obtain ⟨rfl, rfl, -⟩ := q
  refine ⟨b, off + i, rfl, hb, fun k hk => ?_⟩
  have := hc (i + k) (by omega)
  rw [← Nat.add_assoc] at this
  rw [this]
  unfold bv
  rw [List.getD_eq_getElem?_getD, List.getD_eq_getElem?_getD, List.getElem?_take, if_pos (by omega), List.getElem?_drop]
theorem sumB_code (l : List Int) (own : St) (m : Nat) (hm : l.length = m + 2) (hl : bytesL l) : Fr.sumB l own = decide ((Fr.sumL (Fr.sdOf l own) (l.take m) : Int) = l.getD m 0 * 256 + l.getD (m + 1) 0) := by
  have h0 := hl.getD m
  have h1 := hl.getD (m + 1)
  have e : l.length - 2 = m := by omega
  obtain ⟨x, y, hd⟩ := Fr.list_two (l := l.drop m) (by rw [List.length_drop]; omega)
  have g0 : l.getD m 0 = x := by
    have := congrArg (fun q => q.getD 0 0) hd
    simpa [List.getD_eq_getElem?_getD, List.getElem?_drop] using this
  have g1 : l.getD (m + 1) 0 = y := by
    have := congrArg (fun q => q.getD 1 0) hd
    simpa [List.getD_eq_getElem?_getD, List.getElem?_drop] using this
  unfold Fr.sumB
  rw [e, hd, g0, g1]
  rw [g0] at h0
  rw [g1] at h1
  generalize Fr.sumL (Fr.sdOf l own) (l.take m) = S
  rw [Bool.eq_iff_iff, beq_iff_eq, decide_eq_true_iff]
  unfold Fr.two
  simp only [List.cons.injEq, and_true]
  omega

section
variable {l : List Int} {own : St}
theorem form_kind (h : ¬ (1 ≤ Fr.kd l ∧ Fr.kd l ≤ 3)) : Fr.formB l own = false := by
  rw [Bool.eq_false_iff]; intro e; simp only [Fr.formB, Bool.and_eq_true, decide_eq_true_eq] at e; omega
theorem form_own (h : own.may = false) : Fr.formB l own = false := by simp [Fr.formB, h]
theorem form_len (h : ¬ ((Fr.at_ l : Int) < l.length - 2)) (h0 : ∀ k, 0 ≤ l.getD k 0) : Fr.formB l own = false := by
  rw [Bool.eq_false_iff]; intro e; simp only [Fr.formB, Bool.and_eq_true, decide_eq_true_eq] at e
  have := h0 (Fr.at_ l)
  have : Fr.cnt l = l.getD (Fr.at_ l) 0 := rfl
  omega
theorem form_cnt (h : 8 < Fr.cnt l) : Fr.formB l own = false := by
  rw [Bool.eq_false_iff]; intro e; simp only [Fr.formB, Bool.and_eq_true, decide_eq_true_eq] at e; omega
theorem form_eq (h : ¬ ((Fr.at_ l : Int) + 1 + Fr.cnt l = l.length - 2)) : Fr.formB l own = false := by
  rw [Bool.eq_false_iff]; intro e; simp only [Fr.formB, Bool.and_eq_true, decide_eq_true_eq] at e; omega
theorem form_st (h : (Fr.stOf l own).may = false) : Fr.formB l own = false := by simp [Fr.formB, h]
theorem form_yes (h1 : 1 ≤ Fr.kd l ∧ Fr.kd l ≤ 3) (h2 : own.may = true) (h3 : (Fr.at_ l : Int) < l.length - 2) (h4 : ¬ 8 < Fr.cnt l) (h5 : (Fr.at_ l : Int) + 1 + Fr.cnt l = l.length - 2) (h6 : (Fr.stOf l own).may = true) : Fr.formB l own = true := by
  have ha : Fr.kd l = 1 ∧ Fr.at_ l = 1 ∨ Fr.kd l ≠ 1 ∧ Fr.at_ l = 5 := by
    unfold Fr.at_
    by_cases h : Fr.kd l = 1
    · exact .inl ⟨h, if_pos h⟩
    · exact .inr ⟨h, if_neg h⟩
  simp only [Fr.formB, Bool.and_eq_true, decide_eq_true_eq, Bool.or_eq_true, beq_iff_eq, h2, h6, and_true]
  omega
end

set_option maxRecDepth 100000 in
set_option maxHeartbeats 40000000 in
theorem decode_dev (v : Value) (l : List Int) (own : St) (w : World) (hv : SeesL w w.heap.size v l) (hl : bytesL l) :
    Calls Tryz.prog 148 #[v, stV own] w (Dec w l own) := by
  obtain ⟨A, c, rfl, c1, c2, hs, hnil⟩ := hv.at_
  have hv := Lib.hid hv
  have QK := fun W (hb : Below w.heap.size w W) => Lib.hid (kindOf_any A c l w.heap.size W (hs.below hb) hl (by omega))
  have B3 := fun o1 o2 o3 : Obj => (((Below.refl w.heap.size w).alloc (Nat.le_refl _) o1).alloc (by simp) o2).alloc (by simp; omega) o3
  have B4 := fun o1 o2 o3 o4 : Obj => (B3 o1 o2 o3).alloc (by simp; omega) o4
  have FF : Fr.formB l own = false → ∀ w', Below w.heap.size w w' → Dec w l own (.returned (.tuple #[.agg #[.int .i64 0, .int .i64 0, .int .i64 0, .int .i64 0, .slice none 0 0], .int .i64 2])) w' := fun h w' hb => dec_form h rfl hb
  have hFS : Fr.formB l own = true → Fr.sumB l own = false → ∀ w', Below w.heap.size w w' → Dec w l own (.returned (.tuple #[.agg #[.int .i64 0, .int .i64 0, .int .i64 0, .int .i64 0, .slice none 0 0], .int .i64 3])) w' := fun h h' w' hb => dec_sum h h' rfl hb
  have FO : Fr.formB l own = true → Fr.sumB l own = true → ∀ v w', OwnsL w' w.heap.size v (Fr.rd l own).d → Below w.heap.size w w' → Dec w l own (.returned (.tuple #[frV (Fr.rd l own) v, .int .i64 0])) w' := fun h h' v w' ho hb => dec_ok h h' rfl ho hb
  generalize Dec w l own = D at *
  have HK := fun W => Lib.hid (isKind_any (Fr.kd l) W)
  have HO := fun s W => Lib.hid (isState_any s W)
  unfold stV at HO ⊢
  unfold maxLen at c2
  go_enter Tryz.func148, Tryz.ntmps148
  go_wp2_with fail
  refine wp_scope_go 0 rfl ?_
  go_wp2_with fail
  go_cut [8, 9] from 13 (fun s8 s9 W => s8 = .int .i64 (Fr.kd l) ∧ s9 = .pointer (some ⟨w.heap.size + 1 + 1 + 1, 0, none⟩) ∧ W = ((((w.alloc (.cells #[.int .i64 own.r, .int .i64 own.s, .int .i64 own.m] 101)).alloc (.cells #[.int .i64 0, .int .i64 0, .int .i64 0, .int .i64 0, .slice none 0 0] 137)).alloc (.cells #[.int .i64 0, .int .i64 0, .int .i64 0, .int .i64 0, .slice none 0 0] 137)).alloc (.cells #[.int .i64 own.r, .int .i64 own.s, .int .i64 own.m] 101)).drew)
  case first =>
    go_region_held3 (fun W => W.cell? ⟨w.heap.size, 0, none⟩ = some (.int .i64 own.r) ∧ W.cell? ⟨w.heap.size, 1, none⟩ = some (.int .i64 own.s) ∧ W.cell? ⟨w.heap.size, 2, none⟩ = some (.int .i64 own.m)) (go_keep)
      (first
        | ((go_at_call 165; refine (QK _ ?_).out.mono ?_); (focus (first | exact B3 _ _ _ | exact (B3 _ _ _).drew | exact B4 _ _ _ _ | exact (B4 _ _ _ _).drew)); rintro e w3 ⟨rfl, rfl⟩)
        | fail)
    all_goals
      go_wp2_with fail
      go_meet
      exact ⟨rfl, rfl, rfl⟩
  case rest =>
    obtain ⟨rfl, rfl, rfl⟩ := hcut
    clear QK B3 B4
    have hl := Lib.hid hl
    have hb0 := boxD w own 101 137
    generalize ((((w.alloc (.cells #[.int .i64 own.r, .int .i64 own.s, .int .i64 own.m] 101)).alloc (.cells #[.int .i64 0, .int .i64 0, .int .i64 0, .int .i64 0, .slice none 0 0] 137)).alloc (.cells #[.int .i64 0, .int .i64 0, .int .i64 0, .int .i64 0, .slice none 0 0] 137)).alloc (.cells #[.int .i64 own.r, .int .i64 own.s, .int .i64 own.m] 101)).drew = W0 at *
    have hbox := Lib.hid hb0
    clear hb0
    go_wp2_with fail
    refine (HK _).out.mono ?_
    rintro e w1 ⟨rfl, rfl⟩
    clear HK
    by_cases hkd : 1 ≤ Fr.kd l ∧ Fr.kd l ≤ 3
    case neg =>
      have e1 : (decide (1 ≤ Fr.kd l) && decide (Fr.kd l ≤ 3)) = false := by simp; omega
      rw [e1]
      have FF := FF (form_kind hkd)
      clear hFS FO HO e1 hkd
      obtain ⟨f0, f1, f2, f3, f4⟩ := hbox.out.fr
      obtain ⟨r0, r1, r2, r3, r4⟩ := hbox.out.res
      have z0 := hbox.out.fz (w.heap.size + 1) 0 (by omega) (by omega)
      have z1 := hbox.out.fz (w.heap.size + 1) 1 (by omega) (by omega)
      have z2 := hbox.out.fz (w.heap.size + 1) 2 (by omega) (by omega)
      have z3 := hbox.out.fz (w.heap.size + 1) 3 (by omega) (by omega)
      have z4 := hbox.out.fz (w.heap.size + 1) 4 (by omega) (by omega)
      go_wp2_with fail
      go_step3
      simp only [Exit.then]
      refine ⟨rfl, ?_⟩
      go_wp2_with fail
      change bodyPost _ _ _ Exit.ret _ _
      refine bodyPost_ret (v := .tuple #[.agg #[.int .i64 0, .int .i64 0, .int .i64 0, .int .i64 0, .slice none 0 0], .int .i64 2]) ?_ rfl (FF _ ?_)
      · rw [results_cell_tmp rfl]
        go_simp
      · (repeat' (first | exact hbox.out.below | exact Nat.le_succ _ | (with_reducible refine Below.setCell ?_ ?_ _)))
    case pos =>
      have e1 : (decide (1 ≤ Fr.kd l) && decide (Fr.kd l ≤ 3)) = true := by simp; omega
      rw [e1]
      clear e1
      obtain ⟨o0, o1, o2⟩ := hbox.out.own
      go_wp2_with fail
      refine (HO _ _).out.mono ?_
      rintro e w2 ⟨rfl, hb2⟩
      have hx2 := Lib.hid (hbox.out.keep hb2)
      clear o0 o1 o2 hb2 hbox
      by_cases hmay : own.may = true
      case neg =>
        have hmay : own.may = false := by simpa using hmay
        rw [hmay]
        have FF := FF (form_own hmay)
        clear hFS FO HO hmay
        obtain ⟨f0, f1, f2, f3, f4⟩ := hx2.out.fr
        obtain ⟨r0, r1, r2, r3, r4⟩ := hx2.out.res
        have z0 := hx2.out.fz (w.heap.size + 1) 0 (by omega) (by omega)
        have z1 := hx2.out.fz (w.heap.size + 1) 1 (by omega) (by omega)
        have z2 := hx2.out.fz (w.heap.size + 1) 2 (by omega) (by omega)
        have z3 := hx2.out.fz (w.heap.size + 1) 3 (by omega) (by omega)
        have z4 := hx2.out.fz (w.heap.size + 1) 4 (by omega) (by omega)
        go_wp2_with fail
        go_step3
        simp only [Exit.then]
        refine ⟨rfl, ?_⟩
        go_wp2_with fail
        change bodyPost _ _ _ Exit.ret _ _
        refine bodyPost_ret (v := .tuple #[.agg #[.int .i64 0, .int .i64 0, .int .i64 0, .int .i64 0, .slice none 0 0], .int .i64 2]) ?_ rfl (FF _ ?_)
        · rw [results_cell_tmp rfl]
          go_simp
        · (repeat' (first | exact hx2.out.below | exact Nat.le_succ _ | (with_reducible refine Below.setCell ?_ ?_ _)))
      case pos =>
        rw [hmay]
        by_cases hk1 : Fr.kd l = 1
        case pos =>
          have hat : Fr.at_ l = 1 := if_pos hk1
          have hcnt : Fr.cnt l = l.getD 1 0 := by rw [Fr.cnt, hat]
          have hk1b : (Fr.kd l != 1) = false := by simp [hk1]
          rw [show ((l.length : Int) - 2) = ((l.length : Int) - 2) from rfl]
          by_cases hlen : (1 : Int) < (l.length : Int) - 2
          case neg =>
            have FF := FF (form_len (by rw [hat]; exact hlen) fun k => (hl.out.getD k).1)
            have q1 : (l.length : Int) - 2 ≤ 1 := by omega
            clear hFS FO HO hcnt hat hmay

            obtain ⟨f0, f1, f2, f3, f4⟩ := hx2.out.fr
            obtain ⟨r0, r1, r2, r3, r4⟩ := hx2.out.res
            have z0 := hx2.out.fz (w.heap.size + 1) 0 (by omega) (by omega)
            have z1 := hx2.out.fz (w.heap.size + 1) 1 (by omega) (by omega)
            have z2 := hx2.out.fz (w.heap.size + 1) 2 (by omega) (by omega)
            have z3 := hx2.out.fz (w.heap.size + 1) 3 (by omega) (by omega)
            have z4 := hx2.out.fz (w.heap.size + 1) 4 (by omega) (by omega)
            go_wp2_with fail
            go_step3
            simp only [Exit.then]
            refine ⟨rfl, ?_⟩
            go_wp2_with fail
            change bodyPost _ _ _ Exit.ret _ _
            refine bodyPost_ret (v := .tuple #[.agg #[.int .i64 0, .int .i64 0, .int .i64 0, .int .i64 0, .slice none 0 0], .int .i64 2]) ?_ rfl (FF _ ?_)
            · rw [results_cell_tmp rfl]
              go_simp
            · (repeat' (first | exact hx2.out.below | exact Nat.le_succ _ | (with_reducible refine Below.setCell ?_ ?_ _)))
          case pos =>
            obtain ⟨m, hm⟩ : ∃ m, l.length = m + 2 := ⟨l.length - 2, by omega⟩
            obtain ⟨b, off, rfl, hbb, hcell⟩ := hs (by omega)
            have hx := hl.out.getD 1
            have k0 : w2.cell? ⟨b, off + 1, none⟩ = some (.int .u8 (l.getD 1 0)) := (bcell hx2.out.below b (off + 1) hbb).trans (hcell 1 (by omega))
            have hmI : (l.length : Int) - 2 = (m : Int) := by omega
            rw [hmI]
            obtain ⟨x, hxe⟩ : ∃ x, l.getD 1 0 = x := ⟨_, rfl⟩
            rw [hxe] at hx k0 hcnt
            clear hxe
            have q1 : ¬ (m : Int) ≤ 1 := by omega
            have q2 : (1 : Int) < (l.length : Int) := by omega
            by_cases hx8 : 8 < x
            case pos =>
              have FF := FF (form_cnt (by rw [hcnt]; exact hx8))
              clear hFS FO HO hcnt hat hmay hcell
              obtain ⟨f0, f1, f2, f3, f4⟩ := hx2.out.fr
              obtain ⟨r0, r1, r2, r3, r4⟩ := hx2.out.res
              have z0 := hx2.out.fz (w.heap.size + 1) 0 (by omega) (by omega)
              have z1 := hx2.out.fz (w.heap.size + 1) 1 (by omega) (by omega)
              have z2 := hx2.out.fz (w.heap.size + 1) 2 (by omega) (by omega)
              have z3 := hx2.out.fz (w.heap.size + 1) 3 (by omega) (by omega)
              have z4 := hx2.out.fz (w.heap.size + 1) 4 (by omega) (by omega)
              go_wp2_with fail
              go_step3
              simp only [Exit.then]
              refine ⟨rfl, ?_⟩
              go_wp2_with fail
              change bodyPost _ _ _ Exit.ret _ _
              refine bodyPost_ret (v := .tuple #[.agg #[.int .i64 0, .int .i64 0, .int .i64 0, .int .i64 0, .slice none 0 0], .int .i64 2]) ?_ rfl (FF _ ?_)
              · rw [results_cell_tmp rfl]
                go_simp
              · (repeat' (first | exact hx2.out.below | exact Nat.le_succ _ | (with_reducible refine Below.setCell ?_ ?_ _)))
            case neg =>
              by_cases he : 2 + x = (m : Int)
              case neg =>
                have FF := FF (form_eq (by rw [hat, hcnt]; omega))
                have heb : (2 + x != (m : Int)) = true := by simpa using he
                clear hFS FO HO hcnt hat hmay hcell
                obtain ⟨f0, f1, f2, f3, f4⟩ := hx2.out.fr
                obtain ⟨r0, r1, r2, r3, r4⟩ := hx2.out.res
                have z0 := hx2.out.fz (w.heap.size + 1) 0 (by omega) (by omega)
                have z1 := hx2.out.fz (w.heap.size + 1) 1 (by omega) (by omega)
                have z2 := hx2.out.fz (w.heap.size + 1) 2 (by omega) (by omega)
                have z3 := hx2.out.fz (w.heap.size + 1) 3 (by omega) (by omega)
                have z4 := hx2.out.fz (w.heap.size + 1) 4 (by omega) (by omega)
                go_wp2_with fail
                go_step3
                simp only [Exit.then]
                refine ⟨rfl, ?_⟩
                go_wp2_with fail
                change bodyPost _ _ _ Exit.ret _ _
                refine bodyPost_ret (v := .tuple #[.agg #[.int .i64 0, .int .i64 0, .int .i64 0, .int .i64 0, .slice none 0 0], .int .i64 2]) ?_ rfl (FF _ ?_)
                · rw [results_cell_tmp rfl]
                  go_simp
                · (repeat' (first | exact hx2.out.below | exact Nat.le_succ _ | (with_reducible refine Below.setCell ?_ ?_ _)))
              case pos =>
                have heb : (2 + x != (m : Int)) = false := by simpa using he
                have hst : Fr.stOf l own = own := if_pos hk1
                have hx4 := hx2
                obtain ⟨s0, s1, s2⟩ := hx2.out.st
                go_wp2_with fail
                clear hx2 s0 s1 s2 k0
                refine (HO _ _).out.mono ?_
                rintro e w5 ⟨rfl, hb5⟩
                have hx5 := Lib.hid (hx4.out.keep hb5)
                clear hx4 hb5 HO heb
                rw [hmay]
                have hts := hmay
                have hform : Fr.formB l own = true := form_yes hkd hmay (by rw [hat]; exact hlen) (by rw [hcnt]; omega) (by rw [hat, hcnt]; omega) (by rw [hst]; exact hts)
                have hFS := hFS hform
                have FO := FO hform
                have hxN : x.toNat = m - 2 := by omega
                have hrd : Fr.rd l own = ⟨1, own, (l.drop 2).take (m - 2)⟩ := by
                  unfold Fr.rd
                  rw [hat, hcnt, hst, hxN, hk1]
                have hsumB := sumB_code l own m hm hl.out
                have hsub1 : SeesL w w.heap.size (.slice (some ⟨b, off, none⟩) m c) (l.take m) := by
                  have := SeesL.sub hv.out 0 m (by omega) (by omega) (some ⟨b, off, none⟩) rfl m c rfl rfl
                  simpa using this
                have hsub3 : SeesL w w.heap.size (.slice (some ⟨b, off + 2, none⟩) (m - 2) (c - 2)) ((l.drop 2).take (m - 2)) := SeesL.sub hv.out 2 m (by omega) (by omega) _ rfl _ _ rfl rfl
                have hsd : (if (1 : Int) = 1 then St.seed own else 0) = Fr.sdOf l own := by
                  unfold Fr.sdOf
                  rw [if_pos rfl, if_pos hk1]
                have hbl : bytesL (l.take m) := fun y hy => hl.out y (List.mem_of_mem_take hy)
                have QU := fun W (hb : Below w5.heap.size w5 W) => Lib.hid ((sumf_any 1 own _ _ W ((hsub1.below (hx5.out.below.trans (hb.mono hx5.out.below.size))).more (hx5.out.below.trans (hb.mono hx5.out.below.size)).size) hbl).mono (R' := fun e w' => e = .returned (.int .i64 (Fr.sumL (Fr.sdOf l own) (l.take m) : Nat)) ∧ Below w5.heap.size w5 w') fun e w' h => ⟨by rw [← hsd]; exact h.1, hb.trans (h.2.mono hb.size)⟩)
                have u0 := hcell m (by omega)
                have u1 := hcell (m + 1) (by omega)
                unfold bv at u0 u1
                have g0 := hl.out.getD m
                have g1 := hl.out.getD (m + 1)
                generalize l.getD m 0 = y0 at *
                generalize l.getD (m + 1) 0 = y1 at *
                generalize Fr.sumL (Fr.sdOf l own) (l.take m) = S at *
                have QP := fun W (hb : Below w5.heap.size w5 W) => Lib.hid ((pair_any b (off + m) (c - m) 2 y0 y1 W (by omega) (by unfold maxLen; omega) ((bcell (hx5.out.below.trans (hb.mono hx5.out.below.size)) b (off + m) hbb).trans u0) ((bcell (hx5.out.below.trans (hb.mono hx5.out.below.size)) b (off + m + 1) hbb).trans u1) g0 g1).mono (R' := fun e w' => e = .returned (.int .i64 (y0 * 256 + y1)) ∧ Below w5.heap.size w5 w') fun e w' h => ⟨h.1, by obtain ⟨-, q, rfl⟩ := h; exact below_drewN hb q⟩)
                have CS := fun (W : World) (hb : Below w5.heap.size w5 W) => (hx5.out.keep hb).st
                have B5 := Below.refl w5.heap.size w5
                have hx := hx5
                have hm8 : m - 2 ≤ 8 := by omega
                clear hx5 hcell u0 u1 g0 g1 hbl hsd hsub1 hxN hform FF hts hmay hat hcnt hv he
                have p1 : (m : Int) ≤ (c : Int) := by omega
                have p2 : (m : Int) ≤ (m : Int) + 2 := by omega
                have p3 : (m + 2) - m = 2 := by omega
                unfold stV at QU
                obtain ⟨s0, s1, s2⟩ := CS _ B5
                go_wp2_with fail
                go_cut [72] from 62 (fun s72 W => s72 = .bool ((S : Int) != y0 * 256 + y1) ∧ Below w5.heap.size w5 W)
                case first =>
                  go_region_held3 (fun W => W.cell? ⟨w.heap.size + 1 + 1 + 1, 0, none⟩ = some (.int .i64 own.r) ∧ W.cell? ⟨w.heap.size + 1 + 1 + 1, 1, none⟩ = some (.int .i64 own.s) ∧ W.cell? ⟨w.heap.size + 1 + 1 + 1, 2, none⟩ = some (.int .i64 own.m))
                    (first | exact CS _ B5 | exact CS _ B5.drew | exact CS _ hb6 | exact CS _ hb6.drew | exact CS _ hb7 | exact CS _ hb7.drew)
                    (first
                      | ((go_at_call 111; refine (QU _ ?_).out.mono ?_); (focus (first | exact B5 | exact B5.drew)); rintro e w6 ⟨rfl, hb6⟩)
                      | ((go_at_call 167; refine (QP _ ?_).out.mono ?_); (focus (first | exact hb6 | exact hb6.drew)); rintro e w7 ⟨rfl, hb7⟩)
                      | fail)
                  all_goals
                    go_wp2_with fail
                    go_meet
                    exact ⟨rfl, by first | exact hb7 | exact hb7.drew⟩
                case rest =>
                  obtain ⟨rfl, hb7⟩ := hcut
                  have hx7 := Lib.hid (hx.out.keep hb7)
                  clear hx QU QP CS B5 s0 s1 s2
                  by_cases hS : (S : Int) = y0 * 256 + y1
                  case neg =>
                    have hSb : ((S : Int) != y0 * 256 + y1) = true := by simpa using hS
                    have hFS := hFS (by rw [hsumB]; simpa using hS)
                    rw [hSb]
                    clear FO hsumB hS hSb hrd hsub3
                    obtain ⟨f0, f1, f2, f3, f4⟩ := hx7.out.fr
                    obtain ⟨r0, r1, r2, r3, r4⟩ := hx7.out.res
                    have z0 := hx7.out.fz (w.heap.size + 1) 0 (by omega) (by omega)
                    have z1 := hx7.out.fz (w.heap.size + 1) 1 (by omega) (by omega)
                    have z2 := hx7.out.fz (w.heap.size + 1) 2 (by omega) (by omega)
                    have z3 := hx7.out.fz (w.heap.size + 1) 3 (by omega) (by omega)
                    have z4 := hx7.out.fz (w.heap.size + 1) 4 (by omega) (by omega)
                    go_wp2_with fail
                    go_step3
                    simp only [Exit.then]
                    refine ⟨rfl, ?_⟩
                    go_wp2_with fail
                    change bodyPost _ _ _ Exit.ret _ _
                    refine bodyPost_ret (v := .tuple #[.agg #[.int .i64 0, .int .i64 0, .int .i64 0, .int .i64 0, .slice none 0 0], .int .i64 3]) ?_ rfl (hFS _ ?_)
                    · rw [results_cell_tmp rfl]
                      go_simp
                    · (repeat' (first | exact hx7.out.below | exact Nat.le_succ _ | (with_reducible refine Below.setCell ?_ ?_ _)))
                  case pos =>
                    have hSb : ((S : Int) != y0 * 256 + y1) = false := by simpa using hS
                    have FO := FO (by rw [hsumB]; simpa using hS)
                    rw [hrd] at FO
                    unfold frV at FO
                    rw [hSb]
                    clear hFS hsumB hS hSb hrd
                    have hdl : ((l.drop 2).take (m - 2)).length = m - 2 := by rw [List.length_take, List.length_drop]; omega
                    have QC := fun W (hb : Below wc.heap.size wc W) => Lib.hid ((clone_any _ _ W w.heap.size (hsub3.below (hx7.out.below.trans (hb.mono hx7.out.below.size))) (by rw [hdl]; omega)).mono (R' := fun e w' => (∃ A8 c8, e = .returned (.slice A8 (m - 2) c8) ∧ OwnsL w' wc.heap.size (.slice A8 (m - 2) c8) ((l.drop 2).take (m - 2))) ∧ Below wc.heap.size wc w') fun e w' h => by
                      obtain ⟨v, rfl, ho, hb'⟩ := h
                      obtain ⟨A8, c8, rfl, -⟩ := ho.sees.at_
                      refine ⟨⟨A8, c8, by rw [hdl], ?_⟩, hb.trans (hb'.mono hb.size)⟩
                      rw [hdl] at ho
                      exact ho.base hb.size)
                    generalize (l.drop 2).take (m - 2) = dl at *
                    have CS := fun (W : World) (hb : Below wc.heap.size wc W) => (hx7.out.keep hb).st
                    have B7 := Below.refl wc.heap.size wc
                    have p4 : (2 : Int) ≤ (m : Int) := by omega
                    have p5 : 2 ≤ m := by omega
                    have p6 : m ≤ c := by omega
                    have wrp : IntKind.i64.wrap 2 = 2 := by decide
                    have p7 : ¬ c = 2 := by omega
                    clear p2 p3
                    obtain ⟨s0, s1, s2⟩ := CS _ B7
                    clear hsub3
                    go_wp2_with fail
                    go_region_held3 (fun W => W.cell? ⟨w.heap.size + 1 + 1 + 1, 0, none⟩ = some (.int .i64 own.r) ∧ W.cell? ⟨w.heap.size + 1 + 1 + 1, 1, none⟩ = some (.int .i64 own.s) ∧ W.cell? ⟨w.heap.size + 1 + 1 + 1, 2, none⟩ = some (.int .i64 own.m))
                      (first | exact CS _ B7 | exact CS _ B7.drew | exact CS _ hb8 | exact CS _ hb8.drew | go_keep)
                      (first
                        | ((go_at_call 64; refine (QC _ ?_).out.mono ?_); (focus (first | exact B7 | exact B7.drew)); rintro e w8 ⟨⟨A8, c8, rfl, ho8⟩, hb8⟩; have hx8 := hx7.out.keep hb8; obtain ⟨f0, f1, f2, f3, f4⟩ := hx8.fr; have v0 := hx8.fz (w.heap.size + 1 + 1) 0 (by omega) (by omega); have v1 := hx8.fz (w.heap.size + 1 + 1) 1 (by omega) (by omega); have v2 := hx8.fz (w.heap.size + 1 + 1) 2 (by omega) (by omega); have v3 := hx8.fz (w.heap.size + 1 + 1) 3 (by omega) (by omega); have v4 := hx8.fz (w.heap.size + 1 + 1) 4 (by omega) (by omega))
                        | fail)
                    go_wp2_with fail
                    have hF := hx8.fill (show OwnsL w8 (w.heap.size + 1 + 1 + 1) _ dl from ho8.base (by have := hx7.out.lt; omega)) (.int .i64 1) (.int .i64 own.r) (.int .i64 own.s) (.int .i64 own.m) (.slice A8 (m - 2) c8)
                    generalize ((((w8.setCell ⟨w.heap.size + 1 + 1, 0, none⟩ (.int .i64 1)).setCell ⟨w.heap.size + 1 + 1, 1, none⟩ (.int .i64 own.r)).setCell ⟨w.heap.size + 1 + 1, 2, none⟩ (.int .i64 own.s)).setCell ⟨w.heap.size + 1 + 1, 3, none⟩ (.int .i64 own.m)).setCell ⟨w.heap.size + 1 + 1, 4, none⟩ (.slice A8 (m - 2) c8) = w9 at *
                    obtain ⟨k0, k1, k2, k3, k4⟩ := hF.fr
                    obtain ⟨r0, r1, r2, r3, r4⟩ := hF.res
                    have z0 := hF.fz 0
                    have z1 := hF.fz 1
                    have z2 := hF.fz 2
                    have z3 := hF.fz 3
                    have z4 := hF.fz 4
                    have hG := Lib.hid hF
                    clear hF hx8 hx7 f0 f1 f2 f3 f4 v0 v1 v2 v3 v4 s0 s1 s2 CS B7 QC ho8 hb8 hb7 p1 p4 p5 p6 p7 wrp
                    go_step3
                    go_wp2_with fail
                    change bodyPost _ _ _ Exit.ret _ _
                    refine bodyPost_ret (v := .tuple #[.agg #[.int .i64 1, .int .i64 own.r, .int .i64 own.s, .int .i64 own.m, .slice A8 (m - 2) c8], .int .i64 0]) ?_ rfl (FO _ _ ?_ ?_)
                    · rw [results_cell_tmp rfl]
                      go_simp
                    · exact (((((hG.out.own.other (by omega) _ _).other (by omega) _ _).other (by omega) _ _).other (by omega) _ _).other (by omega) _ _).base (by omega)
                    · (repeat' (first | exact hG.out.below | exact Nat.le_succ _ | (with_reducible refine Below.setCell ?_ ?_ _)))
        case neg =>
          have hat : Fr.at_ l = 5 := if_neg hk1
          have hcnt : Fr.cnt l = l.getD 5 0 := by rw [Fr.cnt, hat]
          have hk1b : (Fr.kd l != 1) = true := by simpa using hk1
          rw [show ((l.length : Int) - 2) = ((l.length : Int) - 2) from rfl]
          by_cases hlen : (5 : Int) < (l.length : Int) - 2
          case neg =>
            have FF := FF (form_len (by rw [hat]; exact hlen) fun k => (hl.out.getD k).1)
            have q1 : (l.length : Int) - 2 ≤ 5 := by omega
            clear hFS FO HO hcnt hat hmay

            obtain ⟨f0, f1, f2, f3, f4⟩ := hx2.out.fr
            obtain ⟨r0, r1, r2, r3, r4⟩ := hx2.out.res
            have z0 := hx2.out.fz (w.heap.size + 1) 0 (by omega) (by omega)
            have z1 := hx2.out.fz (w.heap.size + 1) 1 (by omega) (by omega)
            have z2 := hx2.out.fz (w.heap.size + 1) 2 (by omega) (by omega)
            have z3 := hx2.out.fz (w.heap.size + 1) 3 (by omega) (by omega)
            have z4 := hx2.out.fz (w.heap.size + 1) 4 (by omega) (by omega)
            go_wp2_with fail
            go_step3
            simp only [Exit.then]
            refine ⟨rfl, ?_⟩
            go_wp2_with fail
            change bodyPost _ _ _ Exit.ret _ _
            refine bodyPost_ret (v := .tuple #[.agg #[.int .i64 0, .int .i64 0, .int .i64 0, .int .i64 0, .slice none 0 0], .int .i64 2]) ?_ rfl (FF _ ?_)
            · rw [results_cell_tmp rfl]
              go_simp
            · (repeat' (first | exact hx2.out.below | exact Nat.le_succ _ | (with_reducible refine Below.setCell ?_ ?_ _)))
          case pos =>
            obtain ⟨m, hm⟩ : ∃ m, l.length = m + 2 := ⟨l.length - 2, by omega⟩
            obtain ⟨b, off, rfl, hbb, hcell⟩ := hs (by omega)
            have hx := hl.out.getD 5
            have k0 : w2.cell? ⟨b, off + 5, none⟩ = some (.int .u8 (l.getD 5 0)) := (bcell hx2.out.below b (off + 5) hbb).trans (hcell 5 (by omega))
            have hmI : (l.length : Int) - 2 = (m : Int) := by omega
            rw [hmI]
            obtain ⟨x, hxe⟩ : ∃ x, l.getD 5 0 = x := ⟨_, rfl⟩
            rw [hxe] at hx k0 hcnt
            clear hxe
            have q1 : ¬ (m : Int) ≤ 5 := by omega
            have q2 : (5 : Int) < (l.length : Int) := by omega
            by_cases hx8 : 8 < x
            case pos =>
              have FF := FF (form_cnt (by rw [hcnt]; exact hx8))
              clear hFS FO HO hcnt hat hmay hcell
              obtain ⟨f0, f1, f2, f3, f4⟩ := hx2.out.fr
              obtain ⟨r0, r1, r2, r3, r4⟩ := hx2.out.res
              have z0 := hx2.out.fz (w.heap.size + 1) 0 (by omega) (by omega)
              have z1 := hx2.out.fz (w.heap.size + 1) 1 (by omega) (by omega)
              have z2 := hx2.out.fz (w.heap.size + 1) 2 (by omega) (by omega)
              have z3 := hx2.out.fz (w.heap.size + 1) 3 (by omega) (by omega)
              have z4 := hx2.out.fz (w.heap.size + 1) 4 (by omega) (by omega)
              go_wp2_with fail
              go_step3
              simp only [Exit.then]
              refine ⟨rfl, ?_⟩
              go_wp2_with fail
              change bodyPost _ _ _ Exit.ret _ _
              refine bodyPost_ret (v := .tuple #[.agg #[.int .i64 0, .int .i64 0, .int .i64 0, .int .i64 0, .slice none 0 0], .int .i64 2]) ?_ rfl (FF _ ?_)
              · rw [results_cell_tmp rfl]
                go_simp
              · (repeat' (first | exact hx2.out.below | exact Nat.le_succ _ | (with_reducible refine Below.setCell ?_ ?_ _)))
            case neg =>
              by_cases he : 6 + x = (m : Int)
              case neg =>
                have FF := FF (form_eq (by rw [hat, hcnt]; omega))
                have heb : (6 + x != (m : Int)) = true := by simpa using he
                clear hFS FO HO hcnt hat hmay hcell
                obtain ⟨f0, f1, f2, f3, f4⟩ := hx2.out.fr
                obtain ⟨r0, r1, r2, r3, r4⟩ := hx2.out.res
                have z0 := hx2.out.fz (w.heap.size + 1) 0 (by omega) (by omega)
                have z1 := hx2.out.fz (w.heap.size + 1) 1 (by omega) (by omega)
                have z2 := hx2.out.fz (w.heap.size + 1) 2 (by omega) (by omega)
                have z3 := hx2.out.fz (w.heap.size + 1) 3 (by omega) (by omega)
                have z4 := hx2.out.fz (w.heap.size + 1) 4 (by omega) (by omega)
                go_wp2_with fail
                go_step3
                simp only [Exit.then]
                refine ⟨rfl, ?_⟩
                go_wp2_with fail
                change bodyPost _ _ _ Exit.ret _ _
                refine bodyPost_ret (v := .tuple #[.agg #[.int .i64 0, .int .i64 0, .int .i64 0, .int .i64 0, .slice none 0 0], .int .i64 2]) ?_ rfl (FF _ ?_)
                · rw [results_cell_tmp rfl]
                  go_simp
                · (repeat' (first | exact hx2.out.below | exact Nat.le_succ _ | (with_reducible refine Below.setCell ?_ ?_ _)))
              case pos =>
                have heb : (6 + x != (m : Int)) = false := by simpa using he
                have a1 := (bcell hx2.out.below b (off + 1) hbb).trans (hcell 1 (by omega))
                have a2 := (bcell hx2.out.below b (off + 2) hbb).trans (hcell 2 (by omega))
                have a3 := (bcell hx2.out.below b (off + 3) hbb).trans (hcell 3 (by omega))
                have a4 := (bcell hx2.out.below b (off + 4) hbb).trans (hcell 4 (by omega))
                unfold bv at a1 a2 a3 a4
                have HR := Lib.hid (read_any b (off + 1) 4 (c - 1) (l.getD 1 0) (l.getD 2 0) (l.getD 3 0) (l.getD 4 0) w2 (by omega) (by unfold maxLen; omega) (by have := hx2.out.below.size; omega) a1 a2 a3 a4 (hl.out.getD 1) (hl.out.getD 2) (hl.out.getD 3) (hl.out.getD 4))
                have hst : Fr.stOf l own = ⟨l.getD 1 0 * 256 + l.getD 2 0, l.getD 3 0, l.getD 4 0⟩ := if_neg hk1
                rw [← hst] at HR
                generalize hst2 : Fr.stOf l own = t at *
                clear a1 a2 a3 a4 hst
                unfold stV at HR
                have p1 : (5 : Int) ≤ (c : Int) := by omega
                go_wp2_with fail
                refine HR.out.mono ?_
                rintro e w3 ⟨rfl, hb3⟩
                have hx3 := Lib.hid (hx2.out.keep hb3)
                clear HR hb3 hx2 k0
                obtain ⟨s0, s1, s2⟩ := hx3.out.st
                have y0 := hx3.out.fz (w.heap.size + 1 + 1 + 1) 0 (by omega) (by omega)
                have y1 := hx3.out.fz (w.heap.size + 1 + 1 + 1) 1 (by omega) (by omega)
                have y2 := hx3.out.fz (w.heap.size + 1 + 1 + 1) 2 (by omega) (by omega)
                go_wp2_with fail
                have hx4 := Lib.hid (hx3.out.store t)
                generalize ((w3.setCell ⟨w.heap.size + 1 + 1 + 1, 0, none⟩ (.int .i64 t.r)).setCell ⟨w.heap.size + 1 + 1 + 1, 1, none⟩ (.int .i64 t.s)).setCell ⟨w.heap.size + 1 + 1 + 1, 2, none⟩ (.int .i64 t.m) = w4 at *
                clear hx3 s0 s1 s2 y0 y1 y2 p1
                refine (HO _ _).out.mono ?_
                rintro e w5 ⟨rfl, hb5⟩
                have hx5 := Lib.hid (hx4.out.keep hb5)
                clear hx4 hb5 HO heb
                by_cases hts : t.may = true
                case neg =>
                  have hts : t.may = false := by simpa using hts
                  rw [hts]
                  have FF := FF (form_st (by rw [hst2]; exact hts))
                  clear hFS FO hcnt hat hcell hts
                  obtain ⟨f0, f1, f2, f3, f4⟩ := hx5.out.fr
                  obtain ⟨r0, r1, r2, r3, r4⟩ := hx5.out.res
                  have z0 := hx5.out.fz (w.heap.size + 1) 0 (by omega) (by omega)
                  have z1 := hx5.out.fz (w.heap.size + 1) 1 (by omega) (by omega)
                  have z2 := hx5.out.fz (w.heap.size + 1) 2 (by omega) (by omega)
                  have z3 := hx5.out.fz (w.heap.size + 1) 3 (by omega) (by omega)
                  have z4 := hx5.out.fz (w.heap.size + 1) 4 (by omega) (by omega)
                  go_wp2_with fail
                  go_step3
                  simp only [Exit.then]
                  refine ⟨rfl, ?_⟩
                  go_wp2_with fail
                  change bodyPost _ _ _ Exit.ret _ _
                  refine bodyPost_ret (v := .tuple #[.agg #[.int .i64 0, .int .i64 0, .int .i64 0, .int .i64 0, .slice none 0 0], .int .i64 2]) ?_ rfl (FF _ ?_)
                  · rw [results_cell_tmp rfl]
                    go_simp
                  · (repeat' (first | exact hx5.out.below | exact Nat.le_succ _ | (with_reducible refine Below.setCell ?_ ?_ _)))
                case pos =>
                  rw [hts]
                  have hform : Fr.formB l own = true := form_yes hkd hmay (by rw [hat]; exact hlen) (by rw [hcnt]; omega) (by rw [hat, hcnt]; omega) (by rw [hst2]; exact hts)
                  have hFS := hFS hform
                  have FO := FO hform
                  have hxN : x.toNat = m - 6 := by omega
                  have hrd : Fr.rd l own = ⟨(Fr.kd l), t, (l.drop 6).take (m - 6)⟩ := by
                    unfold Fr.rd
                    rw [hat, hcnt, hst2, hxN]
                  have hsumB := sumB_code l own m hm hl.out
                  have hsub1 : SeesL w w.heap.size (.slice (some ⟨b, off, none⟩) m c) (l.take m) := by
                    have := SeesL.sub hv.out 0 m (by omega) (by omega) (some ⟨b, off, none⟩) rfl m c rfl rfl
                    simpa using this
                  have hsub3 : SeesL w w.heap.size (.slice (some ⟨b, off + 6, none⟩) (m - 6) (c - 6)) ((l.drop 6).take (m - 6)) := SeesL.sub hv.out 6 m (by omega) (by omega) _ rfl _ _ rfl rfl
                  have hsd : (if ((Fr.kd l) : Int) = 1 then St.seed t else 0) = Fr.sdOf l own := by
                    unfold Fr.sdOf
                    rw [if_neg hk1, if_neg hk1]
                  have hbl : bytesL (l.take m) := fun y hy => hl.out y (List.mem_of_mem_take hy)
                  have QU := fun W (hb : Below w5.heap.size w5 W) => Lib.hid ((sumf_any (Fr.kd l) t _ _ W ((hsub1.below (hx5.out.below.trans (hb.mono hx5.out.below.size))).more (hx5.out.below.trans (hb.mono hx5.out.below.size)).size) hbl).mono (R' := fun e w' => e = .returned (.int .i64 (Fr.sumL (Fr.sdOf l own) (l.take m) : Nat)) ∧ Below w5.heap.size w5 w') fun e w' h => ⟨by rw [← hsd]; exact h.1, hb.trans (h.2.mono hb.size)⟩)
                  have u0 := hcell m (by omega)
                  have u1 := hcell (m + 1) (by omega)
                  unfold bv at u0 u1
                  have g0 := hl.out.getD m
                  have g1 := hl.out.getD (m + 1)
                  generalize l.getD m 0 = y0 at *
                  generalize l.getD (m + 1) 0 = y1 at *
                  generalize Fr.sumL (Fr.sdOf l own) (l.take m) = S at *
                  have QP := fun W (hb : Below w5.heap.size w5 W) => Lib.hid ((pair_any b (off + m) (c - m) 2 y0 y1 W (by omega) (by unfold maxLen; omega) ((bcell (hx5.out.below.trans (hb.mono hx5.out.below.size)) b (off + m) hbb).trans u0) ((bcell (hx5.out.below.trans (hb.mono hx5.out.below.size)) b (off + m + 1) hbb).trans u1) g0 g1).mono (R' := fun e w' => e = .returned (.int .i64 (y0 * 256 + y1)) ∧ Below w5.heap.size w5 w') fun e w' h => ⟨h.1, by obtain ⟨-, q, rfl⟩ := h; exact below_drewN hb q⟩)
                  have CS := fun (W : World) (hb : Below w5.heap.size w5 W) => (hx5.out.keep hb).st
                  have B5 := Below.refl w5.heap.size w5
                  have hx := hx5
                  have hm8 : m - 6 ≤ 8 := by omega
                  clear hx5 hcell u0 u1 g0 g1 hbl hsd hsub1 hxN hform FF hts hmay hat hcnt hv he
                  have p1 : (m : Int) ≤ (c : Int) := by omega
                  have p2 : (m : Int) ≤ (m : Int) + 2 := by omega
                  have p3 : (m + 2) - m = 2 := by omega
                  unfold stV at QU
                  obtain ⟨s0, s1, s2⟩ := CS _ B5
                  go_wp2_with fail
                  go_cut [72] from 62 (fun s72 W => s72 = .bool ((S : Int) != y0 * 256 + y1) ∧ Below w5.heap.size w5 W)
                  case first =>
                    go_region_held3 (fun W => W.cell? ⟨w.heap.size + 1 + 1 + 1, 0, none⟩ = some (.int .i64 t.r) ∧ W.cell? ⟨w.heap.size + 1 + 1 + 1, 1, none⟩ = some (.int .i64 t.s) ∧ W.cell? ⟨w.heap.size + 1 + 1 + 1, 2, none⟩ = some (.int .i64 t.m))
                      (first | exact CS _ B5 | exact CS _ B5.drew | exact CS _ hb6 | exact CS _ hb6.drew | exact CS _ hb7 | exact CS _ hb7.drew)
                      (first
                        | ((go_at_call 111; refine (QU _ ?_).out.mono ?_); (focus (first | exact B5 | exact B5.drew)); rintro e w6 ⟨rfl, hb6⟩)
                        | ((go_at_call 167; refine (QP _ ?_).out.mono ?_); (focus (first | exact hb6 | exact hb6.drew)); rintro e w7 ⟨rfl, hb7⟩)
                        | fail)
                    all_goals
                      go_wp2_with fail
                      go_meet
                      exact ⟨rfl, by first | exact hb7 | exact hb7.drew⟩
                  case rest =>
                    obtain ⟨rfl, hb7⟩ := hcut
                    have hx7 := Lib.hid (hx.out.keep hb7)
                    clear hx QU QP CS B5 s0 s1 s2
                    by_cases hS : (S : Int) = y0 * 256 + y1
                    case neg =>
                      have hSb : ((S : Int) != y0 * 256 + y1) = true := by simpa using hS
                      have hFS := hFS (by rw [hsumB]; simpa using hS)
                      rw [hSb]
                      clear FO hsumB hS hSb hrd hsub3
                      obtain ⟨f0, f1, f2, f3, f4⟩ := hx7.out.fr
                      obtain ⟨r0, r1, r2, r3, r4⟩ := hx7.out.res
                      have z0 := hx7.out.fz (w.heap.size + 1) 0 (by omega) (by omega)
                      have z1 := hx7.out.fz (w.heap.size + 1) 1 (by omega) (by omega)
                      have z2 := hx7.out.fz (w.heap.size + 1) 2 (by omega) (by omega)
                      have z3 := hx7.out.fz (w.heap.size + 1) 3 (by omega) (by omega)
                      have z4 := hx7.out.fz (w.heap.size + 1) 4 (by omega) (by omega)
                      go_wp2_with fail
                      go_step3
                      simp only [Exit.then]
                      refine ⟨rfl, ?_⟩
                      go_wp2_with fail
                      change bodyPost _ _ _ Exit.ret _ _
                      refine bodyPost_ret (v := .tuple #[.agg #[.int .i64 0, .int .i64 0, .int .i64 0, .int .i64 0, .slice none 0 0], .int .i64 3]) ?_ rfl (hFS _ ?_)
                      · rw [results_cell_tmp rfl]
                        go_simp
                      · (repeat' (first | exact hx7.out.below | exact Nat.le_succ _ | (with_reducible refine Below.setCell ?_ ?_ _)))
                    case pos =>
                      have hSb : ((S : Int) != y0 * 256 + y1) = false := by simpa using hS
                      have FO := FO (by rw [hsumB]; simpa using hS)
                      rw [hrd] at FO
                      unfold frV at FO
                      rw [hSb]
                      clear hFS hsumB hS hSb hrd
                      have hdl : ((l.drop 6).take (m - 6)).length = m - 6 := by rw [List.length_take, List.length_drop]; omega
                      have QC := fun W (hb : Below wc.heap.size wc W) => Lib.hid ((clone_any _ _ W w.heap.size (hsub3.below (hx7.out.below.trans (hb.mono hx7.out.below.size))) (by rw [hdl]; omega)).mono (R' := fun e w' => (∃ A8 c8, e = .returned (.slice A8 (m - 6) c8) ∧ OwnsL w' wc.heap.size (.slice A8 (m - 6) c8) ((l.drop 6).take (m - 6))) ∧ Below wc.heap.size wc w') fun e w' h => by
                        obtain ⟨v, rfl, ho, hb'⟩ := h
                        obtain ⟨A8, c8, rfl, -⟩ := ho.sees.at_
                        refine ⟨⟨A8, c8, by rw [hdl], ?_⟩, hb.trans (hb'.mono hb.size)⟩
                        rw [hdl] at ho
                        exact ho.base hb.size)
                      generalize (l.drop 6).take (m - 6) = dl at *
                      have CS := fun (W : World) (hb : Below wc.heap.size wc W) => (hx7.out.keep hb).st
                      have B7 := Below.refl wc.heap.size wc
                      have p4 : (6 : Int) ≤ (m : Int) := by omega
                      have p5 : 6 ≤ m := by omega
                      have p6 : m ≤ c := by omega
                      have wrp : IntKind.i64.wrap 6 = 6 := by decide
                      have p7 : ¬ c = 6 := by omega
                      clear p2 p3
                      obtain ⟨s0, s1, s2⟩ := CS _ B7
                      clear hsub3
                      go_wp2_with fail
                      go_region_held3 (fun W => W.cell? ⟨w.heap.size + 1 + 1 + 1, 0, none⟩ = some (.int .i64 t.r) ∧ W.cell? ⟨w.heap.size + 1 + 1 + 1, 1, none⟩ = some (.int .i64 t.s) ∧ W.cell? ⟨w.heap.size + 1 + 1 + 1, 2, none⟩ = some (.int .i64 t.m))
                        (first | exact CS _ B7 | exact CS _ B7.drew | exact CS _ hb8 | exact CS _ hb8.drew | go_keep)
                        (first
                          | ((go_at_call 64; refine (QC _ ?_).out.mono ?_); (focus (first | exact B7 | exact B7.drew)); rintro e w8 ⟨⟨A8, c8, rfl, ho8⟩, hb8⟩; have hx8 := hx7.out.keep hb8; obtain ⟨f0, f1, f2, f3, f4⟩ := hx8.fr; have v0 := hx8.fz (w.heap.size + 1 + 1) 0 (by omega) (by omega); have v1 := hx8.fz (w.heap.size + 1 + 1) 1 (by omega) (by omega); have v2 := hx8.fz (w.heap.size + 1 + 1) 2 (by omega) (by omega); have v3 := hx8.fz (w.heap.size + 1 + 1) 3 (by omega) (by omega); have v4 := hx8.fz (w.heap.size + 1 + 1) 4 (by omega) (by omega))
                          | fail)
                      go_wp2_with fail
                      have hF := hx8.fill (show OwnsL w8 (w.heap.size + 1 + 1 + 1) _ dl from ho8.base (by have := hx7.out.lt; omega)) (.int .i64 (Fr.kd l)) (.int .i64 t.r) (.int .i64 t.s) (.int .i64 t.m) (.slice A8 (m - 6) c8)
                      generalize ((((w8.setCell ⟨w.heap.size + 1 + 1, 0, none⟩ (.int .i64 (Fr.kd l))).setCell ⟨w.heap.size + 1 + 1, 1, none⟩ (.int .i64 t.r)).setCell ⟨w.heap.size + 1 + 1, 2, none⟩ (.int .i64 t.s)).setCell ⟨w.heap.size + 1 + 1, 3, none⟩ (.int .i64 t.m)).setCell ⟨w.heap.size + 1 + 1, 4, none⟩ (.slice A8 (m - 6) c8) = w9 at *
                      obtain ⟨k0, k1, k2, k3, k4⟩ := hF.fr
                      obtain ⟨r0, r1, r2, r3, r4⟩ := hF.res
                      have z0 := hF.fz 0
                      have z1 := hF.fz 1
                      have z2 := hF.fz 2
                      have z3 := hF.fz 3
                      have z4 := hF.fz 4
                      have hG := Lib.hid hF
                      clear hF hx8 hx7 f0 f1 f2 f3 f4 v0 v1 v2 v3 v4 s0 s1 s2 CS B7 QC ho8 hb8 hb7 p1 p4 p5 p6 p7 wrp
                      go_step3
                      go_wp2_with fail
                      change bodyPost _ _ _ Exit.ret _ _
                      refine bodyPost_ret (v := .tuple #[.agg #[.int .i64 (Fr.kd l), .int .i64 t.r, .int .i64 t.s, .int .i64 t.m, .slice A8 (m - 6) c8], .int .i64 0]) ?_ rfl (FO _ _ ?_ ?_)
                      · rw [results_cell_tmp rfl]
                        go_simp
                      · exact (((((hG.out.own.other (by omega) _ _).other (by omega) _ _).other (by omega) _ _).other (by omega) _ _).other (by omega) _ _).base (by omega)
                      · (repeat' (first | exact hG.out.below | exact Nat.le_succ _ | (with_reducible refine Below.setCell ?_ ?_ _)))
end Go.Proofs.YtpdenmcacaajkaaGreat
