/- Texts FrK, FrO, FrP, GdC, Pb in one. For what each says in front of its theorems. -/
import Derived.ProofKit
import Derived.OpenShut
import Derived.Lib.SmallJoins
import Derived.BigRegion
import Derived.Test.YtmlnkkalajnjhaaSB18
/-! ### FrK -/
namespace Go.Proofs.Ytmlnkkalajnjhaa
open Go.RowKit
open Fr (St F)

end Go.Proofs.Ytmlnkkalajnjhaa

/-! ### FrO -/
namespace Go.Proofs.Ytmlnkkalajnjhaa
open Go.ChangeShapes Go.WideShapes Go.ChangeAt Go.RowKit Go.Joins Go.Deep
open Fr (St F)

/-- Bounds of an int. -/
def i64f (x : Int) : Prop := -9223372036854775808 ≤ x ∧ x ≤ 9223372036854775807
structure InState (s : St) : Prop where
  hr : i64f s.r
  hs : i64f s.s
  hm : i64f s.m
structure InFrame (w : World) (f : F) (v : Value) : Prop where
  sees : SeesL w w.heap.size v f.d
  bytes : bytesL f.d
  hk : i64f f.k
  hst : InState f.st
  reach : f.d.length ≤ 140737488351232

section
variable {H : Type} {enc : TypeId × Value → H} {P : Program} {w : World} {base : Nat} {spare : Nat → Bool} {held : Bool}
theorem int_cell {t : TypeId} {n : Nat} {v : Value} {y : DataW H × List MemPlace} (hi : P.underlying t = some (.int .i64)) (h : DataW.trod enc P w base spare held n t [v] = some y) : ∃ z, v = .int .i64 z ∧ i64f z := by
  obtain ⟨z, hz, hy, hw⟩ := DataW.trod_int hi h
  exact ⟨z, by simpa using hz, bounds_i64 hw⟩
theorem array5 {α : Type} {cs : Array α} (h : cs.size = 5) : ∃ c0 c1 c2 c3 c4, cs = #[c0, c1, c2, c3, c4] := by
  obtain ⟨l⟩ := cs
  match l, h with
  | [c0, c1, c2, c3, c4], _ => exact ⟨c0, c1, c2, c3, c4, rfl⟩
theorem state_cells {t ti : TypeId} {f0 f1 f2 : Field} {n : Nat} {c0 c1 c2 : Value} {y : DataW H × List MemPlace} (hs : P.underlying t = some (.struct #[f0, f1, f2])) (t0 : f0.type = ti ∧ f0.offset = 0) (t1 : f1.type = ti ∧ f1.offset = 1) (t2 : f2.type = ti ∧ f2.offset = 2) (hi : P.underlying ti = some (.int .i64)) (hc : P.cellsOf ti = 1)
    (h : DataW.trod enc P w base spare held n t [c0, c1, c2] = some y) : ∃ s : St, c0 = .int .i64 s.r ∧ c1 = .int .i64 s.s ∧ c2 = .int .i64 s.m ∧ InState s := by
  obtain ⟨y0, y1, y2, m, _, _, h0, h1, h2⟩ := trod_struct3 hs h
  rw [t0.1, t0.2, hc] at h0
  rw [t1.1, t1.2, hc] at h1
  rw [t2.1, t2.2, hc] at h2
  obtain ⟨a, rfl, ha⟩ := int_cell hi h0
  obtain ⟨b, rfl, hb⟩ := int_cell hi h1
  obtain ⟨c, rfl, hc⟩ := int_cell hi h2
  exact ⟨⟨a, b, c⟩, rfl, rfl, rfl, ha, hb, hc⟩
theorem sees_state {r : Reach} {b0 : Nat} {t ti : TypeId} {f0 f1 f2 : Field} {v : Value} {d : DataW H} {ps : List MemPlace} (hs : P.underlying t = some (.struct #[f0, f1, f2])) (hC : P.cellsOf t = 3) (t0 : f0.type = ti ∧ f0.offset = 0) (t1 : f1.type = ti ∧ f1.offset = 1) (t2 : f2.type = ti ∧ f2.offset = 2) (hi : P.underlying ti = some (.int .i64)) (hc : P.cellsOf ti = 1)
    (hv : Value.okWide P w r b0 t v) (h : DataW.Trod enc P w base spare held t v d ps) : ∃ s : St, v = stV s ∧ InState s := by
  obtain ⟨cs, rfl, hsz⟩ := okWide_struct hs hv
  obtain ⟨c0, c1, c2, rfl⟩ := array3 (hsz.trans hC)
  obtain ⟨fuel, hf⟩ := h
  obtain ⟨s, rfl, rfl, rfl, hS⟩ := state_cells hs t0 t1 t2 hi hc hf
  exact ⟨s, rfl, hS⟩
theorem sees_frame {r : Reach} {b0 : Nat} {t ts ti tb te : TypeId} {g0 g1 g2 f0 f1 f2 : Field} {v : Value} {d : DataW H} {ps : List MemPlace} (hF : P.underlying t = some (.struct #[g0, g1, g2])) (hC : P.cellsOf t = 5) (u0 : g0.type = ti ∧ g0.offset = 0) (u1 : g1.type = ts ∧ g1.offset = 1) (u2 : g2.type = tb ∧ g2.offset = 4)
    (hS : P.underlying ts = some (.struct #[f0, f1, f2])) (hCs : P.cellsOf ts = 3) (t0 : f0.type = ti ∧ f0.offset = 0) (t1 : f1.type = ti ∧ f1.offset = 1) (t2 : f2.type = ti ∧ f2.offset = 2) (hi : P.underlying ti = some (.int .i64)) (hc : P.cellsOf ti = 1)
    (hb : P.underlying tb = some (.slice te)) (he : P.underlying te = some (.int .u8)) (hcb : P.cellsOf tb = 1) (hce : P.cellsOf te = 1) (hbe : P.bytesOf te = 1)
    (hv : Value.okWide P w r b0 t v) (hw : ∀ n ∈ d.weights P t, n ≤ reachBytes) (h : DataW.Trod enc P w base spare held t v d ps) : ∃ (f : F) (s : Value), v = frV f s ∧ InFrame w f s := by
  obtain ⟨cs, rfl, hsz⟩ := okWide_struct hF hv
  obtain ⟨c0, c1, c2, c3, c4, rfl⟩ := array5 (hsz.trans hC)
  obtain ⟨fuel, hf⟩ := h
  obtain ⟨y0, y1, y2, n, hx, _, h0, h1, h2⟩ := trod_struct3 hF hf
  rw [u0.1, u0.2, hc] at h0
  rw [u1.1, u1.2, hCs] at h1
  rw [u2.1, u2.2, hcb] at h2
  obtain ⟨k, rfl, hk⟩ := int_cell hi h0
  obtain ⟨st, rfl, rfl, rfl, hst⟩ := state_cells hS t0 t1 t2 hi hc h1
  have h2' : DataW.trod enc P w base spare held n tb [c4] = some y2 := h2
  have hd : d = .agg [y0.1, y1.1, y2.1] := (Prod.mk.inj hx).1
  have hw2 : ∀ m ∈ y2.1.weights P tb, m ≤ reachBytes := fun m hm => hw m (by
    rw [hd]
    simp only [DataW.weights, hF, List.map_cons, List.map_nil, DataW.weightsEach, u2.1]
    simp [hm])
  have hform : ∃ A l c, c4 = .slice A l c := by
    rcases open_ints hb he hce h2' with ⟨hcs, _⟩ | ⟨x, l, cp, zs, hcs, _⟩
    · exact ⟨_, _, _, by simpa using hcs⟩
    · exact ⟨_, _, _, by simpa using hcs⟩
  obtain ⟨A, l, c, rfl⟩ := hform
  obtain ⟨z, hz⟩ := sees_bytesn (d := y2.1) (ps := y2.2) hb he hce ⟨n, h2'⟩ hbe (fun es rest hes => hw2 _ (by rw [hes]; simp [DataW.weights, hb]))
  obtain ⟨hl1, hl2⟩ := hz.list
  exact ⟨⟨k, st, lst z l⟩, .slice A l c, rfl, hl1, hl2, hk, hst, by rw [lst_length]; exact hz.reach⟩
end
end Go.Proofs.Ytmlnkkalajnjhaa

/-! ### FrP -/
namespace Go.Proofs.Ytmlnkkalajnjhaa
open Go.RowKit
open Fr (St F)

theorem OwnsL.block {w : World} {B : Nat} {v : Value} {l : List Int} (h : OwnsL w B v l) (h0 : 0 < l.length) : ∃ g c, v = .slice (some ⟨g, 0, none⟩) l.length c ∧ B ≤ g := by
  rcases h.2 with ⟨_, h2⟩ | ⟨g, cap, cur, h1, h2, _⟩
  · omega
  · exact ⟨g, cap, h1, h2⟩
theorem OwnsL.cell {w : World} {B g n c : Nat} {l : List Int} (h : OwnsL w B (.slice (some ⟨g, 0, none⟩) n c) l) (hn : n = l.length) {i : Nat} (hi : i < l.length) : w.cell? ⟨g, i, none⟩ = some (.int .u8 (l.getD i 0)) := by
  subst hn
  exact Owns.cell h hi
theorem OwnsL.frozen {w : World} {B g n c : Nat} {l : List Int} (h : OwnsL w B (.slice (some ⟨g, 0, none⟩) n c) l) (hn : n = l.length) (i : Nat) : w.frozen? ⟨g, i, none⟩ = false := by
  subst hn
  exact Owns.frozen h i
theorem OwnsL.set {w : World} {B g n c : Nat} {l : List Int} (h : OwnsL w B (.slice (some ⟨g, 0, none⟩) n c) l) (hn : n = l.length) (i : Nat) (x : Int) (hi : i < l.length) : OwnsL (w.setCell ⟨g, i, none⟩ (.int .u8 x)) B (.slice (some ⟨g, 0, none⟩) n c) (l.set i x) := by
  subst hn
  have := Owns.set_ h i (.int .u8 x) (V' := bv (l.set i x)) (by simp [bv, List.getD_eq_getElem?_getD, hi]) (fun j _ hj => by simp [bv, List.getD_eq_getElem?_getD, List.getElem?_set_ne (Ne.symm hj)])
  unfold OwnsL
  rw [List.length_set]
  exact this
theorem bytesL.set {l : List Int} (h : bytesL l) (i : Nat) {x : Int} (hx : 0 ≤ x ∧ x < 256) : bytesL (l.set i x) := fun y hy => by
  rcases List.mem_or_eq_of_mem_set hy with hy | rfl
  · exact h y hy
  · exact hx
/-- Two new blocks, of five cells and of three. -/
structure Box53 (w w0 : World) (x0 x1 x2 x3 x4 y0 y1 y2 : Value) : Prop where
  size : w0.heap.size = w.heap.size + 2
  below : Below w.heap.size w w0
  cell : ∀ W, Below w0.heap.size w0 W → w.heap.size + 1 < W.heap.size ∧ (W.cell? ⟨w.heap.size, 0, none⟩ = some x0 ∧ W.cell? ⟨w.heap.size, 1, none⟩ = some x1 ∧ W.cell? ⟨w.heap.size, 2, none⟩ = some x2 ∧ W.cell? ⟨w.heap.size, 3, none⟩ = some x3 ∧ W.cell? ⟨w.heap.size, 4, none⟩ = some x4) ∧
    W.cell? ⟨w.heap.size + 1, 0, none⟩ = some y0 ∧ W.cell? ⟨w.heap.size + 1, 1, none⟩ = some y1 ∧ W.cell? ⟨w.heap.size + 1, 2, none⟩ = some y2
theorem box53 (w : World) (x0 x1 x2 x3 x4 y0 y1 y2 : Value) (t t' : TypeId) : Box53 w ((w.alloc (.cells #[x0, x1, x2, x3, x4] t)).alloc (.cells #[y0, y1, y2] t')) x0 x1 x2 x3 x4 y0 y1 y2 := by
  refine ⟨by simp, ((Below.refl _ _).alloc (Nat.le_refl _) _).alloc (by simp) _, fun W hb => ?_⟩
  have hz := hb.size
  have hc := bcell hb
  simp only [World.size_alloc] at hz
  refine ⟨by omega, ⟨?_, ?_, ?_, ?_, ?_⟩, ?_, ?_, ?_⟩
  iterate 5 (rw [hc _ _ (by simp; omega), World.cell?_alloc_past _ _ _ (by simp), World.cell?_alloc_at _ _ _ _ rfl]; rfl)
  iterate 3 (rw [hc _ _ (by simp), World.cell?_alloc_at _ _ _ _ (by simp)]; rfl)
structure Box55 (w w0 : World) (x0 x1 x2 x3 x4 y0 y1 y2 y3 y4 : Value) : Prop where
  size : w0.heap.size = w.heap.size + 2
  below : Below w.heap.size w w0
  cell : ∀ W, Below w0.heap.size w0 W → w.heap.size + 1 < W.heap.size ∧ (W.cell? ⟨w.heap.size, 0, none⟩ = some x0 ∧ W.cell? ⟨w.heap.size, 1, none⟩ = some x1 ∧ W.cell? ⟨w.heap.size, 2, none⟩ = some x2 ∧ W.cell? ⟨w.heap.size, 3, none⟩ = some x3 ∧ W.cell? ⟨w.heap.size, 4, none⟩ = some x4) ∧
    W.cell? ⟨w.heap.size + 1, 0, none⟩ = some y0 ∧ W.cell? ⟨w.heap.size + 1, 1, none⟩ = some y1 ∧ W.cell? ⟨w.heap.size + 1, 2, none⟩ = some y2 ∧ W.cell? ⟨w.heap.size + 1, 3, none⟩ = some y3 ∧ W.cell? ⟨w.heap.size + 1, 4, none⟩ = some y4
theorem box55 (w : World) (x0 x1 x2 x3 x4 y0 y1 y2 y3 y4 : Value) (t t' : TypeId) : Box55 w ((w.alloc (.cells #[x0, x1, x2, x3, x4] t)).alloc (.cells #[y0, y1, y2, y3, y4] t')) x0 x1 x2 x3 x4 y0 y1 y2 y3 y4 := by
  refine ⟨by simp, ((Below.refl _ _).alloc (Nat.le_refl _) _).alloc (by simp) _, fun W hb => ?_⟩
  have hz := hb.size
  have hc := bcell hb
  simp only [World.size_alloc] at hz
  refine ⟨by omega, ⟨?_, ?_, ?_, ?_, ?_⟩, ?_, ?_, ?_, ?_, ?_⟩
  iterate 5 (rw [hc _ _ (by simp; omega), World.cell?_alloc_past _ _ _ (by simp), World.cell?_alloc_at _ _ _ _ rfl]; rfl)
  iterate 5 (rw [hc _ _ (by simp), World.cell?_alloc_at _ _ _ _ (by simp)]; rfl)
structure Box33 (w w0 : World) (x0 x1 x2 y0 y1 y2 : Value) : Prop where
  size : w0.heap.size = w.heap.size + 2
  below : Below w.heap.size w w0
  cell : ∀ W, Below w0.heap.size w0 W → w.heap.size + 1 < W.heap.size ∧ (W.cell? ⟨w.heap.size, 0, none⟩ = some x0 ∧ W.cell? ⟨w.heap.size, 1, none⟩ = some x1 ∧ W.cell? ⟨w.heap.size, 2, none⟩ = some x2) ∧
    W.cell? ⟨w.heap.size + 1, 0, none⟩ = some y0 ∧ W.cell? ⟨w.heap.size + 1, 1, none⟩ = some y1 ∧ W.cell? ⟨w.heap.size + 1, 2, none⟩ = some y2
theorem box33 (w : World) (x0 x1 x2 y0 y1 y2 : Value) (t t' : TypeId) : Box33 w ((w.alloc (.cells #[x0, x1, x2] t)).alloc (.cells #[y0, y1, y2] t')) x0 x1 x2 y0 y1 y2 := by
  refine ⟨by simp, ((Below.refl _ _).alloc (Nat.le_refl _) _).alloc (by simp) _, fun W hb => ?_⟩
  have hz := hb.size
  have hc := bcell hb
  simp only [World.size_alloc] at hz
  refine ⟨by omega, ⟨?_, ?_, ?_⟩, ?_, ?_, ?_⟩
  iterate 3 (rw [hc _ _ (by simp; omega), World.cell?_alloc_past _ _ _ (by simp), World.cell?_alloc_at _ _ _ _ rfl]; rfl)
  iterate 3 (rw [hc _ _ (by simp), World.cell?_alloc_at _ _ _ _ (by simp)]; rfl)
theorem encR_is {f : F} (h : f.is = true) : encR f = f.bytes ∧ encE f = 0 := by simp [encR, encE, h]
theorem mask16 (a : Int) : bits BinOp.and IntKind.i64 a 65535 = (((a % 65536).toNat : Nat) : Int) := by
  show IntKind.i64.wrap ((BitVec.ofInt 64 a &&& BitVec.ofInt 64 65535).toNat : Int) = _
  rw [BitVec.toNat_and, show (BitVec.ofInt 64 65535).toNat = 2 ^ 16 - 1 by decide, Nat.and_two_pow_sub_one_eq_mod, BitVec.toNat_ofInt, IntKind.wrap_i64]
  omega
theorem xor_byte (x y : Int) (hx : 0 ≤ x ∧ x < 256) (hy : 0 ≤ y ∧ y < 256) (h : y ≠ 0) : (0 ≤ bits BinOp.xor IntKind.u8 x y ∧ bits BinOp.xor IntKind.u8 x y < 256) ∧ bits BinOp.xor IntKind.u8 x y ≠ x := by
  obtain ⟨X, rfl⟩ := Int.eq_ofNat_of_zero_le hx.1
  obtain ⟨Y, rfl⟩ := Int.eq_ofNat_of_zero_le hy.1
  have hl : X ^^^ Y < 256 := Nat.xor_lt_two_pow (n := 8) (by omega) (by omega)
  rw [u8_xor_nat X Y (by omega) (by omega)]
  refine ⟨⟨by omega, by omega⟩, fun e => h ?_⟩
  have e2 : X = X ^^^ Y := by omega
  have := congrArg (X ^^^ ·) e2
  simp only [Nat.xor_self, ← Nat.xor_assoc, Nat.zero_xor] at this
  omega
end Go.Proofs.Ytmlnkkalajnjhaa

/-! ### GdC -/
namespace Go.Proofs.Ytmlnkkalajnjhaa
open Go.RowKit
open Clk (avg)
open Fr (St F)

def z0 : St := ⟨0, 0, 0⟩
/-- Does it tell a slot? -/
def tells (l : List Int) (n : Nat) : Bool := decide (Fr.err l z0 = 0) && (!decide ((Fr.res l z0).k = 1)) && decide ((Fr.res l z0).st.s < n)
/-- By bytes that it does not know the slot by, or does. -/
def G.learnt (s : G) (l : List Int) (at_ : Int) : G :=
  if tells l s.n then ({ s with kn := true, slot := (Fr.res l z0).st.s.toNat, now := at_, si := 0, l := [] } : G).on else s
theorem tells_slot {l : List Int} (hl : bytesL l) (h : Fr.err l z0 = 0) : 0 ≤ (Fr.res l z0).st.s ∧ (Fr.res l z0).st.s < 8 := by
  have hf : Fr.formB l z0 = true := by
    unfold Fr.err at h
    cases hf : Fr.formB l z0
    · rw [hf] at h; simp at h
    · rfl
  have hs : Fr.sumB l z0 = true := by
    unfold Fr.err at h
    cases hs : Fr.sumB l z0
    · rw [hf, hs] at h; simp at h
    · rfl
  have h1 := (Fr.once hl hf hs).1
  have hr : Fr.res l z0 = Fr.rd l z0 := by simp [Fr.res, hf, hs]
  rw [hr]
  exact ((Fr.St.may_iff _).1 ((Fr.F.is_iff _).1 h1).2.1).2.1
set_option maxRecDepth 100000 in
set_option maxHeartbeats 4000000 in
theorem learn_gd (g : Nat) (s : G) (v : Value) (l : List Int) (at_ : Int) (w : World) (h : GAt w g s) (hn : s.n ≤ 8) (hm : 0 ≤ s.lm ∧ s.lm ≤ 9223372036854775807) (hv : SeesL w w.heap.size v l) (hl : bytesL l)
    (_hat : time at_) (hnow : time (at_ + termV s.lm [])) :
    Calls Try.prog 60 #[.pointer (some ⟨g, 0, none⟩), v, .int .i64 at_] w fun e w' => e = .returned (.tuple #[]) ∧ GAt w' g (s.learnt l at_) ∧ Only g w w' := by
  have hD := Lib.hid (decode_dev v l z0 w hv hl)
  have hts := Lib.hid (tells_slot hl)
  unfold Dec stV z0 at hD
  unfold G.learnt tells
  simp only at hD
  have ez : (⟨0, 0, 0⟩ : St) = z0 := rfl
  rw [ez] at hD
  generalize Fr.err l z0 = er at *
  generalize Fr.res l z0 = R at *
  obtain ⟨k, ⟨r, sl, m⟩, d⟩ := R
  unfold frV at hD
  simp only at hD hts ⊢
  clear ez
  go_enter Try.func60, Try.ntmps60
  go_wp2_with fail
  refine hD.out.mono ?_
  rintro e w1 ⟨v1, rfl, ho, hb⟩
  obtain ⟨A1, n1, rfl, -⟩ := ho.sees.at_
  have hB1 := (hb.alloc hb.size (.cells #[.int .i64 k, .int .i64 r, .int .i64 sl, .int .i64 m, .slice A1 d.length n1] 60))
  have H1 := h.below hB1 h.lt
  have hO1 := only_of_below g hB1
  have hX := Blk.new w1 _ rfl #[.int .i64 k, .int .i64 r, .int .i64 sl, .int .i64 m, .slice A1 d.length n1] 60
  have hgw : g < w1.heap.size := Nat.lt_of_lt_of_le h.lt hb.size
  go_wp2_with fail
  generalize hW1 : w1.alloc (.cells #[.int .i64 k, .int .i64 r, .int .i64 sl, .int .i64 m, .slice A1 d.length n1] 60) = W1 at *
  have x0 := hX.cell 0 (x := .int .i64 k) rfl
  have x2 := hX.cell 2 (x := .int .i64 sl) rfl
  have c8 := H1.1.cell 8 (x := .int .i64 (s.n : Nat)) rfl
  generalize w1.heap.size = b at *
  clear ho hB1 hW1 hb hX hD hv
  have HH : Hid (∀ n, GAt (W1.drewN n) g s) := Lib.hid fun n => ⟨H1.1.drewN n, H1.2⟩
  have HO : Hid (∀ n, Only g w (W1.drewN n)) := Lib.hid fun n => hO1.trans (only_of_below g (below_drewN (Below.refl _ W1) n))
  clear H1 hO1 h
  by_cases p1 : er = 0
  · subst p1
    obtain ⟨s0, s8⟩ := hts.out rfl
    by_cases p2 : k = 1
    · subst p2
      go_quiet (fail)
      go_wp2
      exact bodyPost_ret (results_none (by rfl) _ _ _) rfl ⟨rfl, HH.out _, HO.out _⟩
    · have q2 : (k == 1) = false := by rw [beq_eq_false_iff_ne]; exact p2
      by_cases p3 : sl < (s.n : Int)
      · have q3 : decide ((s.n : Int) ≤ sl) = false := decide_eq_false (by omega)
        have HX : Hid (∀ n, (W1.drewN n).cell? ⟨b, 2, none⟩ = some (.int .i64 sl)) := Lib.hid fun n => ((below_drewN (Below.refl (b + 1) W1) n).cell (p := ⟨b, 2, none⟩) (Nat.lt_succ_self _)).trans x2
        go_quiet (fail)
        have H2 := HH.out nq
        have hO2 := HO.out nq
        have y2 := HX.out nq
        clear HX HH HO x0 x2 c8
        generalize W1.drewN nq = W2 at *
        clear q3
        have c16 := H2.1.cell 16 (x := .int .i64 s.now) rfl
        have c17 := H2.1.cell 17 (x := .bool s.kn) rfl
        have c18 := H2.1.cell 18 (x := .int .i64 (s.slot : Nat)) rfl
        have c19 := H2.1.cell 19 (x := .int .i64 (s.si : Nat)) rfl
        have f16 := H2.1.frozen 16
        have f17 := H2.1.frozen 17
        have f18 := H2.1.frozen 18
        have f19 := H2.1.frozen 19
        have H2 := Lib.hid H2
        have hO2 := Lib.hid hO2
        have es : sl = (sl.toNat : Int) := by omega
        have H3 : Hid (GAt ((((W2.setCell ⟨g, 17, none⟩ (.bool true)).setCell ⟨g, 18, none⟩ (.int .i64 sl)).setCell ⟨g, 16, none⟩ (.int .i64 at_)).setCell ⟨g, 19, none⟩ (.int .i64 0)).drew g { s with kn := true, slot := sl.toNat, now := at_, si := 0 }) := Lib.hid
          ⟨(((((H2.out.1.set 17 (.bool true)).set 18 (.int .i64 sl)).set 16 (.int .i64 at_)).set 19 (.int .i64 ((0 : Nat) : Int))).drew).eq (by rw [grd_kn, congrArg (Value.int .i64) es, grd_slot, grd_now, grd_si]), H2.out.2⟩
        have hO3 := Lib.hid (((((hO2.out.set 17 (.bool true)).set 18 (.int .i64 sl)).set 16 (.int .i64 at_)).set 19 (.int .i64 0)).drew)
        have HE := Lib.hid es
        clear es
        go_wp2_with fail
        go_region
        generalize ((((W2.setCell ⟨g, 17, none⟩ (.bool true)).setCell ⟨g, 18, none⟩ (.int .i64 sl)).setCell ⟨g, 16, none⟩ (.int .i64 at_)).setCell ⟨g, 19, none⟩ (.int .i64 0)).drew = W3 at *
        go_wp2_with fail
        refine (clear_gd g _ _ H3.out).mono ?_
        rintro e w4 ⟨rfl, H4, hO4⟩
        go_wp2_with fail
        refine (goOn_gd g _ _ H4 (by show sl.toNat < s.n; omega) hn (by simp [small]) hm (fun _ => hnow)).mono ?_
        rintro e w5 ⟨rfl, H5, hO5⟩
        go_wp2
        exact bodyPost_end (results_none (by rfl) _ _ _) rfl ⟨rfl, by simpa [p2, p3] using H5, (hO3.out.trans hO4).trans hO5⟩
      · have q3 : decide ((s.n : Int) ≤ sl) = true := decide_eq_true (by omega)
        go_quiet (fail)
        go_wp2
        exact bodyPost_ret (results_none (by rfl) _ _ _) rfl ⟨rfl, by simpa [p2, p3] using HH.out _, HO.out _⟩
  · have q1 : (er != 0) = true := by rw [bne_iff_ne]; exact p1
    go_quiet (fail)
    all_goals
      go_wp2
      all_goals exact bodyPost_ret (results_none (by rfl) _ _ _) rfl ⟨rfl, by simpa [p1] using HH.out _, HO.out _⟩
/-- A slot is over. -/
def G.ended (s : G) (l : List Int) (at_ : Int) : G := if s.kn then (if 0 < l.length then s.heard at_ else s.missed) else s.learnt l at_
/-- What it may hold. -/
structure G.Ok (s : G) (at_ : Int) : Prop where
  n : s.n ≤ 8
  slot : s.slot < s.n
  small : small s.l
  lm : 0 ≤ s.lm ∧ s.lm ≤ 1099511627776
  now : -1125899906842624 ≤ s.now ∧ s.now ≤ 1125899906842624
  near : -1099511627776 ≤ at_ - s.now ∧ at_ - s.now ≤ 1099511627776
  si : s.si ≤ 1000
theorem term_bd (m : Int) (l : List Int) (hm : 0 ≤ m) : -m ≤ termV m l ∧ termV m l ≤ m := by
  unfold termV
  split
  · rename_i h
    exact of_decide_eq_true h
  · omega
set_option maxRecDepth 100000 in
set_option maxHeartbeats 4000000 in
theorem end_gd (g : Nat) (s : G) (v : Value) (l : List Int) (at_ : Int) (w : World) (h : GAt w g s) (ok : s.Ok at_) (hv : SeesL w w.heap.size v l) (hl : bytesL l) :
    Calls Try.prog 47 #[.pointer (some ⟨g, 0, none⟩), v, .int .i64 at_] w fun e w' => e = .returned (.tuple #[]) ∧ GAt w' g (s.ended l at_) ∧ Only g w w' := by
  obtain ⟨o1, o2, o3, o4, o5, o6, o7⟩ := ok
  have o4' : 0 ≤ s.lm ∧ s.lm ≤ 9223372036854775807 := ⟨o4.1, by omega⟩
  have tb := fun l => term_bd s.lm l o4.1
  have H1 := Lib.hid (learn_gd g s v l at_ w h o1 o4' hv hl (by unfold time; omega) (by have := tb []; unfold time; omega))
  have H2 := Lib.hid (hear_gd g s at_ w h o2 o1 o3 o4' (by unfold time; omega) (by unfold time; omega) (fun _ => o6) (fun _ => by have := tb (if s.sy s.slot then keep4 s.l (at_ - s.now) else s.l); unfold time; omega))
  have H3 := Lib.hid (miss_gd g s w h o2 o1 o3 o4' o7 (fun _ => by have := tb s.l; unfold time; omega))
  have c17 := h.1.cell 17 (x := .bool s.kn) rfl
  obtain ⟨A, c, rfl, -⟩ := hv.at_
  unfold G.ended
  clear h hv tb
  cases hk : s.kn
  · rw [hk] at c17
    go_enter Try.func47, Try.ntmps47
    go_wp2_with fail
    refine H1.out.mono ?_
    rintro e w4 ⟨rfl, H4, hO4⟩
    go_wp2
    exact bodyPost_end (results_none (by rfl) _ _ _) rfl ⟨rfl, H4, hO4⟩
  · rw [hk] at c17
    by_cases h0 : 0 < l.length
    · have q1 : decide ((0 : Int) < (l.length : Nat)) = true := decide_eq_true (by omega)
      go_enter Try.func47, Try.ntmps47
      go_wp2_with fail
      refine H2.out.mono ?_
      rintro e w4 ⟨rfl, H4, hO4⟩
      go_wp2
      exact bodyPost_end (results_none (by rfl) _ _ _) rfl ⟨rfl, by simpa [h0] using H4, hO4⟩
    · have q1 : decide ((0 : Int) < (l.length : Nat)) = false := decide_eq_false (by omega)
      go_enter Try.func47, Try.ntmps47
      go_wp2_with fail
      refine H3.out.mono ?_
      rintro e w4 ⟨rfl, H4, hO4⟩
      go_wp2
      exact bodyPost_end (results_none (by rfl) _ _ _) rfl ⟨rfl, by simpa [h0] using H4, hO4⟩
end Go.Proofs.Ytmlnkkalajnjhaa

/-! ### Pb -/
namespace Go.Proofs.Ytmlnkkalajnjhaa
open Go.RowKit

/-- What lies ahead of a part of a block, and behind it; the part begins at o. -/
structure Cx (o : Nat) where
  a : Array Value
  b : Array Value
  t : TypeId
  sz : a.size = o
/-- A part of a block. -/
def PB {o : Nat} (c : Cx o) (W : World) (g : Nat) (cs : Array Value) : Prop := Blk W g (c.a ++ cs ++ c.b) c.t
section
variable {o : Nat} {c : Cx o} {W W' : World} {g : Nat} {cs : Array Value}
theorem PB.lt (h : PB c W g cs) : g < W.heap.size := Blk.lt h
theorem PB.cell (h : PB c W g cs) (i : Nat) {x : Value} (hx : cs[i]? = some x) : W.cell? ⟨g, o + i, none⟩ = some x := by
  refine Blk.cell h (o + i) ?_
  have hs := c.sz
  have hi : i < cs.size := (Array.getElem?_eq_some_iff.1 hx).1
  rw [Array.getElem?_append_left (by simp; omega), Array.getElem?_append_right (by omega), ← hx]
  congr 1
  omega
theorem PB.frozen (h : PB c W g cs) (i : Nat) : W.frozen? ⟨g, i, none⟩ = false := Blk.frozen h i
theorem PB.below (h : PB c W g cs) {B : Nat} (hb : Below B W W') (hB : g < B) : PB c W' g cs := Blk.below h hb hB
theorem PB.alloc (h : PB c W g cs) (o : Obj) : PB c (W.alloc o) g cs := Blk.alloc h o
theorem PB.drew (h : PB c W g cs) : PB c W.drew g cs := h
theorem PB.drewN (h : PB c W g cs) (n : Nat) : PB c (W.drewN n) g cs := Blk.drewN h n
theorem PB.set (h : PB c W g cs) (i : Nat) (hi : i < cs.size) (x : Value) : PB c (W.setCell ⟨g, o + i, none⟩ x) g (cs.setIfInBounds i x) := by
  refine (Blk.set h (o + i) x).eq ?_
  have hs := c.sz
  apply Array.ext
  · simp
  · intro j h1 h2
    by_cases e : o + i = j
    · subst e
      simp only [Array.getElem_setIfInBounds_self, Array.getElem_append, Array.size_append, Array.size_setIfInBounds]
      rw [dif_pos (by omega), dif_neg (by omega)]
      simp only [hs, Nat.add_sub_cancel_left, Array.getElem_setIfInBounds_self]
    · rw [Array.getElem_setIfInBounds_ne (by simpa using h1) e]
      simp only [Array.getElem_append, Array.size_append, Array.size_setIfInBounds]
      split
      · split
        · rfl
        · rename_i h3 h4
          rw [Array.getElem_setIfInBounds_ne (by omega) (by omega)]
      · rfl
theorem PB.eq {cs' : Array Value} (h : PB c W g cs) (e : cs = cs') : PB c W g cs' := e ▸ h
theorem PB.other (h : PB c W g cs) (p : Addr) (hp : g ≠ p.block) (x : Value) : PB c (W.setCell p x) g cs := Blk.other h p hp x
theorem PB.only {g' : Nat} (h : PB c W g cs) (k : Only g' W W') (hne : g ≠ g') : PB c W' g cs := Blk.only h k hne
end
theorem PBa {W : World} {g o o' : Nat} {x : Option Value} (h : W.cell? ⟨g, o, none⟩ = x) (e : o = o') : W.cell? ⟨g, o', none⟩ = x := e ▸ h
theorem PBs {o : Nat} {c : Cx o} {W : World} {g p p' : Nat} {x : Value} {cs cs' : Array Value} (h : PB c (W.setCell ⟨g, p, none⟩ x) g cs) (e : p = p') (e' : cs = cs') : PB c (W.setCell ⟨g, p', none⟩ x) g cs' := e ▸ e' ▸ h
end Go.Proofs.Ytmlnkkalajnjhaa
