/- Texts NdC, NdD in one. For what each says in front of its theorems. -/
import Derived.BigQuiet
import Derived.Test.YtpdenmcacaajkaaGreatPB14
import Derived.Test.YtpdenmcacaajkaaGreatPB15
import Derived.Test.YtpdenmcacaajkaaGreatPB18
/-! ### NdC -/
namespace Go.Proofs.YtpdenmcacaajkaaGreat
open Go.RowKit

def ndH (m : NM) (V D : Value) (b : Bool) : Array Value := #[V, .int .i64 m.t.dr, .int .i64 m.t.wi, .int .i64 m.t.lm, .bool m.me.sy, .bool m.me.inf, .int .i64 m.me.li, .int .i64 m.me.sz, .int .i64 (m.i : Nat), .int .i64 m.dr, .int .i64 (m.st : Nat), .int .i64 m.rd, .int .i64 (m.sl : Nat), .int .i64 (m.wt : Nat), .bool b, .int .i64 m.tm, D]
def tyc (s : TS) : Array Value := #[.int .i64 (s.m : Nat), .int .i64 (s.a : Nat), .int .i64 (s.f : Nat)]
/-- A node's cells. -/
def ndW (H : Array Value) (T : TS) (lm : Int) (ck : List Int) (sv : Nat → Value) (a : Nat → Int) (q : Nat → Bool) (R : Value) (n r : Nat → Nat) : Array Value := H ++ tyc T ++ clk lm ck ++ stc sv a q ++ alc R n r
/-- What a node's slices hold: in no block g, but in blocks of G. -/
structure NV (G : Nat → Prop) (W : World) (g : Nat) (ns : List Tb.D) (da : List Int) (sd : Nat → List Int) (al : List R4) (V D R : Value) (sv : Nat → Value) : Prop where
  t : SeesT W W.heap.size V ns
  tf : ns ≠ [] → V.ownBlock ≠ some g
  tn : Nar G V ns
  d : DatG G [g] W D da
  s : ∀ i, i < 8 → DatG G [g] W (sv i) (sd i)
  r : SeesRs W W.heap.size R al
  rf : ∀ f, f ∈ [g] → al ≠ [] → R.ownBlock ≠ some f
  rn : Nar G R al
/-- A node. -/
structure NA (b : Bool) (G : Nat → Prop) (W : World) (g : Nat) (m : NM) : Prop where
  ex : ∃ V D R sv, Blk W g (ndW (ndH m V D b) m.ty m.t.lm m.ck sv m.so.a m.so.g R m.an m.ar) 77 ∧ NV G W g m.t.ns m.da m.so.d m.al V D R sv
  tyo : m.ty.m < 256
  cko : m.ck.length ≤ 4
  soo : m.so.ok
  al8 : m.al.length ≤ 8
  n16 : ∀ i, i < 8 → m.an i < 16
  r16 : ∀ i, i < 8 → m.ar i < 16
section
variable {b : Bool} {G G' : Nat → Prop} {W W' : World} {g : Nat} {m : NM} {V D R : Value} {sv : Nat → Value}
theorem SeesT.keepF {l : List Tb.D} (h : SeesT W W.heap.size V l) (hF : l ≠ [] → V.ownBlock ≠ some g) (k : Kp [g] W W') : SeesT W' W'.heap.size V l := ⟨by
  obtain ⟨A, c, rfl, h1, h2, h3, h4⟩ := h.at_
  refine ⟨A, c, rfl, h1, h2, fun h0 => ?_, h4⟩
  obtain ⟨b, off, rfl, hb, hc⟩ := h3 h0
  have hn : b ∉ [g] := fun hm => hF (List.length_pos_iff.1 h0) (by rw [List.mem_singleton] at hm; rw [hm]; rfl)
  exact ⟨b, off, rfl, Nat.lt_of_lt_of_le hb k.size, fun j hj => (hc j hj).keep fun o => by simp only [World.cell?, k.block b hb hn]⟩⟩
theorem NV.keep (h : NV G W g m.t.ns m.da m.so.d m.al V D R sv) (k : Kp [g] W W') : NV G W' g m.t.ns m.da m.so.d m.al V D R sv :=
  ⟨h.t.keepF h.tf k, h.tf, h.tn, h.d.keep k, fun i hi => (h.s i hi).keep k, h.r.keepF h.rf k, h.rf, h.rn⟩
theorem NA.lt (h : NA b G W g m) : g < W.heap.size := by
  obtain ⟨V, D, R, sv, hB, -⟩ := h.ex
  exact hB.lt
theorem NA.keep (h : NA b G W g m) (k : Kp [g] W W') (e : W'.heap[g]? = W.heap[g]?) : NA b G W' g m := by
  obtain ⟨V, D, R, sv, hB, hV⟩ := h.ex
  exact ⟨⟨V, D, R, sv, e.trans hB, hV.keep k⟩, h.tyo, h.cko, h.soo, h.al8, h.n16, h.r16⟩
theorem NA.below (h : NA b G W g m) (k : Below W.heap.size W W') : NA b G W' g m := h.keep (kp_below k) (k.block g h.lt)
theorem NA.drew (h : NA b G W g m) : NA b G W.drew g m := h.below (Below.refl _ W).drew
theorem NA.drewN (h : NA b G W g m) (n : Nat) : NA b G (W.drewN n) g m := h.below (below_drewN (Below.refl _ W) n)
theorem NA.alloc (h : NA b G W g m) (o : Obj) : NA b G (W.alloc o) g m := h.below ((Below.refl _ W).alloc (Nat.le_refl _) o)
theorem NA.mono (h : NA b G W g m) (hG : ∀ x, G x → G' x) : NA b G' W g m := by
  obtain ⟨V, D, R, sv, hB, hV⟩ := h.ex
  have hn : ∀ {α : Type} {v : Value} {l : List α}, Nar G v l → Nar G' v l := fun h h0 x hx => hG x (h h0 x hx)
  exact ⟨⟨V, D, R, sv, hB, ⟨hV.t, hV.tf, hn hV.tn, ⟨hV.d.1, hn hV.d.2⟩, fun i hi => ⟨(hV.s i hi).1, hn (hV.s i hi).2⟩, hV.r, hV.rf, hn hV.rn⟩⟩, h.tyo, h.cko, h.soo, h.al8, h.n16, h.r16⟩
theorem NA.frozen (h : NA b G W g m) (o : Nat) : W.frozen? ⟨g, o, none⟩ = false := by
  obtain ⟨V, D, R, sv, hB, -⟩ := h.ex
  exact hB.frozen _
/-! ### Its parts. -/
theorem sz20 (V D : Value) (b : Bool) (m : NM) : (ndH m V D b ++ tyc m.ty).size = 20 := by simp only [Array.size_append]; rfl
theorem sz26 (V D : Value) (b : Bool) (m : NM) : (ndH m V D b ++ tyc m.ty ++ clk m.t.lm m.ck).size = 26 := by simp only [Array.size_append]; rfl
theorem sz50 (V D : Value) (b : Bool) (m : NM) (sv : Nat → Value) : (ndH m V D b ++ tyc m.ty ++ clk m.t.lm m.ck ++ stc sv m.so.a m.so.g).size = 50 := by simp only [Array.size_append]; rfl
theorem NA.tp (h : NA b G W g m) : ∃ c, TPt c W g m.ty ∧ ∀ W' ty, TPt c W' g ty → Only g W W' → NA b G W' g { m with ty := ty } := by
  obtain ⟨V, D, R, sv, hB, hV⟩ := h.ex
  have e : ∀ T, ndW (ndH m V D b) T m.t.lm m.ck sv m.so.a m.so.g R m.an m.ar = ndH m V D b ++ tyc T ++ (clk m.t.lm m.ck ++ stc sv m.so.a m.so.g ++ alc R m.an m.ar) := fun T => by simp only [ndW, Array.append_assoc]
  exact ⟨⟨ndH m V D b, clk m.t.lm m.ck ++ stc sv m.so.a m.so.g ++ alc R m.an m.ar, 77, rfl⟩, ⟨hB.eq (e _), h.tyo⟩, fun W' ty hT hO => ⟨⟨V, D, R, sv, Blk.eq hT.1 (e _).symm, hV.keep (hO.kp (by simp))⟩, hT.2, h.cko, h.soo, h.al8, h.n16, h.r16⟩⟩
theorem NA.kp (h : NA b G W g m) : ∃ c, KPt c W g m.t.lm m.ck ∧ ∀ W' l, KPt c W' g m.t.lm l → Only g W W' → NA b G W' g { m with ck := l } := by
  obtain ⟨V, D, R, sv, hB, hV⟩ := h.ex
  have e : ∀ l, ndW (ndH m V D b) m.ty m.t.lm l sv m.so.a m.so.g R m.an m.ar = (ndH m V D b ++ tyc m.ty) ++ clk m.t.lm l ++ (stc sv m.so.a m.so.g ++ alc R m.an m.ar) := fun l => by simp only [ndW, Array.append_assoc]
  exact ⟨⟨ndH m V D b ++ tyc m.ty, stc sv m.so.a m.so.g ++ alc R m.an m.ar, 77, sz20 V D b m⟩, ⟨hB.eq (e _), h.cko⟩, fun W' l hT hO => ⟨⟨V, D, R, sv, Blk.eq hT.1 (e _).symm, hV.keep (hO.kp (by simp))⟩, h.tyo, hT.2, h.soo, h.al8, h.n16, h.r16⟩⟩
theorem NA.sp (h : NA b G W g m) : ∃ c, SPt c G [g] W g m.so ∧ ∀ W' s, SPt c G [g] W' g s → Only g W W' → NA b G W' g { m with so := s } := by
  obtain ⟨V, D, R, sv, hB, hV⟩ := h.ex
  have e : ∀ sv a q, ndW (ndH m V D b) m.ty m.t.lm m.ck sv a q R m.an m.ar = (ndH m V D b ++ tyc m.ty ++ clk m.t.lm m.ck) ++ stc sv a q ++ alc R m.an m.ar := fun sv a q => by simp only [ndW, Array.append_assoc]
  refine ⟨⟨ndH m V D b ++ tyc m.ty ++ clk m.t.lm m.ck, alc R m.an m.ar, 77, sz26 V D b m⟩, ⟨⟨sv, hB.eq (e _ _ _), hV.s⟩, h.soo⟩, fun W' s hT hO => ?_⟩
  obtain ⟨⟨sv', hB', hs'⟩, hk⟩ := hT
  have hV' := hV.keep (hO.kp (by simp))
  exact ⟨⟨V, D, R, sv', Blk.eq hB' (e _ _ _).symm, ⟨hV'.t, hV'.tf, hV'.tn, hV'.d, hs', hV'.r, hV'.rf, hV'.rn⟩⟩, h.tyo, h.cko, hk, h.al8, h.n16, h.r16⟩
theorem NA.ap (h : NA b G W g m) : ∃ c c' V, APt c V [g] W g m.al m.an m.ar ∧ SPt c' G [g] W g m.so ∧ ∀ W' n r, APt c V [g] W' g m.al n r → Only g W W' → NA b G W' g { m with an := n, ar := r } := by
  obtain ⟨c', hS, -⟩ := h.sp
  obtain ⟨V, D, R, sv, hB, hV⟩ := h.ex
  have e : ∀ n r, ndW (ndH m V D b) m.ty m.t.lm m.ck sv m.so.a m.so.g R n r = (ndH m V D b ++ tyc m.ty ++ clk m.t.lm m.ck ++ stc sv m.so.a m.so.g) ++ alc R n r ++ #[] := fun n r => by simp only [ndW, Array.append_assoc, Array.append_empty]
  refine ⟨⟨ndH m V D b ++ tyc m.ty ++ clk m.t.lm m.ck ++ stc sv m.so.a m.so.g, #[], 77, sz50 V D b m sv⟩, c', R, ⟨⟨hB.eq (e _ _), hV.r, hV.rf⟩, h.al8, h.n16, h.r16⟩, hS, fun W' n r hT hO => ?_⟩
  exact ⟨⟨V, D, R, sv, Blk.eq hT.ex.1 (e _ _).symm, hV.keep (hO.kp (by simp))⟩, h.tyo, h.cko, h.soo, h.al8, hT.n16, hT.r16⟩
/-! ### Its own cells. -/
def cxH (m : NM) (sv : Nat → Value) (R : Value) : Cx 0 := ⟨#[], tyc m.ty ++ clk m.t.lm m.ck ++ stc sv m.so.a m.so.g ++ alc R m.an m.ar, 77, rfl⟩
theorem ndW_hd (H : Array Value) (m : NM) (sv : Nat → Value) (R : Value) : ndW H m.ty m.t.lm m.ck sv m.so.a m.so.g R m.an m.ar = #[] ++ H ++ (tyc m.ty ++ clk m.t.lm m.ck ++ stc sv m.so.a m.so.g ++ alc R m.an m.ar) := by simp only [ndW, Array.append_assoc, Array.empty_append]
theorem NA.hd (h : NA b G W g m) : ∃ V D R sv, PB (cxH m sv R) W g (ndH m V D b) ∧ NV G W g m.t.ns m.da m.so.d m.al V D R sv := by
  obtain ⟨V, D, R, sv, hB, hV⟩ := h.ex
  exact ⟨V, D, R, sv, hB.eq (ndW_hd _ _ _ _), hV⟩
theorem NA.cell (h : NA b G W g m) (k : Nat) (x : Value) (hk : 0 < k ∧ k < 16) (hx : (ndH m (.bool false) (.bool false) b)[k]? = some x) : W.cell? ⟨g, k, none⟩ = some x := by
  obtain ⟨V, D, R, sv, hB, -⟩ := h.hd
  have e : (ndH m V D b)[k]? = (ndH m (.bool false) (.bool false) b)[k]? := by
    rcases (by omega : k = 1 ∨ k = 2 ∨ k = 3 ∨ k = 4 ∨ k = 5 ∨ k = 6 ∨ k = 7 ∨ k = 8 ∨ k = 9 ∨ k = 10 ∨ k = 11 ∨ k = 12 ∨ k = 13 ∨ k = 14 ∨ k = 15) with rfl | rfl | rfl | rfl | rfl | rfl | rfl | rfl | rfl | rfl | rfl | rfl | rfl | rfl | rfl <;> rfl
  exact PBa (hB.cell k (e.trans hx)) (Nat.zero_add k)
theorem NA.c1 (h : NA b G W g m) : W.cell? ⟨g, 1, none⟩ = some (.int .i64 m.t.dr) := h.cell 1 _ (by omega) rfl
theorem NA.c2 (h : NA b G W g m) : W.cell? ⟨g, 2, none⟩ = some (.int .i64 m.t.wi) := h.cell 2 _ (by omega) rfl
theorem NA.c3 (h : NA b G W g m) : W.cell? ⟨g, 3, none⟩ = some (.int .i64 m.t.lm) := h.cell 3 _ (by omega) rfl
theorem NA.c4 (h : NA b G W g m) : W.cell? ⟨g, 4, none⟩ = some (.bool m.me.sy) := h.cell 4 _ (by omega) rfl
theorem NA.c5 (h : NA b G W g m) : W.cell? ⟨g, 5, none⟩ = some (.bool m.me.inf) := h.cell 5 _ (by omega) rfl
theorem NA.c6 (h : NA b G W g m) : W.cell? ⟨g, 6, none⟩ = some (.int .i64 m.me.li) := h.cell 6 _ (by omega) rfl
theorem NA.c7 (h : NA b G W g m) : W.cell? ⟨g, 7, none⟩ = some (.int .i64 m.me.sz) := h.cell 7 _ (by omega) rfl
theorem NA.c8 (h : NA b G W g m) : W.cell? ⟨g, 8, none⟩ = some (.int .i64 (m.i : Nat)) := h.cell 8 _ (by omega) rfl
theorem NA.c9 (h : NA b G W g m) : W.cell? ⟨g, 9, none⟩ = some (.int .i64 m.dr) := h.cell 9 _ (by omega) rfl
theorem NA.c10 (h : NA b G W g m) : W.cell? ⟨g, 10, none⟩ = some (.int .i64 (m.st : Nat)) := h.cell 10 _ (by omega) rfl
theorem NA.c11 (h : NA b G W g m) : W.cell? ⟨g, 11, none⟩ = some (.int .i64 m.rd) := h.cell 11 _ (by omega) rfl
theorem NA.c12 (h : NA b G W g m) : W.cell? ⟨g, 12, none⟩ = some (.int .i64 (m.sl : Nat)) := h.cell 12 _ (by omega) rfl
theorem NA.c13 (h : NA b G W g m) : W.cell? ⟨g, 13, none⟩ = some (.int .i64 (m.wt : Nat)) := h.cell 13 _ (by omega) rfl
theorem NA.c14 (h : NA b G W g m) : W.cell? ⟨g, 14, none⟩ = some (.bool b) := h.cell 14 _ (by omega) rfl
theorem NA.c15 (h : NA b G W g m) : W.cell? ⟨g, 15, none⟩ = some (.int .i64 m.tm) := h.cell 15 _ (by omega) rfl
theorem NA.cV (h : NA b G W g m) : ∃ A c, W.cell? ⟨g, 0, none⟩ = some (.slice A m.t.ns.length c) ∧ SeesT W W.heap.size (.slice A m.t.ns.length c) m.t.ns := by
  obtain ⟨V, D, R, sv, hB, hV⟩ := h.hd
  obtain ⟨A, c, rfl, -⟩ := hV.t.at_
  exact ⟨A, c, PBa (hB.cell 0 rfl) rfl, hV.t⟩
theorem NA.cD (h : NA b G W g m) : ∃ A c, W.cell? ⟨g, 16, none⟩ = some (.slice A m.da.length c) ∧ Dat [g] W (.slice A m.da.length c) m.da := by
  obtain ⟨V, D, R, sv, hB, hV⟩ := h.hd
  obtain ⟨A, c, rfl, -⟩ := hV.d.1.1.at_
  exact ⟨A, c, PBa (hB.cell 16 rfl) rfl, hV.d.1⟩
theorem NA.set_ (h : NA b G W g m) (k : Nat) (x : Value) (b' : Bool) (m' : NM) (hk : k < 17) (e : ∀ V D, (ndH m V D b).setIfInBounds k x = ndH m' V D b') (e1 : m'.t.lm = m.t.lm) (e2 : m'.ty = m.ty) (e3 : m'.ck = m.ck) (e4 : m'.so = m.so) (e5 : m'.al = m.al) (e6 : m'.an = m.an) (e7 : m'.ar = m.ar) (e8 : m'.da = m.da) (e9 : m'.t.ns = m.t.ns) : NA b' G (W.setCell ⟨g, k, none⟩ x) g m' := by
  obtain ⟨V, D, R, sv, hB, hV⟩ := h.hd
  have hB' := PBs (hB.set k (by simpa [ndH] using hk) x) (Nat.zero_add k) (e V D)
  have hV' := hV.keep (((Only.refl g W).set k x).kp (F := [g]) (by simp))
  refine ⟨⟨V, D, R, sv, Blk.eq hB' ?_, ?_⟩, e2 ▸ h.tyo, e3 ▸ h.cko, e4 ▸ h.soo, e5 ▸ h.al8, e6 ▸ h.n16, e7 ▸ h.r16⟩
  · rw [e1, e2, e3, e4, e6, e7]
    exact (ndW_hd _ _ _ _).symm
  · exact ⟨e9 ▸ hV'.t, e9 ▸ hV'.tf, e9 ▸ hV'.tn, e8 ▸ hV'.d, e4 ▸ hV'.s, e5 ▸ hV'.r, e5 ▸ hV'.rf, e5 ▸ hV'.rn⟩
theorem NA.sSt (h : NA b G W g m) (k : Nat) : NA b G (W.setCell ⟨g, 10, none⟩ (.int .i64 (k : Nat))) g { m with st := k } := h.set_ 10 _ b _ (by omega) (fun _ _ => rfl) rfl rfl rfl rfl rfl rfl rfl rfl rfl
theorem NA.sRd (h : NA b G W g m) (k : Int) : NA b G (W.setCell ⟨g, 11, none⟩ (.int .i64 k)) g { m with rd := k } := h.set_ 11 _ b _ (by omega) (fun _ _ => rfl) rfl rfl rfl rfl rfl rfl rfl rfl rfl
theorem NA.sSl (h : NA b G W g m) (k : Nat) : NA b G (W.setCell ⟨g, 12, none⟩ (.int .i64 (k : Nat))) g { m with sl := k } := h.set_ 12 _ b _ (by omega) (fun _ _ => rfl) rfl rfl rfl rfl rfl rfl rfl rfl rfl
theorem NA.sWt (h : NA b G W g m) (k : Nat) : NA b G (W.setCell ⟨g, 13, none⟩ (.int .i64 (k : Nat))) g { m with wt := k } := h.set_ 13 _ b _ (by omega) (fun _ _ => rfl) rfl rfl rfl rfl rfl rfl rfl rfl rfl
theorem NA.sSe (h : NA b G W g m) (k : Bool) : NA k G (W.setCell ⟨g, 14, none⟩ (.bool k)) g m := h.set_ 14 _ k _ (by omega) (fun _ _ => rfl) rfl rfl rfl rfl rfl rfl rfl rfl rfl
theorem NA.sTm (h : NA b G W g m) (k : Int) : NA b G (W.setCell ⟨g, 15, none⟩ (.int .i64 k)) g { m with tm := k } := h.set_ 15 _ b _ (by omega) (fun _ _ => rfl) rfl rfl rfl rfl rfl rfl rfl rfl rfl
theorem NA.sDa (h : NA b G W g m) {v : Value} {l : List Int} (hv : DatG G [g] W v l) : NA b G (W.setCell ⟨g, 16, none⟩ v) g { m with da := l } := by
  obtain ⟨V, D, R, sv, hB, hV⟩ := h.hd
  have k : Kp [g] W (W.setCell ⟨g, 16, none⟩ v) := ((Only.refl g W).set 16 v).kp (by simp)
  have hB' := PBs (hB.set 16 (by simp [ndH]) v) rfl (show (ndH m V D b).setIfInBounds 16 v = ndH { m with da := l } V v b from rfl)
  have hV' := hV.keep k
  exact ⟨⟨V, v, R, sv, Blk.eq hB' (ndW_hd _ m _ _).symm, ⟨hV'.t, hV'.tf, hV'.tn, hv.keep k, hV'.s, hV'.r, hV'.rf, hV'.rn⟩⟩, h.tyo, h.cko, h.soo, h.al8, h.n16, h.r16⟩
/-- Its tally is another. -/
theorem NA.sTy (h : NA b G W g m) (T : TS) (hT : T.m < 256) : NA b G (((W.setCell ⟨g, 17, none⟩ (.int .i64 (T.m : Nat))).setCell ⟨g, 18, none⟩ (.int .i64 (T.a : Nat))).setCell ⟨g, 19, none⟩ (.int .i64 (T.f : Nat))) g { m with ty := T } := by
  obtain ⟨c, h1, h2⟩ := h.tp
  exact h2 _ T (((h1.m_ T.m hT).a_ T.a).f_ T.f) ((((Only.refl g W).set 17 _).set 18 _).set 19 _)
/-! ### Its blocks as a list. -/

theorem NA.list (h : NA b G W g m) (hg : G g) : ∃ F : List Nat, NA b (fun x => x ∈ F) W g m ∧ (∀ f, f ∈ F → G f ∧ f < W.heap.size) ∧ g ∈ F := by
  obtain ⟨V, D, R, sv, hB, hV⟩ := h.ex
  classical
  let B : {α : Type} → Value → List α → List Nat := fun v l => if l = [] then [] else v.ownBlock.toList
  have hN : ∀ {α : Type} {v : Value} {l : List α} {F : List Nat}, (∀ x, x ∈ B v l → x ∈ F) → Nar (fun x => x ∈ F) v l := fun {α v l F} hF h0 x hx => hF x (by simp only [B, if_neg h0, hx]; simp)
  have hG : ∀ {α : Type} {v : Value} {l : List α}, Nar G v l → ∀ x, x ∈ B v l → G x := fun {α v l} h x hx => by
    by_cases h0 : l = []
    · simp only [B, if_pos h0] at hx; cases hx
    · simp only [B, if_neg h0, Option.mem_toList] at hx; exact h h0 x hx
  have hL : ∀ {v : Value} {l : List Int}, SeesL W W.heap.size v l → ∀ x, x ∈ B v l → x < W.heap.size := fun {v l} h x hx => by
    by_cases h0 : l = []
    · simp only [B, if_pos h0] at hx; cases hx
    · simp only [B, if_neg h0, Option.mem_toList] at hx
      obtain ⟨A, c, rfl, -, -, h3, -⟩ := h.at_
      obtain ⟨b, off, rfl, hb, -⟩ := h3 (List.length_pos_iff.2 h0)
      simp only [Value.ownBlock, Option.some.injEq] at hx
      omega
  have hLT : ∀ x, x ∈ B V m.t.ns → x < W.heap.size := fun x hx => by
    by_cases h0 : m.t.ns = []
    · simp only [B, if_pos h0] at hx; cases hx
    · simp only [B, if_neg h0, Option.mem_toList] at hx
      obtain ⟨A, c, rfl, -, -, h3, -⟩ := hV.t.at_
      obtain ⟨b, off, rfl, hb, -⟩ := h3 (List.length_pos_iff.2 h0)
      simp only [Value.ownBlock, Option.some.injEq] at hx
      omega
  have hLR : ∀ x, x ∈ B R m.al → x < W.heap.size := fun x hx => by
    by_cases h0 : m.al = []
    · simp only [B, if_pos h0] at hx; cases hx
    · simp only [B, if_neg h0, Option.mem_toList] at hx
      obtain ⟨A, c, rfl, -, -, h3, -⟩ := hV.r.at_
      obtain ⟨b, off, rfl, hb, -⟩ := h3 (List.length_pos_iff.2 h0)
      simp only [Value.ownBlock, Option.some.injEq] at hx
      omega
  refine ⟨g :: (B V m.t.ns ++ (B D m.da ++ (B R m.al ++ (List.range 8).flatMap fun i => B (sv i) (m.so.d i)))), ⟨⟨V, D, R, sv, hB, ⟨hV.t, hV.tf, hN ?_, ⟨hV.d.1, hN ?_⟩, fun i hi => ⟨(hV.s i hi).1, hN ?_⟩, hV.r, hV.rf, hN ?_⟩⟩, h.tyo, h.cko, h.soo, h.al8, h.n16, h.r16⟩, fun f hf => ?_, List.mem_cons_self⟩
  · intro x hx; simp [hx]
  · intro x hx; simp [hx]
  · intro x hx
    refine List.mem_cons_of_mem _ (List.mem_append_right _ (List.mem_append_right _ (List.mem_append_right _ (List.mem_flatMap.2 ⟨i, List.mem_range.2 hi, hx⟩))))
  · intro x hx; simp [hx]
  · rcases List.mem_cons.1 hf with rfl | hf
    · exact ⟨hg, hB.lt⟩
    rcases List.mem_append.1 hf with hf | hf
    · exact ⟨hG hV.tn f hf, hLT f hf⟩
    rcases List.mem_append.1 hf with hf | hf
    · exact ⟨hG hV.d.2 f hf, hL hV.d.1.1 f hf⟩
    rcases List.mem_append.1 hf with hf | hf
    · exact ⟨hG hV.rn f hf, hLR f hf⟩
    · obtain ⟨i, hi, hf⟩ := List.mem_flatMap.1 hf
      have hi := List.mem_range.1 hi
      exact ⟨hG (hV.s i hi).2 f hf, hL (hV.s i hi).1.1 f hf⟩
end
end Go.Proofs.YtpdenmcacaajkaaGreat

/-! ### NdD -/
namespace Go.Proofs.YtpdenmcacaajkaaGreat
open Go.RowKit
open Clk (avg)

section
variable {b : Bool} {G : Nat → Prop} {w : World} {g : Nat} {m : NM}
theorem NA.join (h : NA b G w g m) (n : Int) : Calls Tryz.prog 69 #[.pointer (some ⟨g, 17, none⟩), .int .i64 n] w fun e w' => e = .returned (.tuple #[]) ∧ NA b G w' g { m with ty := m.ty.join n } ∧ Only g w w' := by
  obtain ⟨c, h1, h2⟩ := h.tp
  refine (join_tp c g _ n w h1).mono ?_
  rintro _ w' ⟨rfl, hT, o⟩
  exact ⟨rfl, h2 _ _ hT o, o⟩
theorem NA.miss (h : NA b G w g m) (n : Int) : Calls Tryz.prog 127 #[.pointer (some ⟨g, 17, none⟩), .int .i64 n] w fun e w' => e = .returned (.tuple #[]) ∧ NA b G w' g { m with ty := m.ty.miss n } ∧ Only g w w' := by
  obtain ⟨c, h1, h2⟩ := h.tp
  refine (miss_tp c g _ n w h1).mono ?_
  rintro _ w' ⟨rfl, hT, o⟩
  exact ⟨rfl, h2 _ _ hT o, o⟩
theorem NA.right (h : NA b G w g m) (n : Int) (hb : m.ty.a < 1000) : Calls Tryz.prog 125 #[.pointer (some ⟨g, 17, none⟩), .int .i64 n] w fun e w' => e = .returned (.tuple #[]) ∧ NA b G w' g { m with ty := m.ty.right n } ∧ Only g w w' := by
  obtain ⟨c, h1, h2⟩ := h.tp
  refine (right_tp c g _ n w h1 hb).mono ?_
  rintro _ w' ⟨rfl, hT, o⟩
  exact ⟨rfl, h2 _ _ hT o, o⟩
theorem NA.wrong (h : NA b G w g m) (n : Int) (hb : m.ty.f < 1000) : Calls Tryz.prog 128 #[.pointer (some ⟨g, 17, none⟩), .int .i64 n] w fun e w' => e = .returned (.tuple #[]) ∧ NA b G w' g { m with ty := m.ty.wrong n } ∧ Only g w w' := by
  obtain ⟨c, h1, h2⟩ := h.tp
  refine (wrong_tp c g _ n w h1 hb).mono ?_
  rintro _ w' ⟨rfl, hT, o⟩
  exact ⟨rfl, h2 _ _ hT o, o⟩
theorem NA.clear (h : NA b G w g m) : Calls Tryz.prog 70 #[.pointer (some ⟨g, 17, none⟩)] w fun e w' => e = .returned (.tuple #[]) ∧ NA b G w' g { m with ty := m.ty.clear } ∧ Only g w w' := by
  obtain ⟨c, h1, h2⟩ := h.tp
  refine (clear_tp c g _ w h1).mono ?_
  rintro _ w' ⟨rfl, hT, o⟩
  exact ⟨rfl, h2 _ _ hT o, o⟩
theorem NA.kclear (h : NA b G w g m) : Calls Tryz.prog 58 #[.pointer (some ⟨g, 20, none⟩)] w fun e w' => e = .returned (.tuple #[]) ∧ NA b G w' g { m with ck := [] } ∧ Only g w w' := by
  obtain ⟨c, h1, h2⟩ := h.kp
  refine (clear_kp c g _ _ w h1).mono ?_
  rintro _ w' ⟨rfl, hT, o⟩
  exact ⟨rfl, h2 _ _ hT o, o⟩
theorem NA.measure (h : NA b G w g m) (n : Int) : Calls Tryz.prog 79 #[.pointer (some ⟨g, 20, none⟩), .int .i64 n] w fun e w' => e = .returned (.tuple #[]) ∧ NA b G w' g { m with ck := keep4 m.ck n } ∧ Only g w w' := by
  obtain ⟨c, h1, h2⟩ := h.kp
  refine (measure_kp c g _ _ n w h1).mono ?_
  rintro _ w' ⟨rfl, hT, o⟩
  exact ⟨rfl, h2 _ _ hT o, o⟩
theorem NA.sclear (h : NA b G w g m) : Calls Tryz.prog 59 #[.pointer (some ⟨g, 26, none⟩)] w fun e w' => e = .returned (.tuple #[]) ∧ NA b G w' g { m with so := MS.new } ∧ Only g w w' := by
  obtain ⟨c, h1, h2⟩ := h.sp
  refine (clear_sp c G [g] g _ w h1 (by simp)).mono ?_
  rintro _ w' ⟨rfl, hT, o⟩
  exact ⟨rfl, h2 _ _ hT o, o⟩
theorem NA.age (h : NA b G w g m) : Calls Tryz.prog 150 #[.pointer (some ⟨g, 26, none⟩)] w fun e w' => e = .returned (.tuple #[]) ∧ NA b G w' g { m with so := m.so.age } ∧ Only g w w' := by
  obtain ⟨c, h1, h2⟩ := h.sp
  refine (age_sp c G [g] g _ w h1 (by simp)).mono ?_
  rintro _ w' ⟨rfl, hT, o⟩
  exact ⟨rfl, h2 _ _ hT o, o⟩
theorem NA.member (h : NA b G w g m) (n : Int) (q : Bool) : Calls Tryz.prog 129 #[.pointer (some ⟨g, 26, none⟩), .int .i64 n, .bool q] w fun e w' => e = .returned (.tuple #[]) ∧ NA b G w' g { m with so := m.so.member n q } ∧ Only g w w' := by
  obtain ⟨c, h1, h2⟩ := h.sp
  refine (member_sp c G [g] g _ n q w h1 (by simp)).mono ?_
  rintro _ w' ⟨rfl, hT, o⟩
  exact ⟨rfl, h2 _ _ hT o, o⟩
theorem NA.put (h : NA b G w g m) (n : Int) {v : Value} {l : List Int} {B : Nat} (hG : ∀ x, w.heap.size ≤ x → G x) (hv : SeesL w B v l) (hl : bytesL l) : Calls Tryz.prog 126 #[.pointer (some ⟨g, 26, none⟩), .int .i64 n, v] w fun e w' => e = .returned (.tuple #[]) ∧ NA b G w' g { m with so := m.so.put n l } ∧ Only g w w' := by
  obtain ⟨c, h1, h2⟩ := h.sp
  refine (put_sp c G [g] g _ n v l B w h1 (by simp) (fun f hf => by rw [List.mem_singleton] at hf; rw [hf]; exact h.lt) hG hv hl).mono ?_
  rintro _ w' ⟨rfl, hT, o⟩
  exact ⟨rfl, h2 _ _ hT o, o⟩
theorem NA.members (h : NA b G w g m) : Calls Tryz.prog 93 #[.pointer (some ⟨g, 17, none⟩)] w fun e w' => e = .returned (.int .i64 (m.ty.m : Nat)) ∧ w' = w := by
  obtain ⟨c, h1, -⟩ := h.tp
  exact members_tp c g _ w h1
theorem NA.clique_ (h : NA b G w g m) : Calls Tryz.prog 106 #[.pointer (some ⟨g, 17, none⟩)] w fun e w' => e = .returned (.bool (decide (m.ty.f ≤ m.ty.a))) ∧ ∃ k, w' = w.drewN k := by
  obtain ⟨c, h1, -⟩ := h.tp
  exact clique_tp c g _ w h1
theorem NA.alone_ (h : NA b G w g m) : Calls Tryz.prog 107 #[.pointer (some ⟨g, 17, none⟩)] w fun e w' => e = .returned (.bool (decide (m.ty.a = 0))) ∧ w' = w := by
  obtain ⟨c, h1, -⟩ := h.tp
  exact alone_tp c g _ w h1
theorem NA.is_ (h : NA b G w g m) (n : Int) : Calls Tryz.prog 130 #[.pointer (some ⟨g, 17, none⟩), .int .i64 n] w fun e w' => e = .returned (.bool (isB m.ty.m n)) ∧ w' = w := by
  obtain ⟨c, h1, -⟩ := h.tp
  exact is_tp c g _ n w h1
theorem NA.term (h : NA b G w g m) (hs : small m.ck) (hm : 0 ≤ m.t.lm ∧ m.t.lm ≤ 9223372036854775807) : Calls Tryz.prog 149 #[.pointer (some ⟨g, 20, none⟩)] w fun e w' => e = .returned (.tuple #[.int .i64 (termV m.t.lm m.ck), .bool (wiB m.t.lm (avg m.ck))]) ∧ Below w.heap.size w w' := by
  obtain ⟨c, h1, -⟩ := h.kp
  exact term_kp c g _ _ w h1 hs hm
theorem NA.get (h : NA b G w g m) (n : Int) : Calls Tryz.prog 95 #[.pointer (some ⟨g, 26, none⟩), .int .i64 n] w fun e w' => ∃ v, e = .returned (.agg #[v, .int .i64 (m.so.ga n), .bool (m.so.gg n)]) ∧ SeesL w' w'.heap.size v (m.so.gd n) ∧ (m.so.gd n ≠ [] → OwnsL w' w.heap.size v (m.so.gd n)) ∧ Below w.heap.size w w' := by
  obtain ⟨c, h1, -⟩ := h.sp
  exact get_sp c G [g] g _ n w h1
theorem NA.rings_ (h : NA b G w g m) (n : Int) : Calls Tryz.prog 97 #[.pointer (some ⟨g, 50, none⟩), .int .i64 n] w fun e w' => e = .returned (.int .i64 ((if isR m.al n then m.ar n.toNat else 0 : Nat) : Int)) ∧ w' = w := by
  obtain ⟨c, c', V, h1, -, -⟩ := h.ap
  exact rings_ap c V [g] g _ _ _ n w h1
theorem NA.ack_ (h : NA b G w g m) (n : Int) : Calls Tryz.prog 65 #[.pointer (some ⟨g, 50, none⟩), .int .i64 n] w fun e w' => e = .returned (.int .i64 (ackM m.al m.an m.ar n)) ∧ NA b G w' g { m with ar := ackR m.al m.an m.ar n } ∧ Only g w w' := by
  obtain ⟨c, c', V, h1, -, h2⟩ := h.ap
  refine (ack_ap c V [g] g _ _ _ n w h1 (by simp)).mono ?_
  rintro _ w' ⟨rfl, hT, o⟩
  exact ⟨rfl, h2 _ _ _ hT o, o⟩
theorem NA.look (h : NA b G w g m) : Calls Tryz.prog 151 #[.pointer (some ⟨g, 50, none⟩), ndGet g] w fun e w' => e = .returned (.tuple #[]) ∧ NA b G w' g { m with an := nowM m.al m.so, ar := fun i => m.ar i ||| nowM m.al m.so i } ∧ Only g w w' := by
  obtain ⟨c, c', V, h1, hS, h2⟩ := h.ap
  refine (look_ap c c' V G [g] g _ _ _ _ w h1 (by simp) hS).mono ?_
  rintro _ w' ⟨rfl, hT, o⟩
  exact ⟨rfl, h2 _ _ _ hT o, o⟩
end
theorem NA.se_ {b : Bool} {G : Nat → Prop} {w : World} {g : Nat} {m : NM} (h : NA b G w g m) (q : Bool) : NA b G w g { m with se := q } := ⟨h.ex, h.tyo, h.cko, h.soo, h.al8, h.n16, h.r16⟩
theorem nblk_set (w : World) (a : Addr) (v : Value) : (w.setCell a v).heap.size = w.heap.size := by simp [World.setCell]
set_option maxRecDepth 100000 in
set_option maxHeartbeats 2000000 in
theorem begin_nd (b : Bool) (G : Nat → Prop) (g : Nat) (m : NM) (k : Nat) (z : Int) (hz : z = k) (w : World) (h : NA b G w g m) :
    Calls Tryz.prog 20 #[.pointer (some ⟨g, 0, none⟩), .int .i64 z] w fun e w' => e = .returned (.tuple #[]) ∧ NA false G w' g (m.anew k) ∧ Only g w w' := by
  subst hz
  have HT := fun W => Lib.hid (new_tl 0 W)
  have c10 := h.c10
  have c11 := h.c11
  have c12 := h.c12
  have c13 := h.c13
  have c14 := h.c14
  have f10 := h.frozen 10
  have f11 := h.frozen 11
  have f12 := h.frozen 12
  have f13 := h.frozen 13
  have f14 := h.frozen 14
  have h1 := Lib.hid (((((h.sSt k).sRd 0).sSl 0).sWt 0).sSe false)
  have o1 := Lib.hid (((((((Only.refl g w).set 10 (.int .i64 (k : Nat))).set 11 (.int .i64 0)).set 12 (.int .i64 0)).set 13 (.int .i64 0)).set 14 (.bool false)))
  clear h
  go_enter Tryz.func20, Tryz.ntmps20
  go_wp2_with fail
  refine (HT _).out.mono ?_
  rintro _ w1 ⟨rfl, hT, b1, -⟩
  have h1 := h1.out.below b1
  have o1 := o1.out.trans (only_of_below g b1)
  simp only [nblk_set] at hT
  have t0 := hT.c0
  have t1 := hT.c1
  have t2 := hT.c2
  have c17 := h1.tp
  obtain ⟨c, hc, -⟩ := h1.tp
  have c17 := hc.c0
  have c18 := hc.c1
  have c19 := hc.c2
  have f17 := h1.frozen 17
  have f18 := h1.frozen 18
  have f19 := h1.frozen 19
  have h2 := Lib.hid (h1.sTy ⟨0, 0, 0⟩ (by decide))
  have o2 := Lib.hid (((o1.set 17 (.int .i64 0)).set 18 (.int .i64 0)).set 19 (.int .i64 0))
  clear h1 o1 hc hT c10 c11 c12 c13 c14 f10 f11 f12 f13 f14 HT b1
  go_wp2_with fail
  refine h2.out.kclear.mono ?_
  rintro _ w2 ⟨rfl, h3, o3⟩
  have o3 := o2.out.trans o3
  clear h2 o2 c17 c18 c19 f17 f18 f19 t0 t1 t2
  go_wp2_with fail
  refine h3.sclear.mono ?_
  rintro _ w3 ⟨rfl, h4, o4⟩
  go_wp2
  exact bodyPost_end (results_none (by rfl) _ _ _) rfl ⟨rfl, h4.se_ false, o3.trans o4⟩
end Go.Proofs.YtpdenmcacaajkaaGreat
