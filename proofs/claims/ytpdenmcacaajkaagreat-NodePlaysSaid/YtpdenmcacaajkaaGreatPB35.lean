/- Texts RnM, RnN, RaL in one. For what each says in front of its theorems. -/
import Derived.Deep.RegionHeld3
import Derived.RegionTactic
import Derived.BigRegion
import Derived.Test.YtpdenmcacaajkaaGreatPB13
import Derived.Test.YtpdenmcacaajkaaGreatPB32
import Derived.Test.YtpdenmcacaajkaaGreatPB33
import Derived.Test.YtpdenmcacaajkaaGreatPB34
/-! ### RnM -/
namespace Go.Proofs.YtpdenmcacaajkaaGreat
open Go.RowKit

/-- Its own blocks beside its cells: a tally, a store, alarms, what is so now, what rings. -/
structure RX where
  m : Nat
  s : Nat
  a : Nat
  n : Nat
  r : Nat
def RX.own (x : RX) (g : Nat) : List Nat := [g, x.m, x.s, x.n, x.r]
def rnH (m : NM) (V : Value) (x : RX) : Array Value := #[V, .int .i64 m.t.dr, .int .i64 m.t.wi, .int .i64 m.t.lm, .int .i64 (m.i : Nat), .int .i64 m.dr, .int .i64 (m.st : Nat), .int .i64 m.rd, .int .i64 (m.sl : Nat), .pointer (some ⟨x.m, 0, none⟩), .int .i64 m.tm]
def rnT (m : NM) (D : Value) (x : RX) (b : Bool) : Array Value := #[.pointer (some ⟨x.s, 0, none⟩), .pointer (some ⟨x.a, 0, none⟩), D, .int .i64 (m.wt : Nat), .bool b]
def rnc (m : NM) (V L D : Value) (x : RX) (b : Bool) : Array Value := #[V, .int .i64 m.t.dr, .int .i64 m.t.wi, .int .i64 m.t.lm, .int .i64 (m.i : Nat), .int .i64 m.dr, .int .i64 (m.st : Nat), .int .i64 m.rd, .int .i64 (m.sl : Nat), .pointer (some ⟨x.m, 0, none⟩), .int .i64 m.tm, .int .i64 m.t.lm, L, .pointer (some ⟨x.s, 0, none⟩), .pointer (some ⟨x.a, 0, none⟩), D, .int .i64 (m.wt : Nat), .bool b]
theorem rnc_eq (m : NM) (V L D : Value) (x : RX) (b : Bool) : rnc m V L D x b = rnH m V x ++ #[.int .i64 m.t.lm, L] ++ rnT m D x b := rfl
def two (f : Nat → Nat) : Array Value := #[.int .i64 (f 0 : Nat), .int .i64 (f 1 : Nat)]
/-- But for the blocks of G all that there was is as it was. -/
structure KG (G : Nat → Prop) (w w' : World) : Prop where
  os : w'.os = w.os
  tape : w'.tape = w.tape
  output : w'.output = w.output
  size : w.heap.size ≤ w'.heap.size
  block : ∀ k, k < w.heap.size → ¬ G k → w'.heap[k]? = w.heap[k]?
section
variable {G : Nat → Prop} {w w1 w2 : World} {g : Nat}
theorem KG.refl (G : Nat → Prop) (w : World) : KG G w w := ⟨rfl, rfl, rfl, Nat.le_refl _, fun _ _ _ => rfl⟩
theorem KG.trans (h : KG G w w1) (k : KG G w1 w2) : KG G w w2 := ⟨k.os.trans h.os, k.tape.trans h.tape, k.output.trans h.output, Nat.le_trans h.size k.size, fun i hi hn => (k.block i (Nat.lt_of_lt_of_le hi h.size) hn).trans (h.block i hi hn)⟩
theorem Only.kg (h : Only g w w1) (hg : G g) : KG G w w1 := ⟨h.os, h.tape, h.output, h.size, fun i hi hn => h.block i hi (by intro e; cases e; exact hn hg)⟩
theorem kg_below (h : Below w.heap.size w w1) : KG G w w1 := ⟨h.os, h.tape, h.output, h.size, fun i hi _ => h.block i hi⟩
theorem KG.kq {F : List Nat} (h : KG (fun x => x ∈ F ∨ w.heap.size ≤ x) w w1) : Kq F w w1 := ⟨h.os, h.tape, h.output, h.size, fun k hk hn => h.block k hk (fun hg => hg.elim hn (fun h => by omega))⟩
end
/-- What its slices hold: in none of its own blocks, but in blocks of G. -/
structure RV (G : Nat → Prop) (P : List Nat) (W : World) (ns : List Tb.D) (ck : List Int) (da : List Int) (al : List R4) (V L D R : Value) : Prop where
  t : SeesT W W.heap.size V ns
  tf : ∀ f, f ∈ P → ns ≠ [] → V.ownBlock ≠ some f
  tn : Nar G V ns
  l : SeesI W W.heap.size L ck
  lf : ∀ f, f ∈ P → vblk L ≠ some f
  ln : ck ≠ [] → ∀ b, vblk L = some b → G b
  ll : ∀ b, vblk L = some b → b < W.heap.size
  d : DatG G P W D da
  r : SeesRs W W.heap.size R al
  rf : ∀ f, f ∈ P → al ≠ [] → R.ownBlock ≠ some f
  rn : Nar G R al
/-- The document's node. -/
structure RA (b : Bool) (G : Nat → Prop) (W : World) (g : Nat) (m : NM) (x : RX) : Prop where
  ex : ∃ V L D R, Blk W g (rnc m V L D x b) 91 ∧ Blk W x.a #[R, .slice (some ⟨x.n, 0, none⟩) 2 2, .slice (some ⟨x.r, 0, none⟩) 2 2] 128 ∧ RV G (x.own g) W m.t.ns m.ck m.da m.al V L D R
  ty : TAt 130 W x.m m.ty
  so : SRt G (x.own g) W x.s m.so
  nb : Blk W x.n (two m.an) 3
  rb : Blk W x.r (two m.ar) 3
  nd : (x.a :: x.own g).Nodup
  gs : ∀ k, k ∈ x.a :: x.own g → G k
  al2 : m.al.length = 2
  cko : m.ck.length ≤ 4
  n16 : ∀ i, i < 2 → m.an i < 16 ∧ m.ar i < 16 ∧ m.ar i ||| m.an i = m.ar i
section
variable {b : Bool} {G G' : Nat → Prop} {W W' : World} {g : Nat} {m : NM} {x : RX} {V L D R : Value} {P : List Nat} {ns : List Tb.D} {ck da : List Int} {al : List R4}
theorem SeesT.keepP {l : List Tb.D} (h : SeesT W W.heap.size V l) (hF : ∀ f, f ∈ P → l ≠ [] → V.ownBlock ≠ some f) (k : Kp P W W') : SeesT W' W'.heap.size V l := ⟨by
  obtain ⟨A, c, rfl, h1, h2, h3, h4⟩ := h.at_
  refine ⟨A, c, rfl, h1, h2, fun h0 => ?_, h4⟩
  obtain ⟨b, off, rfl, hb, hc⟩ := h3 h0
  have hn : b ∉ P := fun hm => hF b hm (List.length_pos_iff.1 h0) rfl
  exact ⟨b, off, rfl, Nat.lt_of_lt_of_le hb k.size, fun j hj => (hc j hj).keep fun o => by simp only [World.cell?, k.block b hb hn]⟩⟩
theorem SeesI.keepP {l : List Int} (h : SeesI W W.heap.size V l) (hF : ∀ f, f ∈ P → l ≠ [] → vblk V ≠ some f) (k : Kp P W W') : SeesI W' W'.heap.size V l := ⟨by
  obtain ⟨A, c, rfl, h1, h2, h3, h4⟩ := h.at_
  refine ⟨A, c, rfl, h1, h2, fun h0 => ?_, h4⟩
  obtain ⟨b, off, rfl, hb, hc⟩ := h3 h0
  have hn : b ∉ P := fun hm => hF b hm (List.length_pos_iff.1 h0) rfl
  exact ⟨b, off, rfl, Nat.lt_of_lt_of_le hb k.size, fun j hj => by rw [← hc j hj]; simp only [World.cell?, k.block b hb hn]⟩⟩
theorem RV.keep (h : RV G P W ns ck da al V L D R) (k : Kp P W W') : RV G P W' ns ck da al V L D R :=
  ⟨h.t.keepP h.tf k, h.tf, h.tn, h.l.keepP (fun f hf _ => h.lf f hf) k, h.lf, h.ln, fun b hb => Nat.lt_of_lt_of_le (h.ll b hb) k.size, h.d.keep k, h.r.keepF h.rf k, h.rf, h.rn⟩
/-- All its own blocks are as they were. -/
theorem RA.keep (h : RA b G W g m x) (k : Kp (x.own g) W W') (e : ∀ f, f ∈ x.a :: x.own g → W'.heap[f]? = W.heap[f]?) : RA b G W' g m x := by
  obtain ⟨V, L, D, R, hB, hA, hV⟩ := h.ex
  have e0 := e g (by simp [RX.own])
  have e1 := e x.m (by simp [RX.own])
  have e2 := e x.s (by simp [RX.own])
  have e3 := e x.n (by simp [RX.own])
  have e4 := e x.r (by simp [RX.own])
  have e5 := e x.a (by simp)
  obtain ⟨⟨sv, hS, hd⟩, hk⟩ := h.so
  exact ⟨⟨V, L, D, R, e0.trans hB, e5.trans hA, hV.keep k⟩, ⟨e1.trans h.ty.1, h.ty.2⟩, ⟨⟨sv, e2.trans hS, fun i hi => (hd i hi).keep k⟩, hk⟩, e3.trans h.nb, e4.trans h.rb, h.nd, h.gs, h.al2, h.cko, h.n16⟩
theorem RA.lts (h : RA b G W g m x) : ∀ f, f ∈ x.a :: x.own g → f < W.heap.size := by
  obtain ⟨V, L, D, R, hB, hA, hV⟩ := h.ex
  intro f hf
  simp only [RX.own, List.mem_cons, List.not_mem_nil, or_false] at hf
  rcases hf with rfl | rfl | rfl | rfl | rfl | rfl
  · exact hA.lt
  · exact hB.lt
  · exact h.ty.lt
  · exact SRt.lt h.so
  · exact h.nb.lt
  · exact h.rb.lt
theorem RA.lt (h : RA b G W g m x) : g < W.heap.size := h.lts g (by simp [RX.own])
theorem RA.below (h : RA b G W g m x) (k : Below W.heap.size W W') : RA b G W' g m x := h.keep (kp_below k) fun f hf => k.block f (h.lts f hf)
theorem RA.drew (h : RA b G W g m x) : RA b G W.drew g m x := h.below (Below.refl _ W).drew
theorem RA.drewN (h : RA b G W g m x) (n : Nat) : RA b G (W.drewN n) g m x := h.below (below_drewN (Below.refl _ W) n)
theorem RA.alloc (h : RA b G W g m x) (o : Obj) : RA b G (W.alloc o) g m x := h.below ((Below.refl _ W).alloc (Nat.le_refl _) o)
theorem RA.se_ (h : RA b G W g m x) (q : Bool) : RA b G W g { m with se := q } x := ⟨h.ex, h.ty, h.so, h.nb, h.rb, h.nd, h.gs, h.al2, h.cko, h.n16⟩
theorem RA.G_ (h : RA b G W g m x) : G g := h.gs g (by simp [RX.own])
/-! ### Its blocks are apart. -/
theorem RA.ne (h : RA b G W g m x) : x.a ≠ g ∧ x.a ≠ x.m ∧ x.a ≠ x.s ∧ x.a ≠ x.n ∧ x.a ≠ x.r ∧ g ≠ x.m ∧ g ≠ x.s ∧ g ≠ x.n ∧ g ≠ x.r ∧ x.m ≠ x.s ∧ x.m ≠ x.n ∧ x.m ≠ x.r ∧ x.s ≠ x.n ∧ x.s ≠ x.r ∧ x.n ≠ x.r := by
  have := h.nd
  simp only [RX.own, List.nodup_cons, List.mem_cons, List.not_mem_nil, or_false, not_or, List.nodup_nil, and_true, not_false_eq_true] at this
  obtain ⟨⟨a1, a2, a3, a4, a5⟩, ⟨b1, b2, b3, b4⟩, ⟨c1, c2, c3⟩, ⟨d1, d2⟩, e1⟩ := this
  exact ⟨a1, a2, a3, a4, a5, b1, b2, b3, b4, c1, c2, c3, d1, d2, e1⟩
/-- Its tally turns. -/
theorem RA.upM (h : RA b G W g m x) {ty : TS} (hT : TAt 130 W' x.m ty) (o : Only x.m W W') : RA b G W' g { m with ty := ty } x := by
  obtain ⟨V, L, D, R, hB, hA, hV⟩ := h.ex
  obtain ⟨n1, n2, n3, n4, n5, n6, n7, n8, n9, n10, n11, n12, n13, n14, n15⟩ := h.ne
  have k : Kp (x.own g) W W' := o.kp (by simp [RX.own])
  obtain ⟨⟨sv, hS, hd⟩, hk⟩ := h.so
  exact ⟨⟨V, L, D, R, hB.only o n6, hA.only o n2, hV.keep k⟩, hT, ⟨⟨sv, hS.only o (Ne.symm n10), fun i hi => (hd i hi).keep k⟩, hk⟩, h.nb.only o (Ne.symm n11), h.rb.only o (Ne.symm n12), h.nd, h.gs, h.al2, h.cko, h.n16⟩
/-- Its store turns. -/
theorem RA.upS (h : RA b G W g m x) {so : MS} (hT : SRt G (x.own g) W' x.s so) (o : Only x.s W W') : RA b G W' g { m with so := so } x := by
  obtain ⟨V, L, D, R, hB, hA, hV⟩ := h.ex
  obtain ⟨n1, n2, n3, n4, n5, n6, n7, n8, n9, n10, n11, n12, n13, n14, n15⟩ := h.ne
  have k : Kp (x.own g) W W' := o.kp (by simp [RX.own])
  exact ⟨⟨V, L, D, R, hB.only o n7, hA.only o n3, hV.keep k⟩, h.ty.only o n10, hT, h.nb.only o (Ne.symm n13), h.rb.only o (Ne.symm n14), h.nd, h.gs, h.al2, h.cko, h.n16⟩
/-- Its own cells turn, its clock's list apart. -/
theorem RA.upG (h : RA b G W g m x) (k : Nat) (y : Value) (b' : Bool) (m' : NM) (e : ∀ V L D, (rnc m V L D x b).setIfInBounds k y = rnc m' V L D x b') (e1 : m'.t.ns = m.t.ns) (e2 : m'.ty = m.ty) (e3 : m'.ck = m.ck) (e4 : m'.so = m.so) (e5 : m'.al = m.al) (e6 : m'.an = m.an) (e7 : m'.ar = m.ar) (e8 : m'.da = m.da) : RA b' G (W.setCell ⟨g, k, none⟩ y) g m' x := by
  obtain ⟨V, L, D, R, hB, hA, hV⟩ := h.ex
  obtain ⟨n1, n2, n3, n4, n5, n6, n7, n8, n9, n10, n11, n12, n13, n14, n15⟩ := h.ne
  have o : Only g W (W.setCell ⟨g, k, none⟩ y) := (Only.refl g W).set k y
  have kk : Kp (x.own g) W (W.setCell ⟨g, k, none⟩ y) := o.kp (by simp [RX.own])
  obtain ⟨⟨sv, hS, hd⟩, hk⟩ := h.so
  refine ⟨⟨V, L, D, R, (hB.set k y).eq (e V L D), hA.only o n1, ?_⟩, e2 ▸ h.ty.only o (Ne.symm n6), e4 ▸ ⟨⟨sv, hS.only o (Ne.symm n7), fun i hi => (hd i hi).keep kk⟩, hk⟩, e6 ▸ h.nb.only o (Ne.symm n8), e7 ▸ h.rb.only o (Ne.symm n9), h.nd, h.gs, e5 ▸ h.al2, e3 ▸ h.cko, e6 ▸ e7 ▸ h.n16⟩
  rw [e1, e3, e5, e8]
  exact hV.keep kk
theorem RA.sSt (h : RA b G W g m x) (k : Nat) : RA b G (W.setCell ⟨g, 6, none⟩ (.int .i64 (k : Nat))) g { m with st := k } x := h.upG 6 _ b _ (fun _ _ _ => rfl) rfl rfl rfl rfl rfl rfl rfl rfl
theorem RA.sRd (h : RA b G W g m x) (k : Int) : RA b G (W.setCell ⟨g, 7, none⟩ (.int .i64 k)) g { m with rd := k } x := h.upG 7 _ b _ (fun _ _ _ => rfl) rfl rfl rfl rfl rfl rfl rfl rfl
theorem RA.sSl (h : RA b G W g m x) (k : Nat) : RA b G (W.setCell ⟨g, 8, none⟩ (.int .i64 (k : Nat))) g { m with sl := k } x := h.upG 8 _ b _ (fun _ _ _ => rfl) rfl rfl rfl rfl rfl rfl rfl rfl
theorem RA.sTm (h : RA b G W g m x) (k : Int) : RA b G (W.setCell ⟨g, 10, none⟩ (.int .i64 k)) g { m with tm := k } x := h.upG 10 _ b _ (fun _ _ _ => rfl) rfl rfl rfl rfl rfl rfl rfl rfl
theorem RA.sWt (h : RA b G W g m x) (k : Nat) : RA b G (W.setCell ⟨g, 16, none⟩ (.int .i64 (k : Nat))) g { m with wt := k } x := h.upG 16 _ b _ (fun _ _ _ => rfl) rfl rfl rfl rfl rfl rfl rfl rfl
theorem RA.sSe (h : RA b G W g m x) (k : Bool) : RA k G (W.setCell ⟨g, 17, none⟩ (.bool k)) g m x := h.upG 17 _ k _ (fun _ _ _ => rfl) rfl rfl rfl rfl rfl rfl rfl rfl
theorem RA.mono (h : RA b G W g m x) (hG : ∀ k, G k → G' k) : RA b G' W g m x := by
  obtain ⟨V, L, D, R, hB, hA, hV⟩ := h.ex
  have hn : ∀ {α : Type} {v : Value} {l : List α}, Nar G v l → Nar G' v l := fun h h0 y hy => hG y (h h0 y hy)
  exact ⟨⟨V, L, D, R, hB, hA, ⟨hV.t, hV.tf, hn hV.tn, hV.l, hV.lf, fun h0 k hk => hG k (hV.ln h0 k hk), hV.ll, ⟨hV.d.1, hn hV.d.2⟩, hV.r, hV.rf, hn hV.rn⟩⟩, h.ty, h.so.mono hG, h.nb, h.rb, h.nd, fun k hk => hG k (h.gs k hk), h.al2, h.cko, h.n16⟩
end
end Go.Proofs.YtpdenmcacaajkaaGreat

/-! ### RnN -/
namespace Go.Proofs.YtpdenmcacaajkaaGreat
open Go.RowKit
def upn (f : Nat → Nat) (k n i : Nat) : Nat := if i = k then n else f i
section
variable {b : Bool} {G : Nat → Prop} {W W' : World} {g : Nat} {m : NM} {x : RX}
/-- Its clock: what turns there turns here. -/
theorem RA.clock (h : RA b G W g m x) : ∃ (c : Cx 11) (L : Value), RKt c W g m.t.lm L m.ck ∧
    ∀ W' v' ck', RKt c W' g m.t.lm v' ck' → Only g W W' → (∀ k, vblk v' = some k → W.heap.size ≤ k ∧ ck' ≠ []) → ck'.length ≤ 4 → (∀ k, W.heap.size ≤ k → G k) → RA b G W' g { m with ck := ck' } x := by
  obtain ⟨V, L, D, R, hB, hA, hV⟩ := h.ex
  obtain ⟨n1, n2, n3, n4, n5, n6, n7, n8, n9, n10, n11, n12, n13, n14, n15⟩ := h.ne
  refine ⟨⟨rnH m V x, rnT m D x b, 91, rfl⟩, L, ⟨hB.eq (rnc_eq ..), hV.l, hV.lf g (by simp [RX.own])⟩, fun W' v' ck' hk o hn h4 hG => ?_⟩
  have kk : Kp (x.own g) W W' := o.kp (by simp [RX.own])
  obtain ⟨⟨sv, hS, hd⟩, hso⟩ := h.so
  have hV' := hV.keep kk
  refine ⟨⟨V, v', D, R, Blk.eq hk.blk (rnc_eq { m with ck := ck' } V v' D x b).symm, hA.only o n1, ⟨hV'.t, hV'.tf, hV'.tn, hk.sees, fun f hf e => ?_, fun _ k hk => hG k (hn k hk).1, fun k e => ?_, hV'.d, hV'.r, hV'.rf, hV'.rn⟩⟩, h.ty.only o (Ne.symm n6), ⟨⟨sv, hS.only o (Ne.symm n7), fun i hi => (hd i hi).keep kk⟩, hso⟩, h.nb.only o (Ne.symm n8), h.rb.only o (Ne.symm n9), h.nd, h.gs, h.al2, h4, h.n16⟩
  · have := (hn f e).1
    have := h.lts f (List.mem_cons_of_mem _ hf)
    omega
  · obtain ⟨A, c, rfl, -, -, h3, -⟩ := hk.sees.at_
    obtain ⟨b', off, rfl, hb, -⟩ := h3 (List.length_pos_iff.2 (hn k e).2)
    have : b' = k := by simpa [vblk] using e
    omega
/-- Its data turns. -/
theorem RA.sDa (h : RA b G W g m x) {v : Value} {l : List Int} (hv : DatG G (x.own g) W v l) : RA b G (W.setCell ⟨g, 15, none⟩ v) g { m with da := l } x := by
  obtain ⟨V, L, D, R, hB, hA, hV⟩ := h.ex
  obtain ⟨n1, n2, n3, n4, n5, n6, n7, n8, n9, n10, n11, n12, n13, n14, n15⟩ := h.ne
  have o : Only g W (W.setCell ⟨g, 15, none⟩ v) := (Only.refl g W).set 15 v
  have kk : Kp (x.own g) W (W.setCell ⟨g, 15, none⟩ v) := o.kp (by simp [RX.own])
  obtain ⟨⟨sv, hS, hd⟩, hk⟩ := h.so
  have hV' := hV.keep kk
  exact ⟨⟨V, L, v, R, (hB.set 15 v).eq rfl, hA.only o n1, ⟨hV'.t, hV'.tf, hV'.tn, hV'.l, hV'.lf, hV'.ln, hV'.ll, hv.keep kk, hV'.r, hV'.rf, hV'.rn⟩⟩, h.ty.only o (Ne.symm n6), ⟨⟨sv, hS.only o (Ne.symm n7), fun i hi => (hd i hi).keep kk⟩, hk⟩, h.nb.only o (Ne.symm n8), h.rb.only o (Ne.symm n9), h.nd, h.gs, h.al2, h.cko, h.n16⟩
/-- What is so now, and what rings, turn. -/
theorem RA.upN (h : RA b G W g m x) (an ar : Nat → Nat) (kq : Kq [x.n, x.r] W W') (hn : Blk W' x.n (two an) 3) (hr : Blk W' x.r (two ar) 3) (h16 : ∀ i, i < 2 → an i < 16 ∧ ar i < 16 ∧ ar i ||| an i = ar i) : RA b G W' g { m with an := an, ar := ar } x := by
  obtain ⟨V, L, D, R, hB, hA, hV⟩ := h.ex
  obtain ⟨n1, n2, n3, n4, n5, n6, n7, n8, n9, n10, n11, n12, n13, n14, n15⟩ := h.ne
  have kk : Kp (x.own g) W W' := ⟨kq.size, fun k hk hn => kq.block k hk fun hm => hn (by
    simp only [List.mem_cons, List.not_mem_nil, or_false] at hm
    rcases hm with rfl | rfl <;> simp [RX.own])⟩
  have e : ∀ {k cs t}, Blk W k cs t → k ≠ x.n → k ≠ x.r → Blk W' k cs t := fun hb a1 a2 => (kq.block _ hb.lt (by simp [a1, a2])).trans hb
  obtain ⟨⟨sv, hS, hd⟩, hk⟩ := h.so
  exact ⟨⟨V, L, D, R, e hB n8 n9, e hA n4 n5, hV.keep kk⟩, ⟨e h.ty.1 n11 n12, h.ty.2⟩, ⟨⟨sv, e hS n13 n14, fun i hi => (hd i hi).keep kk⟩, hk⟩, hn, hr, h.nd, h.gs, h.al2, h.cko, h16⟩
/-! ### A new block lies in none of its slices. -/
theorem seesT_new {v : Value} {l : List Tb.D} {f : Nat} (h : SeesT W W.heap.size v l) (hf : W.heap.size ≤ f) (h0 : l ≠ []) : v.ownBlock ≠ some f := by
  obtain ⟨A, c, rfl, -, -, h3, -⟩ := h.at_
  obtain ⟨b, off, rfl, hb, -⟩ := h3 (List.length_pos_iff.2 h0)
  intro e
  have : b = f := by simpa [Value.ownBlock] using e
  omega
theorem seesR_new {v : Value} {l : List R4} {f : Nat} (h : SeesRs W W.heap.size v l) (hf : W.heap.size ≤ f) (h0 : l ≠ []) : v.ownBlock ≠ some f := by
  obtain ⟨A, c, rfl, -, -, h3, -⟩ := h.at_
  obtain ⟨b, off, rfl, hb, -⟩ := h3 (List.length_pos_iff.2 h0)
  intro e
  have : b = f := by simpa [Value.ownBlock] using e
  omega
theorem seesL_new {v : Value} {l : List Int} {f : Nat} (h : SeesL W W.heap.size v l) (hf : W.heap.size ≤ f) (h0 : l ≠ []) : v.ownBlock ≠ some f := by
  obtain ⟨A, c, rfl, -, -, h3, -⟩ := h.at_
  obtain ⟨b, off, rfl, hb, -⟩ := h3 (List.length_pos_iff.2 h0)
  intro e
  have : b = f := by simpa [Value.ownBlock] using e
  omega
theorem DatG.new {P : List Nat} {v : Value} {l : List Int} {f : Nat} (h : DatG G P W v l) (hf : W.heap.size ≤ f) : DatG G (f :: P) W v l :=
  ⟨⟨h.1.1, fun k hk h0 => by
    rcases List.mem_cons.1 hk with rfl | hk
    · exact seesL_new h.1.1 hf h0
    · exact h.1.2 k hk h0⟩, h.2⟩
theorem RV.new {P : List Nat} {ns : List Tb.D} {ck da : List Int} {al : List R4} {V L D R : Value} {f : Nat} (h : RV G P W ns ck da al V L D R) (hf : W.heap.size ≤ f) : RV G (f :: P) W ns ck da al V L D R :=
  ⟨h.t, fun k hk h0 => by
    rcases List.mem_cons.1 hk with rfl | hk
    · exact seesT_new h.t hf h0
    · exact h.tf k hk h0, h.tn, h.l, fun k hk e => by
    rcases List.mem_cons.1 hk with rfl | hk
    · have := h.ll _ e; omega
    · exact h.lf k hk e, h.ln, h.ll, h.d.new hf, h.r, fun k hk h0 => by
    rcases List.mem_cons.1 hk with rfl | hk
    · exact seesR_new h.r hf h0
    · exact h.rf k hk h0, h.rn⟩
/-- A tally of its own anew. -/
theorem RA.freshM (h : RA b G W g m x) (hb : Below W.heap.size W W') {gm : Nat} (hgm : gm = W.heap.size) {ty : TS} (hT : TAt 130 W' gm ty) (hg : G gm) : RA b G (W'.setCell ⟨g, 9, none⟩ (.pointer (some ⟨gm, 0, none⟩))) g { m with ty := ty } { x with m := gm } := by
  have h' := h.below hb
  obtain ⟨V, L, D, R, hB, hA, hV0⟩ := h.ex
  obtain ⟨n1, n2, n3, n4, n5, n6, n7, n8, n9, n10, n11, n12, n13, n14, n15⟩ := h.ne
  have hn : gm ∉ x.a :: x.own g := fun hm => by have := h.lts _ hm; omega
  simp only [RX.own, List.mem_cons, List.not_mem_nil, or_false, not_or] at hn
  obtain ⟨q1, q2, q3, q4, q5, q6⟩ := hn
  obtain ⟨⟨sv, hS, hd⟩, hk⟩ := h.so
  have hV' := (hV0.new (f := gm) (by omega)).keep (kp_below hb)
  have hd' := fun i (hi : i < 8) => ((hd i hi).new (f := gm) (by omega)).keep (kp_below hb)
  have o : Only g W' (W'.setCell ⟨g, 9, none⟩ (.pointer (some ⟨gm, 0, none⟩))) := (Only.refl g W').set 9 _
  have sub : ∀ f, f ∈ ({ x with m := gm } : RX).own g → f ∈ gm :: x.own g := fun f hf => by
    simp only [RX.own, List.mem_cons, List.not_mem_nil, or_false] at hf ⊢
    rcases hf with e | e | e | e | e <;> simp [e]
  have kk : Kp (({ x with m := gm } : RX).own g) W' (W'.setCell ⟨g, 9, none⟩ (.pointer (some ⟨gm, 0, none⟩))) := o.kp (by simp [RX.own])
  have hV2 : RV G (({ x with m := gm } : RX).own g) W' m.t.ns m.ck m.da m.al V L D R := ⟨hV'.t, fun f hf => hV'.tf f (sub f hf), hV'.tn, hV'.l, fun f hf => hV'.lf f (sub f hf), hV'.ln, hV'.ll, ⟨⟨hV'.d.1.1, fun f hf => hV'.d.1.2 f (sub f hf)⟩, hV'.d.2⟩, hV'.r, fun f hf => hV'.rf f (sub f hf), hV'.rn⟩
  refine ⟨⟨V, L, D, R, ((hB.below hb hB.lt).set 9 _).eq rfl, (hA.below hb hA.lt).only o n1, hV2.keep kk⟩, hT.only o q2, ⟨⟨sv, (hS.below hb hS.lt).only o (Ne.symm n7), fun i hi => DatG.keep (F := ({ x with m := gm } : RX).own g) ⟨⟨(hd' i hi).1.1, fun f hf => (hd' i hi).1.2 f (sub f hf)⟩, (hd' i hi).2⟩ kk⟩, hk⟩, h'.nb.only o (Ne.symm n8), h'.rb.only o (Ne.symm n9), ?_, ?_, h.al2, h.cko, h.n16⟩
  · simp only [RX.own, List.nodup_cons, List.mem_cons, List.not_mem_nil, or_false, not_or, List.nodup_nil, and_true, not_false_eq_true]
    exact ⟨⟨n1, Ne.symm q1, n3, n4, n5⟩, ⟨Ne.symm q2, n7, n8, n9⟩, ⟨q4, q5, q6⟩, ⟨n13, n14⟩, n15⟩
  · intro k hk
    simp only [RX.own, List.mem_cons, List.not_mem_nil, or_false] at hk
    rcases hk with rfl | rfl | rfl | rfl | rfl | rfl
    · exact h.gs _ (by simp)
    · exact h.gs _ (by simp [RX.own])
    · exact hg
    · exact h.gs _ (by simp [RX.own])
    · exact h.gs _ (by simp [RX.own])
    · exact h.gs _ (by simp [RX.own])
/-! ### Cells. -/
theorem RA.cells (h : RA b G W g m x) : ∃ V L D R, Blk W g (rnc m V L D x b) 91 ∧ Blk W x.a #[R, .slice (some ⟨x.n, 0, none⟩) 2 2, .slice (some ⟨x.r, 0, none⟩) 2 2] 128 ∧ RV G (x.own g) W m.t.ns m.ck m.da m.al V L D R := h.ex
theorem RA.frozen (h : RA b G W g m x) (o : Nat) : W.frozen? ⟨g, o, none⟩ = false := by
  obtain ⟨V, L, D, R, hB, -, -⟩ := h.ex
  exact hB.frozen o
theorem RA.c1 (h : RA b G W g m x) : W.cell? ⟨g, 1, none⟩ = some (.int .i64 m.t.dr) := by obtain ⟨V, L, D, R, hB, -, -⟩ := h.ex; exact hB.cell 1 rfl
theorem RA.c2 (h : RA b G W g m x) : W.cell? ⟨g, 2, none⟩ = some (.int .i64 m.t.wi) := by obtain ⟨V, L, D, R, hB, -, -⟩ := h.ex; exact hB.cell 2 rfl
theorem RA.c3 (h : RA b G W g m x) : W.cell? ⟨g, 3, none⟩ = some (.int .i64 m.t.lm) := by obtain ⟨V, L, D, R, hB, -, -⟩ := h.ex; exact hB.cell 3 rfl
theorem RA.c4 (h : RA b G W g m x) : W.cell? ⟨g, 4, none⟩ = some (.int .i64 (m.i : Nat)) := by obtain ⟨V, L, D, R, hB, -, -⟩ := h.ex; exact hB.cell 4 rfl
theorem RA.c5 (h : RA b G W g m x) : W.cell? ⟨g, 5, none⟩ = some (.int .i64 m.dr) := by obtain ⟨V, L, D, R, hB, -, -⟩ := h.ex; exact hB.cell 5 rfl
theorem RA.c6 (h : RA b G W g m x) : W.cell? ⟨g, 6, none⟩ = some (.int .i64 (m.st : Nat)) := by obtain ⟨V, L, D, R, hB, -, -⟩ := h.ex; exact hB.cell 6 rfl
theorem RA.c7 (h : RA b G W g m x) : W.cell? ⟨g, 7, none⟩ = some (.int .i64 m.rd) := by obtain ⟨V, L, D, R, hB, -, -⟩ := h.ex; exact hB.cell 7 rfl
theorem RA.c8 (h : RA b G W g m x) : W.cell? ⟨g, 8, none⟩ = some (.int .i64 (m.sl : Nat)) := by obtain ⟨V, L, D, R, hB, -, -⟩ := h.ex; exact hB.cell 8 rfl
theorem RA.c9 (h : RA b G W g m x) : W.cell? ⟨g, 9, none⟩ = some (.pointer (some ⟨x.m, 0, none⟩)) := by obtain ⟨V, L, D, R, hB, -, -⟩ := h.ex; exact hB.cell 9 rfl
theorem RA.c10 (h : RA b G W g m x) : W.cell? ⟨g, 10, none⟩ = some (.int .i64 m.tm) := by obtain ⟨V, L, D, R, hB, -, -⟩ := h.ex; exact hB.cell 10 rfl
theorem RA.c13 (h : RA b G W g m x) : W.cell? ⟨g, 13, none⟩ = some (.pointer (some ⟨x.s, 0, none⟩)) := by obtain ⟨V, L, D, R, hB, -, -⟩ := h.ex; exact hB.cell 13 rfl
theorem RA.c14 (h : RA b G W g m x) : W.cell? ⟨g, 14, none⟩ = some (.pointer (some ⟨x.a, 0, none⟩)) := by obtain ⟨V, L, D, R, hB, -, -⟩ := h.ex; exact hB.cell 14 rfl
theorem RA.c16 (h : RA b G W g m x) : W.cell? ⟨g, 16, none⟩ = some (.int .i64 (m.wt : Nat)) := by obtain ⟨V, L, D, R, hB, -, -⟩ := h.ex; exact hB.cell 16 rfl
theorem RA.c17 (h : RA b G W g m x) : W.cell? ⟨g, 17, none⟩ = some (.bool b) := by obtain ⟨V, L, D, R, hB, -, -⟩ := h.ex; exact hB.cell 17 rfl
/-- Its nodes. -/
theorem RA.c0 (h : RA b G W g m x) : ∃ A c, W.cell? ⟨g, 0, none⟩ = some (.slice A m.t.ns.length c) ∧ SeesT W W.heap.size (.slice A m.t.ns.length c) m.t.ns := by
  obtain ⟨V, L, D, R, hB, -, hV⟩ := h.ex
  obtain ⟨A, c, e, -⟩ := hV.t.at_
  exact ⟨A, c, e ▸ hB.cell 0 rfl, e ▸ hV.t⟩
/-- One of its nodes. -/
theorem RA.defAt (h : RA b G W g m x) {j : Nat} (hj : j < m.t.ns.length) : ∃ bl off c, W.cell? ⟨g, 0, none⟩ = some (.slice (some ⟨bl, off, none⟩) m.t.ns.length c) ∧ bl < W.heap.size ∧ AtD W bl (off + j * 4) (m.t.ns.getD j default) ∧ m.t.ns.length ≤ c := by
  obtain ⟨A, c, h0, hs⟩ := h.c0
  obtain ⟨A', c', e, h1, -, h3, -⟩ := hs.at_
  cases e
  obtain ⟨bl, off, rfl, hb, hd⟩ := h3 (by omega)
  exact ⟨bl, off, c, h0, hb, hd j hj, h1⟩
/-- Its data. -/
theorem RA.c15 (h : RA b G W g m x) : ∃ A c, W.cell? ⟨g, 15, none⟩ = some (.slice A m.da.length c) ∧ DatG G (x.own g) W (.slice A m.da.length c) m.da := by
  obtain ⟨V, L, D, R, hB, -, hV⟩ := h.ex
  obtain ⟨A, c, e, -⟩ := hV.d.1.1.at_
  exact ⟨A, c, e ▸ hB.cell 15 rfl, e ▸ hV.d⟩
/-- Its alarms' cells. -/
theorem RA.a0 (h : RA b G W g m x) : ∃ A c, W.cell? ⟨x.a, 0, none⟩ = some (.slice A 2 c) ∧ SeesRs W W.heap.size (.slice A 2 c) m.al ∧ ∀ f, f ∈ x.own g → (Value.slice A 2 c).ownBlock ≠ some f := by
  obtain ⟨V, L, D, R, -, hA, hV⟩ := h.ex
  obtain ⟨A, c, e, -⟩ := hV.r.at_
  have h2 := h.al2
  rw [h2] at e
  exact ⟨A, c, e ▸ hA.cell 0 rfl, e ▸ hV.r, fun f hf => e ▸ hV.rf f hf (fun h => by rw [h] at h2; cases h2)⟩
theorem RA.a1 (h : RA b G W g m x) : W.cell? ⟨x.a, 1, none⟩ = some (.slice (some ⟨x.n, 0, none⟩) 2 2) := by obtain ⟨V, L, D, R, -, hA, -⟩ := h.ex; exact hA.cell 1 rfl
theorem RA.a2 (h : RA b G W g m x) : W.cell? ⟨x.a, 2, none⟩ = some (.slice (some ⟨x.r, 0, none⟩) 2 2) := by obtain ⟨V, L, D, R, -, hA, -⟩ := h.ex; exact hA.cell 2 rfl
theorem two_at (f : Nat → Nat) {k : Nat} (hk : k < 2) : (two f)[k]? = some (.int .i64 (f k : Nat)) := by
  match k, hk with
  | 0, _ => rfl
  | 1, _ => rfl
theorem two_set (f : Nat → Nat) {k : Nat} (hk : k < 2) (n : Nat) : (two f).setIfInBounds k (.int .i64 (n : Nat)) = two (upn f k n) := by
  match k, hk with
  | 0, _ => rfl
  | 1, _ => rfl
theorem RA.n_ (h : RA b G W g m x) {k : Nat} (hk : k < 2) : W.cell? ⟨x.n, k, none⟩ = some (.int .i64 (m.an k : Nat)) := h.nb.cell k (two_at _ hk)
theorem RA.r_ (h : RA b G W g m x) {k : Nat} (hk : k < 2) : W.cell? ⟨x.r, k, none⟩ = some (.int .i64 (m.ar k : Nat)) := h.rb.cell k (two_at _ hk)
end
end Go.Proofs.YtpdenmcacaajkaaGreat

/-! ### RaL -/
namespace Go.Proofs.YtpdenmcacaajkaaGreat
open Go.RowKit
theorem two_alike {f h : Nat → Nat} (e : ∀ i, i < 2 → f i = h i) : two f = two h := by
  unfold two
  rw [e 0 (by omega), e 1 (by omega)]
theorem or_or_self (a n : Nat) : (a ||| n) ||| n = a ||| n := by rw [Nat.or_assoc, Nat.or_self]
/-- The first k are looked at. -/
def NM.lk (m : NM) (k : Nat) : NM := { m with an := fun i => if i < k then nowM m.al m.so i else m.an i, ar := fun i => if i < k then m.ar i ||| nowM m.al m.so i else m.ar i }
section
variable {b : Bool} {G : Nat → Prop} {W W' : World} {g : Nat} {m : NM} {x : RX}
theorem RA.alikeN (h : RA b G W g m x) {an ar : Nat → Nat} (ea : ∀ i, i < 2 → m.an i = an i) (er : ∀ i, i < 2 → m.ar i = ar i) : RA b G W g { m with an := an, ar := ar } x :=
  h.upN an ar (Kq.refl _ _) (h.nb.eq (two_alike ea)) (h.rb.eq (two_alike er)) fun i hi => by
    rw [← ea i hi, ← er i hi]
    exact h.n16 i hi
end
set_option maxRecDepth 100000 in
set_option maxHeartbeats 2000000 in
theorem rings_ra (b : Bool) (G : Nat → Prop) (g : Nat) (m : NM) (x : RX) (i : Int) (w : World) (h : RA b G w g m x) :
    Calls Tryz.prog 46 #[.pointer (some ⟨x.a, 0, none⟩), .int .i64 i] w fun e w' => e = .returned (.int .i64 ((if isR m.al i then m.ar i.toNat else 0 : Nat) : Int)) ∧ w' = w := by
  obtain ⟨A, c, a0, -, -⟩ := h.a0
  have a2 := h.a2
  have h2 := h.al2
  by_cases h0 : i < 0
  · rw [if_neg (by unfold isR; omega)]
    clear h
    go_enter Tryz.func46, Tryz.ntmps46
    go_wp2
    go_ret
    exact ⟨rfl, rfl⟩
  · obtain ⟨k, rfl⟩ : ∃ k : Nat, i = k := ⟨i.toNat, by omega⟩
    rw [Int.toNat_natCast]
    by_cases h1 : k < 2
    · rw [if_pos (by unfold isR; omega)]
      have d1 : decide ((2 : Int) ≤ (k : Int)) = false := decide_eq_false (by omega)
      have c2 := h.r_ h1
      clear h
      go_enter Tryz.func46, Tryz.ntmps46
      go_wp2
      go_ret
      exact ⟨rfl, rfl⟩
    · rw [if_neg (by unfold isR; omega)]
      have d1 : decide ((2 : Int) ≤ (k : Int)) = true := decide_eq_true (by omega)
      clear h
      go_enter Tryz.func46, Tryz.ntmps46
      go_wp2
      go_ret
      exact ⟨rfl, rfl⟩
theorem andn0 : ∀ a c : Fin 16, a.val ||| c.val = a.val → (andn a.val c.val = 0 ↔ a.val = c.val) := by decide +kernel
set_option maxRecDepth 100000 in
set_option maxHeartbeats 2000000 in
theorem ack_ra (b : Bool) (G : Nat → Prop) (g : Nat) (m : NM) (x : RX) (i : Int) (w : World) (h : RA b G w g m x) :
    Calls Tryz.prog 32 #[.pointer (some ⟨x.a, 0, none⟩), .int .i64 i] w fun e w' => e = .returned (.int .i64 (ackM m.al m.an m.ar i)) ∧ RA b G w' g { m with ar := ackR m.al m.an m.ar i } x ∧ KG G w w' := by
  obtain ⟨A, c, a0, -, -⟩ := h.a0
  have a1 := h.a1
  have a2 := h.a2
  have h2 := h.al2
  have hk := Lib.hid h
  by_cases h0 : i < 0
  · rw [show ackM m.al m.an m.ar i = 1 by unfold ackM; rw [if_neg (by unfold isR; omega)], show ackR m.al m.an m.ar i = m.ar by unfold ackR; rw [if_neg (by unfold isR; omega)]]
    clear h
    go_enter Tryz.func32, Tryz.ntmps32
    go_wp2
    go_ret
    exact ⟨rfl, hk.out, KG.refl _ _⟩
  obtain ⟨k, rfl⟩ : ∃ k : Nat, i = k := ⟨i.toNat, by omega⟩
  by_cases h1 : k < 2
  case neg =>
    rw [show ackM m.al m.an m.ar k = 1 by unfold ackM; rw [if_neg (by unfold isR; omega)], show ackR m.al m.an m.ar k = m.ar by unfold ackR; rw [if_neg (by unfold isR; omega)]]
    have d1 : decide ((2 : Int) ≤ (k : Int)) = true := decide_eq_true (by omega)
    clear h
    go_enter Tryz.func32, Tryz.ntmps32
    go_wp2
    go_ret
    exact ⟨rfl, hk.out, KG.refl _ _⟩
  have d1 : decide ((2 : Int) ≤ (k : Int)) = false := decide_eq_false (by omega)
  obtain ⟨b1, b2, b3⟩ := h.n16 k h1
  have hq := andn0 ⟨m.ar k, b2⟩ ⟨m.an k, b1⟩ b3
  simp only at hq
  have cn := h.n_ h1
  have cr := h.r_ h1
  have fr := h.rb.frozen k
  have hR : isR m.al k := by unfold isR; omega
  by_cases he : m.ar k = m.an k
  · rw [show ackM m.al m.an m.ar k = 4 by unfold ackM; rw [if_pos hR, Int.toNat_natCast, if_pos (hq.2 he)], show ackR m.al m.an m.ar k = m.ar by unfold ackR; rw [if_pos hR, Int.toNat_natCast, if_pos (hq.2 he)]]
    rw [he] at cr
    clear h hq hR he
    go_enter Tryz.func32, Tryz.ntmps32
    go_wp2_with fail
    go_quiet (fail)
    go_wp2
    go_ret
    exact ⟨rfl, hk.out.drewN _, kg_below (below_drewN (Below.refl _ _) _)⟩
  · rw [show ackM m.al m.an m.ar k = 0 by unfold ackM; rw [if_pos hR, Int.toNat_natCast, if_neg (fun h => he (hq.1 h))], show ackR m.al m.an m.ar k = upd m.ar k (m.an k) by unfold ackR; rw [if_pos hR, Int.toNat_natCast, if_neg (fun h => he (hq.1 h))]]
    have hne : (((m.ar k : Nat) : Int) == ((m.an k : Nat) : Int)) = false := by rw [beq_eq_false_iff_ne]; omega
    obtain ⟨n1, n2, n3, n4, n5, n6, n7, n8, n9, n10, n11, n12, n13, n14, n15⟩ := h.ne
    have hg := h.gs x.r (by simp [RX.own])
    have hfin : Hid (∀ n : Nat, RA b G ((w.drewN n).setCell ⟨x.r, k, none⟩ (.int .i64 (m.an k : Nat))) g { m with ar := upd m.ar k (m.an k) } x) := Lib.hid fun n => by
      refine ((h.drewN n).upN m.an (upd m.ar k (m.an k)) (W' := (w.drewN n).setCell ⟨x.r, k, none⟩ (.int .i64 (m.an k : Nat))) (((Only.refl x.r _).set k _).kq (by simp)) ((h.nb.drewN n).other ⟨x.r, k, none⟩ n15 _) (((h.rb.drewN n).set k _).eq ((two_set _ h1 _).trans (two_alike fun i _ => rfl))) fun i hi => ?_)
      obtain ⟨c1, c2, c3⟩ := h.n16 i hi
      unfold upd
      split
      · rename_i e; subst e; exact ⟨b1, b1, Nat.or_self _⟩
      · exact ⟨c1, c2, c3⟩
    have hkg : Hid (∀ n : Nat, KG G w ((w.drewN n).setCell ⟨x.r, k, none⟩ (.int .i64 (m.an k : Nat)))) := Lib.hid fun n =>
      (kg_below (below_drewN (Below.refl _ w) n)).trans (((Only.refl x.r _).set k _).kg hg)
    clear h hq hR he b3
    go_enter Tryz.func32, Tryz.ntmps32
    go_wp2_with fail
    go_quiet (fail)
    go_wp2_with fail
    go_region
    all_goals
      go_wp2
      go_ret
      exact ⟨rfl, hfin.out _, hkg.out _⟩
set_option maxRecDepth 100000 in
set_option maxHeartbeats 4000000 in
theorem look_ra (b : Bool) (G : Nat → Prop) (g : Nat) (m : NM) (x : RX) (w : World) (h : RA b G w g m x) :
    Calls Tryz.prog 135 #[.pointer (some ⟨x.a, 0, none⟩), .pointer (some ⟨x.s, 0, none⟩)] w fun e w' => e = .returned (.tuple #[]) ∧ RA b G w' g { m with an := nowM m.al m.so, ar := fun i => m.ar i ||| nowM m.al m.so i } x ∧ KG G w w' := by
  have h2 := h.al2
  have hN := nowM_lt m.al m.so
  obtain ⟨n1, n2, n3, n4, n5, n6, n7, n8, n9, n10, n11, n12, n13, n14, n15⟩ := h.ne
  have hgn := h.gs x.n (by simp [RX.own])
  have hgr := h.gs x.r (by simp [RX.own])
  have hby := (h.so.2).gd
  have hn6 := h.n16
  have h16 : ∀ i, i < 2 → m.ar i < 16 := fun i hi => (h.n16 i hi).2.1
  go_enter Tryz.func135, Tryz.ntmps135
  go_wp2_with fail
  go_loopw [4] (fun i wr => ∃ k : Nat, k ≤ 2 ∧ i = .int .i64 k ∧ RA b G wr g (m.lk k) x ∧ KG G w wr) (fun i _ => 2 - (intOf i).toNat)
  case atStart => exact ⟨0, by omega, rfl, h.alikeN (fun _ _ => rfl) (fun _ _ => rfl), KG.refl _ _⟩
  case round =>
    clear h
    obtain ⟨k, hk, rfl, h, o⟩ := hrel
    obtain ⟨A, c, a0, hS, hSf⟩ := h.a0
    by_cases hlt : k < 2
    · have r1 : decide ((k : Int) < 2) = true := decide_eq_true (by omega)
      have q1 : (0 : Int) ≤ (k : Int) := by omega
      have q2 : (k : Int) < 2 := by omega
      have q3 : ((k : Nat) : Int).toNat = k := Int.toNat_natCast k
      obtain ⟨A', c', e', v1, v2, v3, v4⟩ := hS.at_
      simp only [Value.slice.injEq] at e'
      obtain ⟨rfl, -, rfl⟩ := e'
      obtain ⟨bl, off, rfl, hb, hG⟩ := v3 (by show 0 < (m.lk k).al.length; rw [show (m.lk k).al = m.al from rfl]; omega)
      have hA : AtRl wr bl (off + k * 4) (m.al.getD k default) := hG k (by show k < m.al.length; omega)
      have hnk : nowM m.al m.so k = whyM (m.al.getD k default) (m.so.gd (m.al.getD k default).n) (m.so.ga (m.al.getD k default).n) (m.so.gg (m.al.getD k default).n) := by unfold nowM; rw [if_pos (by omega)]
      generalize m.al.getD k default = q at *
      have hGt := fun W (hW : RA b G W g (m.lk k) x) => Lib.hid (get_rs G (x.own g) x.s m.so q.n W hW.so)
      have hWy := fun v B W hv => Lib.hid (why_rf q v (m.so.gd q.n) (m.so.ga q.n) (m.so.gg q.n) B W hv (hby q.n).2)
      have hSX : Hid (∀ W, Below wr.heap.size wr W → RA b G W g (m.lk k) x) := Lib.hid fun W hW => h.below hW
      have HS : ∀ W, Below wr.heap.size wr W → W.cell? ⟨x.a, 0, none⟩ = some (.slice (some ⟨bl, off, none⟩) 2 c) ∧ W.cell? ⟨x.a, 1, none⟩ = some (.slice (some ⟨x.n, 0, none⟩) 2 2) ∧ W.cell? ⟨bl, off + k * 4, none⟩ = some (.int .i64 q.n) ∧ W.cell? ⟨bl, off + k * 4 + 1, none⟩ = some (.int .i64 q.lo) ∧ W.cell? ⟨bl, off + k * 4 + 2, none⟩ = some (.int .i64 q.hi) ∧ W.cell? ⟨bl, off + k * 4 + 3, none⟩ = some (.int .i64 q.st) := fun W hW => by
        have h' := h.below hW
        have hA' := hA.keep (w' := W) fun o => hW.cell (p := ⟨bl, o, none⟩) (by show bl < _; omega)
        exact ⟨(hW.cell (p := ⟨x.a, 0, none⟩) (h.lts x.a (by simp))).trans a0, h'.a1, hA'.c0, hA'.c1, hA'.c2, hA'.c3⟩
      have hbn : bl ≠ x.n := fun e => hSf x.n (by simp [RX.own]) (by rw [← e]; rfl)
      have HY : Hid (∀ W, Below wr.heap.size wr W → W.cell? ⟨x.n, k, none⟩ = some (.int .i64 ((m.lk k).an k : Nat)) ∧ W.frozen? ⟨x.n, k, none⟩ = false) := Lib.hid fun W hW => ⟨(h.below hW).n_ hlt, (h.below hW).nb.frozen k⟩
      have HT : Hid (∀ W v, Below wr.heap.size wr W → ((W.setCell ⟨x.n, k, none⟩ v).cell? ⟨x.a, 0, none⟩ = some (.slice (some ⟨bl, off, none⟩) 2 c) ∧ (W.setCell ⟨x.n, k, none⟩ v).cell? ⟨x.a, 1, none⟩ = some (.slice (some ⟨x.n, 0, none⟩) 2 2) ∧ (W.setCell ⟨x.n, k, none⟩ v).cell? ⟨bl, off + k * 4, none⟩ = some (.int .i64 q.n) ∧ (W.setCell ⟨x.n, k, none⟩ v).cell? ⟨bl, off + k * 4 + 1, none⟩ = some (.int .i64 q.lo) ∧ (W.setCell ⟨x.n, k, none⟩ v).cell? ⟨bl, off + k * 4 + 2, none⟩ = some (.int .i64 q.hi) ∧ (W.setCell ⟨x.n, k, none⟩ v).cell? ⟨bl, off + k * 4 + 3, none⟩ = some (.int .i64 q.st))) := Lib.hid fun W v hW => by
        obtain ⟨p0, p1, p2, p3, p4, p5⟩ := HS W hW
        have o : Only x.n W (W.setCell ⟨x.n, k, none⟩ v) := (Only.refl _ _).set k v
        have e1 : (W.setCell ⟨x.n, k, none⟩ v).heap[x.a]? = W.heap[x.a]? := o.block x.a (by have := hW.size; have := h.lts x.a (by simp); omega) (by simpa using n4)
        have e2 : (W.setCell ⟨x.n, k, none⟩ v).heap[bl]? = W.heap[bl]? := o.block bl (by have := hW.size; omega) (by simpa using hbn)
        refine ⟨Eq.trans ?_ p0, Eq.trans ?_ p1, Eq.trans ?_ p2, Eq.trans ?_ p3, Eq.trans ?_ p4, Eq.trans ?_ p5⟩ <;> simp only [World.cell?, e1, e2]
      clear hS hSf hG v1 v2 v3 v4 hA h a0
      have hbr := (Below.refl wr.heap.size wr).drew
      have S0 := Lib.hid (HS wr.drew hbr)
      have hRd := Lib.hid (hSX.out wr.drew hbr)
      have HH := Lib.hid HS
      obtain ⟨y0, -⟩ := HS _ (Below.refl _ wr)
      clear HS
      go_wp2_with fail
      clear y0
      go_region_held3 (fun W => W.cell? ⟨x.a, 0, none⟩ = some (.slice (some ⟨bl, off, none⟩) 2 c) ∧ W.cell? ⟨x.a, 1, none⟩ = some (.slice (some ⟨x.n, 0, none⟩) 2 2) ∧ W.cell? ⟨bl, off + k * 4, none⟩ = some (.int .i64 q.n) ∧ W.cell? ⟨bl, off + k * 4 + 1, none⟩ = some (.int .i64 q.lo) ∧ W.cell? ⟨bl, off + k * 4 + 2, none⟩ = some (.int .i64 q.hi) ∧ W.cell? ⟨bl, off + k * 4 + 3, none⟩ = some (.int .i64 q.st)) ((first | exact S0.out | exact S1.out | exact S2.out | exact S3.out _))
        (first
          | (go_at_call 44; refine (hGt wr.drew hRd.out).out.mono ?_; rintro _ w4 ⟨v4, rfl, hv4, b4⟩; (have b5 := hbr.trans (b4.mono hbr.size)); (have S1 := Lib.hid (HH.out w4 b5)))
          | (go_at_call 153; refine (hWy v4 w4.heap.size w4 hv4).out.mono ?_; rintro _ w6 ⟨rfl, b6⟩; (have b7 := b5.trans (b6.mono b5.size)); (have S2 := Lib.hid (HH.out w6 b7)); (have S3 := Lib.hid (fun v => HT.out w6 v b7)); (obtain ⟨y7, y8⟩ := HY.out w6 b7))
          | fail)
      clear S0 S1 S2 S3 HH HT HY hRd hGt hWy y7 y8
      have h6 := hSX.out w6 b7
      have ho6 := Lib.hid (o.trans ((kg_below b7)))
      rw [← hnk]
      have hn16 := hN k
      have hr16 := (h16 k hlt)
      have eAr : (m.lk k).ar k = m.ar k := if_neg (Nat.lt_irrefl k)
      have hor := or_16 hr16 hn16
      have o7 : Only x.n w6 (w6.setCell ⟨x.n, k, none⟩ (.int .i64 (nowM m.al m.so k : Nat))) := (Only.refl _ _).set k _
      have hnb := (h6.nb.set k (.int .i64 (nowM m.al m.so k : Nat))).eq (two_set _ hlt _)
      have hrb := h6.rb.other ⟨x.n, k, none⟩ (Ne.symm n15) (.int .i64 (nowM m.al m.so k : Nat))
      have a1 : (w6.setCell ⟨x.n, k, none⟩ (.int .i64 (nowM m.al m.so k : Nat))).cell? ⟨x.a, 1, none⟩ = some (.slice (some ⟨x.n, 0, none⟩) 2 2) := by
        refine Eq.trans ?_ h6.a1
        simp only [World.cell?, o7.block x.a (h6.lts x.a (by simp)) (by simpa using n4)]
      have a2 : (w6.setCell ⟨x.n, k, none⟩ (.int .i64 (nowM m.al m.so k : Nat))).cell? ⟨x.a, 2, none⟩ = some (.slice (some ⟨x.r, 0, none⟩) 2 2) := by
        refine Eq.trans ?_ h6.a2
        simp only [World.cell?, o7.block x.a (h6.lts x.a (by simp)) (by simpa using n4)]
      have HF : Hid (RA b G ((w6.setCell ⟨x.n, k, none⟩ (.int .i64 (nowM m.al m.so k : Nat))).setCell ⟨x.r, k, none⟩ (.int .i64 (m.ar k ||| nowM m.al m.so k : Nat))) g (m.lk (k + 1)) x ∧ KG G w ((w6.setCell ⟨x.n, k, none⟩ (.int .i64 (nowM m.al m.so k : Nat))).setCell ⟨x.r, k, none⟩ (.int .i64 (m.ar k ||| nowM m.al m.so k : Nat)))) := Lib.hid ⟨by
        refine h6.upN (m.lk (k + 1)).an (m.lk (k + 1)).ar ((o7.kq (by simp)).trans (((Only.refl x.r _).set k _).kq (by simp))) ((hnb.other ⟨x.r, k, none⟩ n15 _).eq (two_alike fun i hi => ?_)) (((hrb.set k _).eq (two_set _ hlt _)).eq (two_alike fun i hi => ?_)) fun i hi => ?_
        · show upn (m.lk k).an k (nowM m.al m.so k) i = if i < k + 1 then nowM m.al m.so i else m.an i
          unfold upn
          by_cases e : i = k
          · subst e; rw [if_pos rfl, if_pos (by omega)]
          · rw [if_neg e]
            show (if i < k then nowM m.al m.so i else m.an i) = _
            by_cases e2 : i < k
            · rw [if_pos e2, if_pos (by omega)]
            · rw [if_neg e2, if_neg (by omega)]
        · show upn (m.lk k).ar k (m.ar k ||| nowM m.al m.so k) i = if i < k + 1 then m.ar i ||| nowM m.al m.so i else m.ar i
          unfold upn
          by_cases e : i = k
          · subst e; rw [if_pos rfl, if_pos (by omega)]
          · rw [if_neg e]
            show (if i < k then m.ar i ||| nowM m.al m.so i else m.ar i) = _
            by_cases e2 : i < k
            · rw [if_pos e2, if_pos (by omega)]
            · rw [if_neg e2, if_neg (by omega)]
        · show (if i < k + 1 then nowM m.al m.so i else m.an i) < 16 ∧ (if i < k + 1 then m.ar i ||| nowM m.al m.so i else m.ar i) < 16 ∧ (if i < k + 1 then m.ar i ||| nowM m.al m.so i else m.ar i) ||| (if i < k + 1 then nowM m.al m.so i else m.an i) = (if i < k + 1 then m.ar i ||| nowM m.al m.so i else m.ar i)
          by_cases e : i < k + 1
          · rw [if_pos e, if_pos e]
            exact ⟨hN i, or16_lt (h16 i hi) (hN i), or_or_self _ _⟩
          · rw [if_neg e, if_neg e]
            exact hn6 i hi, ho6.out.trans ((o7.kg hgn).trans (((Only.refl x.r _).set k _).kg hgr))⟩
      have cn := hnb.cell k (two_at _ hlt)
      have cr := hrb.cell k (two_at _ hlt)
      have fr := hrb.frozen k
      rw [show upn (m.lk k).an k (nowM m.al m.so k) k = nowM m.al m.so k from if_pos rfl] at cn
      rw [eAr] at cr
      clear h6 ho6 o7 hnb hrb hSX b7 b5 b4 b6 hbr eAr hnk
      generalize w6.setCell ⟨x.n, k, none⟩ _ = w7 at *
      generalize nowM m.al m.so k = nk at *
      generalize m.ar k = ak at *
      go_wp2_with fail
      go_region
      all_goals
        go_wp2
        go_roundw
        case rel => exact ⟨k + 1, by omega, by go_num, HF.out.1.drew, HF.out.2.trans (kg_below (Below.refl _ _).drew)⟩
        case measure => simp [intOf]; omega
    · obtain rfl : k = 2 := by omega
      have hf := Lib.hid (h.alikeN (an := nowM m.al m.so) (ar := fun i => m.ar i ||| nowM m.al m.so i) (fun i hi => if_pos hi) (fun i hi => if_pos hi))
      have ho := Lib.hid o
      clear h hS hSf o
      go_wp2
      exact bodyPost_end (results_none (by rfl) _ _ _) rfl ⟨rfl, hf.out, ho.out⟩
end Go.Proofs.YtpdenmcacaajkaaGreat
