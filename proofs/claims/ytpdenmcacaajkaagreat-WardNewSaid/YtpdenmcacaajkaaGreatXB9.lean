/- Texts AlW, AlC, AlD, AlE, NdM, Pb in one. For what each says in front of its theorems. -/
import Derived.BigQuiet
import Derived.Recover
import Derived.BigRegion
import Derived.Deep.RegionWith
import Derived.Deep.RegionLaw
import Derived.Lib.LazyBuf
import Derived.Test.YtpdenmcacaajkaaGreatXB3
import Derived.Test.YtpdenmcacaajkaaGreatXB5
import Derived.Test.YtpdenmcacaajkaaGreatXB6
import Derived.Test.YtpdenmcacaajkaaGreatXB7
import Derived.Test.YtpdenmcacaajkaaGreatXB8
/-! ### AlW -/
namespace Go.Proofs.YtpdenmcacaajkaaGreat
open Go.RowKit

set_option maxRecDepth 100000 in
set_option maxHeartbeats 4000000 in
theorem why_al (r : R4) (v : Value) (l : List Int) (a : Int) (b : Bool) (B : Nat) (w : World) (hv : SeesL w B v l) (hl : bytesL l) :
    Calls Tryz.prog 171 #[r.v, .agg #[v, .int .i64 a, .bool b]] w fun e w' => e = .returned (.int .i64 (whyM r l a b : Nat)) ∧ Below w.heap.size w w' := by
  obtain ⟨n, lo, hi, st⟩ := r
  have hb := fun W (h : Below w.heap.size w W) => (h : Below w.heap.size w W)
  obtain ⟨A, c, rfl, v1, v2, v3, -⟩ := hv.at_
  unfold maxLen at v2
  unfold R4.v
  have o1 : bits BinOp.or IntKind.i64 0 1 = 1 := by decide
  have o2 : bits BinOp.or IntKind.i64 0 2 = 2 := by decide
  have o3 : bits BinOp.or IntKind.i64 1 2 = 3 := by decide
  have o4 : bits BinOp.or IntKind.i64 0 4 = 4 := by decide
  have o5 : bits BinOp.or IntKind.i64 1 4 = 5 := by decide
  have o6 : bits BinOp.or IntKind.i64 2 4 = 6 := by decide
  have o7 : bits BinOp.or IntKind.i64 3 4 = 7 := by decide
  have p0 : bits BinOp.or IntKind.i64 0 8 = 8 := by decide
  have p1 : bits BinOp.or IntKind.i64 1 8 = 9 := by decide
  have p2 : bits BinOp.or IntKind.i64 2 8 = 10 := by decide
  have p3 : bits BinOp.or IntKind.i64 3 8 = 11 := by decide
  have p4 : bits BinOp.or IntKind.i64 4 8 = 12 := by decide
  have p5 : bits BinOp.or IntKind.i64 5 8 = 13 := by decide
  have p6 : bits BinOp.or IntKind.i64 6 8 = 14 := by decide
  have p7 : bits BinOp.or IntKind.i64 7 8 = 15 := by decide
  have hbel : ∀ M1 M2, Below w.heap.size w ((w.alloc M1).alloc M2) := fun M1 M2 => ((Below.refl w.heap.size w).alloc (Nat.le_refl _) M1).alloc (by simp) M2
  by_cases h0 : l = []
  · subst h0
    have q0 : decide ((0 : Int) < (([] : List Int).length : Nat)) = false := by decide
    simp only [List.length_nil] at *
    go_enter Tryz.func171, Tryz.ntmps171
    go_wp2_with fail
    all_goals
      go_ret
      refine ⟨?_, (by first | exact hbel _ _ | exact below_drewN (hbel _ _) _ | exact below_drewN (below_drewN (hbel _ _) _) _)⟩
      simp_all [whyM]
    all_goals ((repeat' split) <;> omega)
  · have h1 : 0 < l.length := List.length_pos_iff.2 h0
    have q0 : decide ((0 : Int) < ((l.length : Nat) : Int)) = true := decide_eq_true (by omega)
    obtain ⟨b0, off, rfl, hb0, hc⟩ := v3 h1
    have c0 := hc 0 h1
    obtain ⟨x1, x2⟩ := hl.getD 0
    unfold bv at c0
    have hx : whyM ⟨n, lo, hi, st⟩ l a b = (if l.getD 0 0 < lo then 1 else 0) + (if hi < l.getD 0 0 then 2 else 0) + (if st < a ∨ a = -1 then 4 else 0) + (if b then 0 else 8) := by
      unfold whyM
      simp [h0]
    rw [hx]
    clear hx hc v3 hv hl
    generalize l.getD 0 0 = x0 at *
    have wx : IntKind.i64.wrap x0 = x0 := IntWalk.i64_in _ (by omega)
    have r0 : (0 : Int) < ((l.length : Nat) : Int) := by omega
    rw [Nat.add_zero] at c0
    have c1 := Lib.cell?_alloc_some (.cells #[.slice (some ⟨b0, off, none⟩) l.length c, .int .i64 a, .bool b] 72) (Lib.cell?_alloc_some (.cells #[.int .i64 n, .int .i64 lo, .int .i64 hi, .int .i64 st] 80) c0)
    generalize l.length = N at *
    go_enter Tryz.func171, Tryz.ntmps171
    go_wp2_with fail
    all_goals
      go_ret
      refine ⟨?_, (by first | exact hbel _ _ | exact below_drewN (hbel _ _) _ | exact below_drewN (below_drewN (hbel _ _) _) _)⟩
      simp_all
    all_goals ((repeat' split) <;> omega)
end Go.Proofs.YtpdenmcacaajkaaGreat

/-! ### AlC -/
namespace Go.Proofs.YtpdenmcacaajkaaGreat
open Go.RowKit

def c8 (f : Nat → Nat) : Array Value := #[.int .i64 (f 0 : Nat), .int .i64 (f 1 : Nat), .int .i64 (f 2 : Nat), .int .i64 (f 3 : Nat), .int .i64 (f 4 : Nat), .int .i64 (f 5 : Nat), .int .i64 (f 6 : Nat), .int .i64 (f 7 : Nat)]
def alc (V : Value) (n r : Nat → Nat) : Array Value := #[V, .int .i64 (n 0 : Nat), .int .i64 (n 1 : Nat), .int .i64 (n 2 : Nat), .int .i64 (n 3 : Nat), .int .i64 (n 4 : Nat), .int .i64 (n 5 : Nat), .int .i64 (n 6 : Nat), .int .i64 (n 7 : Nat), .int .i64 (r 0 : Nat), .int .i64 (r 1 : Nat), .int .i64 (r 2 : Nat), .int .i64 (r 3 : Nat), .int .i64 (r 4 : Nat), .int .i64 (r 5 : Nat), .int .i64 (r 6 : Nat), .int .i64 (r 7 : Nat)]
section
variable (V : Value) (f n r : Nat → Nat) {i : Nat} (hi : i < 8)
include hi
theorem c8_at : (c8 f)[i]? = some (.int .i64 (f i : Nat)) := under8 (p := fun i => (c8 f)[i]? = some (.int .i64 (f i : Nat))) hi rfl rfl rfl rfl rfl rfl rfl rfl
theorem c8_set (x : Nat) : (c8 f).setIfInBounds i (.int .i64 x) = c8 (upd f i x) := under8 (p := fun i => (c8 f).setIfInBounds i (.int .i64 x) = c8 (upd f i x)) hi rfl rfl rfl rfl rfl rfl rfl rfl
theorem alc_n : (alc V n r)[1 + i]? = some (.int .i64 (n i : Nat)) := under8 (p := fun i => (alc V n r)[1 + i]? = some (.int .i64 (n i : Nat))) hi rfl rfl rfl rfl rfl rfl rfl rfl
theorem alc_r : (alc V n r)[9 + i]? = some (.int .i64 (r i : Nat)) := under8 (p := fun i => (alc V n r)[9 + i]? = some (.int .i64 (r i : Nat))) hi rfl rfl rfl rfl rfl rfl rfl rfl
theorem set_n (x : Nat) : (alc V n r).setIfInBounds (1 + i) (.int .i64 x) = alc V (upd n i x) r := under8 (p := fun i => (alc V n r).setIfInBounds (1 + i) (.int .i64 x) = alc V (upd n i x) r) hi rfl rfl rfl rfl rfl rfl rfl rfl
theorem set_r (x : Nat) : (alc V n r).setIfInBounds (9 + i) (.int .i64 x) = alc V n (upd r i x) := under8 (p := fun i => (alc V n r).setIfInBounds (9 + i) (.int .i64 x) = alc V n (upd r i x)) hi rfl rfl rfl rfl rfl rfl rfl rfl
end
/-- An Alarms in memory: its rules lie in no block of F. -/
structure AAt (F : List Nat) (W : World) (g : Nat) (l : List R4) (n r : Nat → Nat) : Prop where
  ex : ∃ V, Blk W g (alc V n r) 68 ∧ SeesRs W W.heap.size V l ∧ ∀ f, f ∈ F → l ≠ [] → V.ownBlock ≠ some f
  len : l.length ≤ 8
  n16 : ∀ i, i < 8 → n i < 16
  r16 : ∀ i, i < 8 → r i < 16
section
variable {F : List Nat} {W W' : World} {g g' : Nat} {l : List R4} {n r : Nat → Nat}
theorem SeesRs.keepF {V : Value} (h : SeesRs W W.heap.size V l) (hF : ∀ f, f ∈ F → l ≠ [] → V.ownBlock ≠ some f) (k : Kp F W W') : SeesRs W' W'.heap.size V l := ⟨by
  obtain ⟨A, c, rfl, h1, h2, h3, h4⟩ := h.at_
  refine ⟨A, c, rfl, h1, h2, fun h0 => ?_, h4⟩
  obtain ⟨b, off, rfl, hb, hc⟩ := h3 h0
  have hn : b ∉ F := fun hm => hF b hm (List.length_pos_iff.1 h0) rfl
  exact ⟨b, off, rfl, Nat.lt_of_lt_of_le hb k.size, fun j hj => (hc j hj).keep fun o => by simp only [World.cell?, k.block b hb hn]⟩⟩
theorem AAt.lt (h : AAt F W g l n r) : g < W.heap.size := by
  obtain ⟨V, hB, -⟩ := h.ex
  exact hB.lt
theorem AAt.keep (h : AAt F W g l n r) (k : Kp F W W') (hb : W'.heap[g]? = W.heap[g]?) : AAt F W' g l n r := by
  obtain ⟨V, hB, hS, hF⟩ := h.ex
  exact ⟨⟨V, hb.trans hB, hS.keepF hF k, hF⟩, h.len, h.n16, h.r16⟩
theorem AAt.below (h : AAt F W g l n r) (k : Below W.heap.size W W') : AAt F W' g l n r := h.keep (kp_below k) (k.block g h.lt)
theorem AAt.only (h : AAt F W g l n r) (k : Only g' W W') (hne : g ≠ g') (hF : g' ∈ F) : AAt F W' g l n r := h.keep (k.kp hF) (k.block g h.lt (by intro e; cases e; exact hne rfl))
theorem AAt.more (h : AAt F W g l n r) (k : Below W.heap.size W W') {f : Nat} (hf : W.heap.size ≤ f) : AAt (f :: F) W' g l n r := by
  obtain ⟨V, hB, hS, hF⟩ := h.ex
  have h' := h.below k
  obtain ⟨V', hB', hS', hF'⟩ := h'.ex
  refine ⟨⟨V', hB', hS', fun x hx hl => ?_⟩, h.len, h.n16, h.r16⟩
  rcases List.mem_cons.1 hx with rfl | hx
  · have e : V' = V := by
      have e1 := (hB.below k hB.lt).symm.trans hB'
      simp only [Option.some.injEq, Obj.cells.injEq] at e1
      have := congrArg (fun a => a[0]?) e1.1
      simpa [alc] using this.symm
    subst e
    obtain ⟨A, c, rfl, -, -, h3, -⟩ := hS.at_
    obtain ⟨b, off, rfl, hb, -⟩ := h3 (List.length_pos_iff.2 hl)
    simp only [Value.ownBlock]
    intro e
    cases e
    all_goals (first | omega | exact H.elim)
  · exact hF' x hx hl
theorem AAt.frozen (h : AAt F W g l n r) (o : Nat) : W.frozen? ⟨g, o, none⟩ = false := by
  obtain ⟨V, hB, -⟩ := h.ex
  exact hB.frozen _
theorem AAt.cs (h : AAt F W g l n r) : ∃ A c, W.cell? ⟨g, 0, none⟩ = some (.slice A l.length c) ∧ SeesRs W W.heap.size (.slice A l.length c) l := by
  obtain ⟨V, hB, hS, -⟩ := h.ex
  obtain ⟨A, c, rfl, -⟩ := hS.at_
  exact ⟨A, c, hB.cell 0 rfl, hS⟩
theorem AAt.cn (h : AAt F W g l n r) {i : Nat} (hi : i < 8) : W.cell? ⟨g, 1 + i, none⟩ = some (.int .i64 (n i : Nat)) := by
  obtain ⟨V, hB, -⟩ := h.ex
  exact hB.cell _ (alc_n _ _ _ hi)
theorem AAt.cr (h : AAt F W g l n r) {i : Nat} (hi : i < 8) : W.cell? ⟨g, 9 + i, none⟩ = some (.int .i64 (r i : Nat)) := by
  obtain ⟨V, hB, -⟩ := h.ex
  exact hB.cell _ (alc_r _ _ _ hi)
theorem AAt.setr (h : AAt F W g l n r) (hg : g ∈ F) {i x : Nat} (hi : i < 8) (hx : x < 16) : AAt F (W.setCell ⟨g, 9 + i, none⟩ (.int .i64 x)) g l n (upd r i x) := by
  obtain ⟨V, hB, hS, hF⟩ := h.ex
  have hkp : Kp F W (W.setCell ⟨g, 9 + i, none⟩ (.int .i64 x)) := ((Only.refl g W).set _ _).kp hg
  refine ⟨⟨V, (hB.set _ _).eq (set_r _ _ _ hi _), hS.keepF hF hkp, hF⟩, h.len, h.n16, fun j hj => ?_⟩
  simp only [upd]
  split
  · exact hx
  · exact h.r16 j hj
theorem AAt.setn (h : AAt F W g l n r) (hg : g ∈ F) {i x : Nat} (hi : i < 8) (hx : x < 16) : AAt F (W.setCell ⟨g, 1 + i, none⟩ (.int .i64 x)) g l (upd n i x) r := by
  obtain ⟨V, hB, hS, hF⟩ := h.ex
  have hkp : Kp F W (W.setCell ⟨g, 1 + i, none⟩ (.int .i64 x)) := ((Only.refl g W).set _ _).kp hg
  refine ⟨⟨V, (hB.set _ _).eq (set_n _ _ _ hi _), hS.keepF hF hkp, hF⟩, h.len, fun j hj => ?_, h.r16⟩
  simp only [upd]
  split
  · exact hx
  · exact h.n16 j hj
theorem AAt.drew (h : AAt F W g l n r) : AAt F W.drew g l n r := h.below (Below.refl _ W).drew
theorem AAt.alike {n' r' : Nat → Nat} (h : AAt F W g l n r) (hn : ∀ i, i < 8 → n i = n' i) (hr : ∀ i, i < 8 → r i = r' i) : AAt F W g l n' r' := by
  obtain ⟨V, hB, hS, hF⟩ := h.ex
  refine ⟨⟨V, hB.eq ?_, hS, hF⟩, h.len, fun i hi => hn i hi ▸ h.n16 i hi, fun i hi => hr i hi ▸ h.r16 i hi⟩
  unfold alc
  rw [hn 0 (by omega), hn 1 (by omega), hn 2 (by omega), hn 3 (by omega), hn 4 (by omega), hn 5 (by omega), hn 6 (by omega), hn 7 (by omega), hr 0 (by omega), hr 1 (by omega), hr 2 (by omega), hr 3 (by omega), hr 4 (by omega), hr 5 (by omega), hr 6 (by omega), hr 7 (by omega)]
end
/-- Is there such a rule? -/
def isR (l : List R4) (i : Int) : Prop := 0 ≤ i ∧ i < l.length
instance (l : List R4) (i : Int) : Decidable (isR l i) := inferInstanceAs (Decidable (_ ∧ _))
set_option maxRecDepth 100000 in
set_option maxHeartbeats 2000000 in
theorem mayBe_al (r : R4) (w : World) :
    Calls Tryz.prog 53 #[r.v] w fun e w' => e = .returned (.bool (decide r.may)) ∧ Below w.heap.size w w' := by
  obtain ⟨n, lo, hi, st⟩ := r
  have hbel : ∀ M1, Below w.heap.size w (w.alloc M1) := fun M1 => (Below.refl w.heap.size w).alloc (Nat.le_refl _) M1
  unfold R4.v
  go_enter Tryz.func53, Tryz.ntmps53
  go_wp2
  all_goals
    go_ret
    refine ⟨congrArg (fun b => Ending.returned (Value.bool b)) (Bool.eq_iff_iff.2 ?_), hbel _⟩
    rw [decide_eq_true_iff]
    simp only [decide_eq_true_eq, Bool.false_eq_true]
    unfold R4.may
    dsimp only
    constructor <;> intro H
    all_goals (first | omega | exact H.elim)
end Go.Proofs.YtpdenmcacaajkaaGreat

/-! ### AlD -/
namespace Go.Proofs.YtpdenmcacaajkaaGreat
open Go.RowKit

/-- What rings that is not so now. -/
def andn (m n : Nat) : Nat := m &&& (15 ^^^ n)
def ackM (l : List R4) (n r : Nat → Nat) (i : Int) : Int := if isR l i then (if andn (r i.toNat) (n i.toNat) = 0 then 4 else 0) else 1
def ackR (l : List R4) (n r : Nat → Nat) (i : Int) : Nat → Nat := if isR l i then (if andn (r i.toNat) (n i.toNat) = 0 then r else upd r i.toNat (n i.toNat)) else r
set_option maxRecDepth 100000 in
set_option maxHeartbeats 2000000 in
theorem new_al (l : List R4) (v : Value) (B : Nat) (w : World) (hv : SeesRs w B v l) (hB : B ≤ w.heap.size) (h8 : l.length ≤ 8) (hm : ∀ i, i < l.length → (l.getD i default).may) :
    Calls Tryz.prog 16 #[v] w fun e w' => ∃ g, e = .returned (.tuple #[.pointer (some ⟨g, 0, none⟩), .int .i64 0]) ∧ w.heap.size ≤ g ∧ (∀ F, (∀ f, f ∈ F → f < w.heap.size ∨ f = g) → AAt F w' g l (fun _ => 0) (fun _ => 0)) ∧ Below w.heap.size w w' := by
  obtain ⟨A, c, rfl, v1, v2, v3, v4⟩ := hv.at_
  unfold maxLen at v2
  have d0 : decide ((8 : Int) < ((l.length : Nat) : Int)) = false := decide_eq_false (by omega)
  have hS := Lib.hid hv
  have HC := fun W (hb : Below w.heap.size w W) => Lib.hid (clone_rl l _ W B (hS.out.below (hb.mono hB)) (by omega))
  have HX : Hid (0 < l.length → ∃ b off, A = some ⟨b, off, none⟩ ∧ ∀ W, Below w.heap.size w W → ∀ k, k < l.length → AtRl W b (off + k * 4) (l.getD k default)) := Lib.hid fun h0 => by
    obtain ⟨b, off, hA, hb, hc⟩ := v3 h0
    exact ⟨b, off, hA, fun W hW k hk => (hc k hk).keep fun o => hW.cell (p := ⟨b, o, none⟩) (by show b < _; omega)⟩
  clear v3 v4 hv
  go_enter Tryz.func16, Tryz.ntmps16
  go_wp2_with fail
  go_loopw [11] (fun i wr => ∃ k : Nat, k ≤ l.length ∧ i = .int .i64 k ∧ Below w.heap.size w wr) (fun i _ => l.length - (intOf i).toNat)
  case atStart => exact ⟨0, by omega, rfl, Below.refl _ _⟩
  case round =>
    obtain ⟨k, hk, rfl, b⟩ := hrel
    by_cases hlt : k < l.length
    · have r1 : decide ((k : Int) < ((l.length : Nat) : Int)) = true := decide_eq_true (by omega)
      obtain ⟨bl, off, rfl, HG⟩ := HX.out (by omega)
      obtain ⟨x0, x1, x2, x3⟩ := HG _ b k hlt
      have hmk := hm k hlt
      clear HG HX HC
      generalize l.getD k default = q at *
      have HM := fun W => Lib.hid (mayBe_al q W)
      rw [decide_eq_true hmk] at HM
      obtain ⟨qn, ql, qh, qs⟩ := q
      unfold R4.v at HM
      clear hmk hm
      go_wp2_with fail
      refine (HM _).out.mono ?_
      rintro _ w2 ⟨rfl, b2⟩
      have b2 := (b.alloc b.size _).trans (b2.mono (by have := b.size; simp; omega))
      go_wp2
      go_roundw
      case rel => exact ⟨k + 1, by omega, by go_num, b2⟩
      case measure => simp [intOf]; omega
    · obtain rfl : k = l.length := by omega
      go_wp2_with fail
      refine (HC _ b).out.mono ?_
      rintro _ w2 ⟨v2, rfl, ho, b2⟩
      have b3 := b.trans (b2.mono b.size)
      have hlt := World.ownsRow.lt ho
      have hs := ho.sees
      obtain ⟨A2, c2, rfl, -⟩ := hs.at_
      have hb := Lib.hid (b3.alloc b3.size (.cells (alc (.slice A2 l.length c2) (fun _ => 0) (fun _ => 0)) 68))
      clear ho
      go_wp2
      go_ret2
      refine ⟨_, rfl, b3.size, fun F hF => ⟨⟨.slice A2 l.length c2, Blk.new _ _ rfl _ _, (hs.alloc _).more (by simp), fun f hf _ e => ?_⟩, h8, fun _ _ => by omega, fun _ _ => by omega⟩, hb.out⟩
      have h1 := hlt f e
      have h2 := b.size
      rcases hF f hf with h | h <;> omega
set_option maxRecDepth 100000 in
set_option maxHeartbeats 2000000 in
theorem new_no (l : List R4) (v : Value) (B : Nat) (w : World) (hv : SeesRs w B v l) (hB : B ≤ w.heap.size) (h8 : l.length ≤ 8) (hm : ¬ ∀ i, i < l.length → (l.getD i default).may) :
    Calls Tryz.prog 16 #[v] w fun e w' => e = .returned (.tuple #[.pointer none, .int .i64 1]) ∧ Below w.heap.size w w' := by
  obtain ⟨A, c, rfl, v1, v2, v3, v4⟩ := hv.at_
  unfold maxLen at v2
  have d0 : decide ((8 : Int) < ((l.length : Nat) : Int)) = false := decide_eq_false (by omega)
  have HX : Hid (0 < l.length → ∃ b off, A = some ⟨b, off, none⟩ ∧ ∀ W, Below w.heap.size w W → ∀ k, k < l.length → AtRl W b (off + k * 4) (l.getD k default)) := Lib.hid fun h0 => by
    obtain ⟨b, off, hA, hb, hc⟩ := v3 h0
    exact ⟨b, off, hA, fun W hW k hk => (hc k hk).keep fun o => hW.cell (p := ⟨b, o, none⟩) (by show b < _; omega)⟩
  have HM := Lib.hid hm
  clear v3 v4 hv hm
  go_enter Tryz.func16, Tryz.ntmps16
  go_wp2_with fail
  go_loopw [11] (fun i wr => ∃ k : Nat, k ≤ l.length ∧ i = .int .i64 k ∧ (∀ j, j < k → (l.getD j default).may) ∧ Below w.heap.size w wr) (fun i _ => l.length - (intOf i).toNat)
  case atStart => exact ⟨0, by omega, rfl, fun j hj => by omega, Below.refl _ _⟩
  case round =>
    obtain ⟨k, hk, rfl, hM, b⟩ := hrel
    by_cases hlt : k < l.length
    · have r1 : decide ((k : Int) < ((l.length : Nat) : Int)) = true := decide_eq_true (by omega)
      obtain ⟨bl, off, rfl, HG⟩ := HX.out (by omega)
      obtain ⟨x0, x1, x2, x3⟩ := HG _ b k hlt
      have hK : Hid ((l.getD k default).may → ∀ j, j < k + 1 → (l.getD j default).may) := Lib.hid fun h j hj => by
        by_cases e : j = k
        · subst e; exact h
        · exact hM j (by omega)
      clear HG HX hM HM
      generalize l.getD k default = q at *
      have HM := fun W => Lib.hid (mayBe_al q W)
      obtain ⟨qn, ql, qh, qs⟩ := q
      unfold R4.v at HM
      by_cases hmk : (⟨qn, ql, qh, qs⟩ : R4).may
      · rw [decide_eq_true hmk] at HM
        have hK := Lib.hid (hK.out hmk)
        clear hmk
        go_wp2_with fail
        refine (HM _).out.mono ?_
        rintro _ w2 ⟨rfl, b2⟩
        have b2 := (b.alloc b.size _).trans (b2.mono (by have := b.size; simp; omega))
        go_wp2
        go_roundw
        case rel => exact ⟨k + 1, by omega, by go_num, hK.out, b2⟩
        case measure => simp [intOf]; omega
      · rw [decide_eq_false hmk] at HM
        clear hmk hK
        go_wp2_with fail
        refine (HM _).out.mono ?_
        rintro _ w2 ⟨rfl, b2⟩
        have b2 := (b.alloc b.size _).trans (b2.mono (by have := b.size; simp; omega))
        go_wp2
        go_ret2
        exact ⟨rfl, b2⟩
    · obtain rfl : k = l.length := by omega
      exact absurd hM HM.out
set_option maxRecDepth 100000 in
set_option maxHeartbeats 2000000 in
/-- What Look defers, of a frame that returns: nothing. -/
theorem rec_al (w : World) :
    CallsD Tryz.prog 170 #[] .returning w fun e u' w' => e = .returned (.tuple #[]) ∧ u' = .returning ∧ w' = w := by
  refine callsD_of_wpS Tryz.func170 rfl fun c₀ cs hu => ?_
  apply wpS_region
  simp [wpOpsS, go_sem, recoverD, hu, Tryz.ntmps170]
  cases c₀
  simp_all [bodyPostS, results, Tryz.results170]
end Go.Proofs.YtpdenmcacaajkaaGreat

/-! ### AlE -/
namespace Go.Proofs.YtpdenmcacaajkaaGreat
open Go.RowKit

/-- Code that ends as it is to end, and by no panic. -/
def onlyN (K : Act → World → Prop) : Exit → Act → World → Prop
  | .normal, a, w => K a w
  | _, _, _ => False
theorem wp_onlyN {P : Program} {c : Code} {Q : Exit → Act → World → Prop} {a : Act} {w : World} (h : c.wp P (onlyN (Q .normal)) a w) : c.wp P Q a w := wp_mono h fun e a w h => by
  cases e <;> first | exact h | exact h.elim
/-- What is so now. -/
def nowM (l : List R4) (s : MS) (i : Nat) : Nat := if i < l.length then whyM (l.getD i default) (s.gd (l.getD i default).n) (s.ga (l.getD i default).n) (s.gg (l.getD i default).n) else 0
theorem nowM_lt (l : List R4) (s : MS) (i : Nat) : nowM l s i < 16 := by
  unfold nowM
  split
  · exact whyM_lt _ _ _ _
  · omega
theorem AAt.set8 {F : List Nat} {W : World} {g : Nat} {l : List R4} {n r : Nat → Nat} (h : AAt F W g l n r) (hg : g ∈ F) (N : Nat → Nat) (hN : ∀ i, N i < 16) : AAt F ((((((((W.setCell ⟨g, 1, none⟩ (.int .i64 (N 0 : Nat))).setCell ⟨g, 2, none⟩ (.int .i64 (N 1 : Nat))).setCell ⟨g, 3, none⟩ (.int .i64 (N 2 : Nat))).setCell ⟨g, 4, none⟩ (.int .i64 (N 3 : Nat))).setCell ⟨g, 5, none⟩ (.int .i64 (N 4 : Nat))).setCell ⟨g, 6, none⟩ (.int .i64 (N 5 : Nat))).setCell ⟨g, 7, none⟩ (.int .i64 (N 6 : Nat))).setCell ⟨g, 8, none⟩ (.int .i64 (N 7 : Nat))) g l N r ∧ Only g W ((((((((W.setCell ⟨g, 1, none⟩ (.int .i64 (N 0 : Nat))).setCell ⟨g, 2, none⟩ (.int .i64 (N 1 : Nat))).setCell ⟨g, 3, none⟩ (.int .i64 (N 2 : Nat))).setCell ⟨g, 4, none⟩ (.int .i64 (N 3 : Nat))).setCell ⟨g, 5, none⟩ (.int .i64 (N 4 : Nat))).setCell ⟨g, 6, none⟩ (.int .i64 (N 5 : Nat))).setCell ⟨g, 7, none⟩ (.int .i64 (N 6 : Nat))).setCell ⟨g, 8, none⟩ (.int .i64 (N 7 : Nat))) :=
  ⟨(((((((((h).setn hg (i := 0) (by omega) (hN 0)).setn hg (i := 1) (by omega) (hN 1)).setn hg (i := 2) (by omega) (hN 2)).setn hg (i := 3) (by omega) (hN 3)).setn hg (i := 4) (by omega) (hN 4)).setn hg (i := 5) (by omega) (hN 5)).setn hg (i := 6) (by omega) (hN 6)).setn hg (i := 7) (by omega) (hN 7)).alike (fun i hi => under8 (p := fun i => _ = N i) hi rfl rfl rfl rfl rfl rfl rfl rfl) (fun _ _ => rfl), ((((((((Only.refl g W).set _ _).set _ _).set _ _).set _ _).set _ _).set _ _).set _ _).set _ _⟩
set_option maxRecDepth 100000 in
theorem index8 (f : Nat → Nat) {k : Nat} (hk : k < 8) (w : World) : (Instr.index 66 (.agg #[.int .i64 (f 0 : Nat), .int .i64 (f 1 : Nat), .int .i64 (f 2 : Nat), .int .i64 (f 3 : Nat), .int .i64 (f 4 : Nat), .int .i64 (f 5 : Nat), .int .i64 (f 6 : Nat), .int .i64 (f 7 : Nat)]) (.int .i64 k)).run Tryz.prog w = .ok (.int .i64 (f k : Nat)) w :=
  under8 (p := fun k => (Instr.index 66 (.agg #[.int .i64 (f 0 : Nat), .int .i64 (f 1 : Nat), .int .i64 (f 2 : Nat), .int .i64 (f 3 : Nat), .int .i64 (f 4 : Nat), .int .i64 (f 5 : Nat), .int .i64 (f 6 : Nat), .int .i64 (f 7 : Nat)]) (.int .i64 (k : Nat))).run Tryz.prog w = .ok (.int .i64 (f k : Nat)) w) hk rfl rfl rfl rfl rfl rfl rfl rfl
end Go.Proofs.YtpdenmcacaajkaaGreat

/-! ### NdM -/
namespace Go.Proofs.YtpdenmcacaajkaaGreat
open Go.RowKit

/-- What is heard. -/
structure Hn where
  a : Int
  b : Int
  x : List Int
  y : List Int
  o : Int
structure NM where
  t : Tb.T
  i : Nat
  dr : Int
  al : List R4
  st : Nat
  rd : Int
  sl : Nat
  ty : TS
  tm : Int
  ck : List Int
  so : MS
  an : Nat → Nat
  ar : Nat → Nat
  da : List Int
  wt : Nat
  se : Bool
namespace NM
def new (t : Tb.T) (i : Nat) (dr : Int) (l : List R4) : NM := ⟨t, i, dr, l, 0, 0, 0, ⟨0, 0, 0⟩, 0, [], MS.new, fun _ => 0, fun _ => 0, [], 0, false⟩
/-- May it be? -/
def may (t : Tb.T) (i : Int) (dr : Int) (l : List R4) : Prop := t.is = true ∧ (0 ≤ i ∧ i < t.ns.length) ∧ (-t.dr ≤ dr ∧ dr ≤ t.dr) ∧ l.length ≤ 8 ∧ ∀ k, k < l.length → (l.getD k default).may
def anew (s : NM) (k : Nat) : NM := { s with st := k, rd := 0, sl := 0, ty := ⟨0, 0, 0⟩, ck := [], so := MS.new, wt := 0, se := false }
def me (s : NM) : Tb.D := s.t.ns.getD s.i default
def at_ (s : NM) (k : Nat) : Tb.D := s.t.ns.getD k default
def view (s : NM) : Fr.St := ⟨s.rd, s.sl, s.ty.m⟩
def onE (s : NM) (a : Int) : Int := if a < -1000 ∨ 1000 < a then 1 else if s.st ≠ 0 ∧ s.st ≠ 5 then 4 else 0
def on (s : NM) (a : Int) : NM := if s.onE a = 0 then { s.anew 1 with tm := a } else s
def off (s : NM) : NM := s.anew 0
def writeE (s : NM) (l : List Int) : Int := if s.me.sz < l.length then 1 else 0
def write (s : NM) (l : List Int) : NM := if s.me.sz < l.length then s else { s with da := l }
def frm (s : NM) (k : Int) : Fr.F := ⟨k, s.view, s.da⟩
def alone (s : NM) : Prop := s.ty.a = 0
def clique (s : NM) : Prop := s.ty.f ≤ s.ty.a
instance (s : NM) : Decidable s.alone := inferInstanceAs (Decidable (_ = _))
instance (s : NM) : Decidable s.clique := inferInstanceAs (Decidable (_ ≤ _))
/-- In its own slot. -/
def enter (s : NM) : NM :=
  if s.st = 2 then (if s.alone then s.anew 1 else { s with st := 4 })
  else if s.st = 3 then (if ¬ s.alone ∧ s.clique then { s with st := 4 } else { s with ty := s.ty.clear })
  else if ¬ s.clique then { s with st := 5 } else if s.alone then s.anew 1 else s
def begun (s : NM) : NM := { s.anew 2 with sl := s.i, ty := (⟨0, 0, 0⟩ : TS).join s.i }
def joined (s : NM) : NM := { s with ty := (s.ty.join s.i).clear }
/-- What is sent, 0: nothing: a kind; and what it is then. -/
def sendK (s : NM) : Int :=
  if s.st = 1 then (if (s.wt : Int) + 1 < s.me.li then 0 else 3)
  else if s.st = 0 ∨ s.st = 5 ∨ s.sl ≠ s.i then 0
  else if s.enter.st ≠ 4 then 0
  else if s.me.inf = true ∨ s.st ≠ 4 ∨ s.rd % 2 = 0 then 2 else 1
def sendS (s : NM) : NM :=
  if s.st = 1 then (if (s.wt : Int) + 1 < s.me.li then { s with wt := s.wt + 1, se := false } else { s.begun with se := true })
  else if s.st = 0 ∨ s.st = 5 ∨ s.sl ≠ s.i then { s with se := false }
  else if s.enter.st ≠ 4 then { s.enter with se := false }
  else { s.enter.joined with se := true }
def sent (s : NM) : List Int := if s.sendK = 0 then [] else (s.sendS.frm s.sendK).bytes
/-- The rows that tell bytes. -/
def rows (h : Hn) : List (List Int) := (if h.a = 2 then [h.x] else []) ++ (if h.b = 2 then [h.y] else [])
def z3 : Fr.St := ⟨0, 0, 0⟩
/-- Does it tell a state? -/
def tells (s : NM) (l : List Int) : Prop := Fr.err l z3 = 0 ∧ (Fr.res l z3).k ≠ 1 ∧ (Fr.res l z3).st.s < s.t.ns.length ∧ (Fr.res l z3).st.s ≠ s.i
instance (s : NM) (l : List Int) : Decidable (s.tells l) := inferInstanceAs (Decidable (_ ∧ _))
def own (s : NM) : Fr.St := ⟨s.rd, s.sl, (Go.Proofs.YtpdenmcacaajkaaGreat.ins s.ty.m s.sl : Nat)⟩
/-- Is it right? -/
def isRight (s : NM) (l : List Int) : Prop := Fr.err l s.own = 0 ∧ (Fr.res l s.own).k ≠ 3 ∧ (Fr.res l s.own).st = s.own
instance (a b : Fr.St) : Decidable (a = b) := decidable_of_iff (a.r = b.r ∧ a.s = b.s ∧ a.m = b.m) (by cases a; cases b; simp)
instance (s : NM) (l : List Int) : Decidable (s.isRight l) := inferInstanceAs (Decidable (_ ∧ _))
def firstL (s : NM) (h : Hn) : Option (List Int) := (rows h).find? fun l => decide (s.tells l)
def rightL (s : NM) (h : Hn) : Option (List Int) := (rows h).find? fun l => decide (s.isRight l)
/-- The slot goes on. -/
def goOn (s : NM) : NM :=
  let sl := nxS s.t.ns.length s.sl
  let s1 := { s with rd := nxR s.t.ns.length s.rd s.sl, sl := sl.toNat, se := false }
  if sl ≠ 0 then s1 else
  let s2 := if wiB s.t.lm (Clk.avg s.ck) then { s1 with tm := s.tm + termV s.t.lm s.ck + s.dr } else { s1 with st := 5 }
  { s2 with ck := [], so := s.so.age, an := nowM s.al s.so.age, ar := fun i => s.ar i ||| nowM s.al s.so.age i }
/-- All members are Good. -/
def goods (so : MS) (m : Nat) : MS := { so with g := fun i => if i < 8 then isB m i else so.g i }
/-- It knows a state. -/
def knows (s : NM) (f : Fr.F) (o : Int) : NM :=
  let ty := (⟨(f.st.m % 256).toNat, 0, 0⟩ : TS).right f.st.s
  { s.anew 3 with rd := f.st.r, sl := f.st.s.toNat, ty := ty, tm := s.tm + o, so := goods (MS.new.put f.st.s f.d) ty.m }
def meas (s : NM) (k : Nat) (o : Int) : List Int := if (s.at_ k).sy = true then keep4 s.ck o else s.ck
def took (s : NM) (ty : TS) (so : MS) (ck : List Int) : NM := { s with ty := ty, so := so.member s.sl (isB ty.m s.sl), ck := ck }
def take (s : NM) (h : Hn) : NM :=
  if s.st = 0 ∨ s.st = 5 then s
  else if s.st = 1 then
    match s.firstL h with
    | some l => (s.knows (Fr.res l z3) h.o).goOn
    | none => if h.a ≠ 0 ∨ h.b ≠ 0 then { s with wt := 0 } else s
  else if s.sl = s.i then ({ s with ck := if s.se = true then s.meas s.i 0 else s.ck }).goOn
  else
    match s.rightL h with
    | some l => (s.took (s.ty.right s.sl) (s.so.put s.sl (Fr.res l s.own).d) (s.meas s.sl h.o)).goOn
    | none => if h.a = 0 ∧ h.b = 0 then (s.took (s.ty.miss s.sl) s.so s.ck).goOn else (s.took (s.ty.wrong s.sl) s.so s.ck).goOn
end NM
end Go.Proofs.YtpdenmcacaajkaaGreat

/-! ### Pb -/
namespace Go.Proofs.YtpdenmcacaajkaaGreat
open Go.RowKit

/-- What lies ahead of a part of a block, and behind it; the part begins at o. -/
structure Cx (o : Nat) where
  a : Array Value
  b : Array Value
  t : TypeId
  sz : a.size = o
/-- A part of a block. -/
def PB {o : Nat} (c : Cx o) (W : World) (g : Nat) (cs : Array Value) : Prop := Blk W g (c.a ++ cs ++ c.b) c.t
section
variable {o : Nat} {c : Cx o} {W W' : World} {g : Nat} {cs : Array Value}
theorem PB.lt (h : PB c W g cs) : g < W.heap.size := Blk.lt h
theorem PB.cell (h : PB c W g cs) (i : Nat) {x : Value} (hx : cs[i]? = some x) : W.cell? ⟨g, o + i, none⟩ = some x := by
  refine Blk.cell h (o + i) ?_
  have hs := c.sz
  have hi : i < cs.size := (Array.getElem?_eq_some_iff.1 hx).1
  rw [Array.getElem?_append_left (by simp; omega), Array.getElem?_append_right (by omega), ← hx]
  congr 1
  omega
theorem PB.frozen (h : PB c W g cs) (i : Nat) : W.frozen? ⟨g, i, none⟩ = false := Blk.frozen h i
theorem PB.below (h : PB c W g cs) {B : Nat} (hb : Below B W W') (hB : g < B) : PB c W' g cs := Blk.below h hb hB
theorem PB.alloc (h : PB c W g cs) (o : Obj) : PB c (W.alloc o) g cs := Blk.alloc h o
theorem PB.drew (h : PB c W g cs) : PB c W.drew g cs := h
theorem PB.drewN (h : PB c W g cs) (n : Nat) : PB c (W.drewN n) g cs := Blk.drewN h n
theorem PB.set (h : PB c W g cs) (i : Nat) (hi : i < cs.size) (x : Value) : PB c (W.setCell ⟨g, o + i, none⟩ x) g (cs.setIfInBounds i x) := by
  refine (Blk.set h (o + i) x).eq ?_
  have hs := c.sz
  apply Array.ext
  · simp
  · intro j h1 h2
    by_cases e : o + i = j
    · subst e
      simp only [Array.getElem_setIfInBounds_self, Array.getElem_append, Array.size_append, Array.size_setIfInBounds]
      rw [dif_pos (by omega), dif_neg (by omega)]
      simp only [hs, Nat.add_sub_cancel_left, Array.getElem_setIfInBounds_self]
    · rw [Array.getElem_setIfInBounds_ne (by simpa using h1) e]
      simp only [Array.getElem_append, Array.size_append, Array.size_setIfInBounds]
      split
      · split
        · rfl
        · rename_i h3 h4
          rw [Array.getElem_setIfInBounds_ne (by omega) (by omega)]
      · rfl
theorem PB.eq {cs' : Array Value} (h : PB c W g cs) (e : cs = cs') : PB c W g cs' := e ▸ h
theorem PB.other (h : PB c W g cs) (p : Addr) (hp : g ≠ p.block) (x : Value) : PB c (W.setCell p x) g cs := Blk.other h p hp x
theorem PB.only {g' : Nat} (h : PB c W g cs) (k : Only g' W W') (hne : g ≠ g') : PB c W' g cs := Blk.only h k hne
end
theorem PBa {W : World} {g o o' : Nat} {x : Option Value} (h : W.cell? ⟨g, o, none⟩ = x) (e : o = o') : W.cell? ⟨g, o', none⟩ = x := e ▸ h
theorem PBs {o : Nat} {c : Cx o} {W : World} {g p p' : Nat} {x : Value} {cs cs' : Array Value} (h : PB c (W.setCell ⟨g, p, none⟩ x) g cs) (e : p = p') (e' : cs = cs') : PB c (W.setCell ⟨g, p', none⟩ x) g cs' := e ▸ e' ▸ h
end Go.Proofs.YtpdenmcacaajkaaGreat
