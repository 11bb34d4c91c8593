/- Texts StM, AlM in one. For what each says in front of its theorems. -/
import Derived.Test.YtpdenmcacaajkaaGreatPB4
import Derived.Test.YtpdenmcacaajkaaGreatPB5
import Derived.Test.YtpdenmcacaajkaaGreatPB7
/-! ### StM -/
namespace Go.Proofs.YtpdenmcacaajkaaGreat
open Go.RowKit

set_option maxRecDepth 100000 in
/-- A message's fields. -/
theorem field_d (A : Option Addr) (n c : Nat) (a : Int) (g : Bool) (w : World) : (Instr.field 72 (.agg #[.slice A n c, .int .i64 a, .bool g]) 0).run Tryz.prog w = .ok (.slice A n c) w := rfl
set_option maxRecDepth 100000 in
theorem field_a (A : Option Addr) (n c : Nat) (a : Int) (g : Bool) (w : World) : (Instr.field 72 (.agg #[.slice A n c, .int .i64 a, .bool g]) 1).run Tryz.prog w = .ok (.int .i64 a) w := rfl
set_option maxRecDepth 100000 in
theorem field_g (A : Option Addr) (n c : Nat) (a : Int) (g : Bool) (w : World) : (Instr.field 72 (.agg #[.slice A n c, .int .i64 a, .bool g]) 2).run Tryz.prog w = .ok (.bool g) w := rfl

/-- What a store holds: bytes, ages, whether good. -/
structure MS where
  d : Nat → List Int
  a : Nat → Int
  g : Nat → Bool
def upd {α : Type} (f : Nat → α) (i : Nat) (x : α) : Nat → α := fun k => if k = i then x else f k
def MS.new : MS := ⟨fun _ => [], fun _ => -1, fun _ => false⟩
def isN (n : Int) : Prop := 0 ≤ n ∧ n < 8
instance (n : Int) : Decidable (isN n) := inferInstanceAs (Decidable (_ ∧ _))
def MS.put (s : MS) (n : Int) (l : List Int) : MS := if isN n ∧ l.length ≤ 8 then ⟨upd s.d n.toNat l, upd s.a n.toNat 0, s.g⟩ else s
def MS.member (s : MS) (n : Int) (b : Bool) : MS := if isN n then { s with g := upd s.g n.toNat b } else s
def older (a : Int) : Int := if 0 ≤ a then min (a + 1) 65535 else a
def MS.age (s : MS) : MS := { s with a := fun i => older (s.a i) }
def MS.gd (s : MS) (n : Int) : List Int := if isN n then s.d n.toNat else []
def MS.ga (s : MS) (n : Int) : Int := if isN n then s.a n.toNat else -1
def MS.gg (s : MS) (n : Int) : Bool := if isN n then s.g n.toNat else false
/-- What may be. -/
structure MS.ok (s : MS) : Prop where
  len : ∀ i, i < 8 → (s.d i).length ≤ 8
  byt : ∀ i, i < 8 → bytesL (s.d i)
  lo : ∀ i, i < 8 → -1 ≤ s.a i
  hi : ∀ i, i < 8 → s.a i ≤ 65535
theorem MS.new_ok : MS.new.ok := ⟨fun _ _ => by simp [MS.new], fun _ _ x hx => by simp [MS.new] at hx, fun _ _ => by simp [MS.new], fun _ _ => by simp [MS.new]⟩
theorem MS.ok.put {s : MS} (h : s.ok) (n : Int) (l : List Int) (hl : bytesL l) : (s.put n l).ok := by
  unfold MS.put
  split
  · rename_i hc
    refine ⟨fun i hi => ?_, fun i hi => ?_, fun i hi => ?_, fun i hi => ?_⟩ <;> simp only [upd] <;> split
    · exact hc.2
    · exact h.len i hi
    · exact hl
    · exact h.byt i hi
    · omega
    · exact h.lo i hi
    · omega
    · exact h.hi i hi
  · exact h
theorem MS.ok.member {s : MS} (h : s.ok) (n : Int) (b : Bool) : (s.member n b).ok := by
  unfold MS.member
  split
  · exact ⟨h.len, h.byt, h.lo, h.hi⟩
  · exact h
theorem older_ok {a : Int} (h : -1 ≤ a) (h' : a ≤ 65535) : -1 ≤ older a ∧ older a ≤ 65535 := by
  unfold older
  split <;> omega
theorem MS.ok.age {s : MS} (h : s.ok) : s.age.ok := ⟨h.len, h.byt, fun i hi => (older_ok (h.lo i hi) (h.hi i hi)).1, fun i hi => (older_ok (h.lo i hi) (h.hi i hi)).2⟩
theorem MS.ok.gd {s : MS} (h : s.ok) (n : Int) : (s.gd n).length ≤ 8 ∧ bytesL (s.gd n) := by
  unfold MS.gd
  split
  · rename_i hn
    unfold isN at hn
    exact ⟨h.len _ (by omega), h.byt _ (by omega)⟩
  · exact ⟨by simp, fun x hx => by simp at hx⟩
theorem MS.ok.ga {s : MS} (h : s.ok) (n : Int) : -1 ≤ s.ga n ∧ s.ga n ≤ 65535 := by
  unfold MS.ga
  split
  · rename_i hn
    unfold isN at hn
    exact ⟨h.lo _ (by omega), h.hi _ (by omega)⟩
  · omega

/-- The block's cells. -/
def stc (V : Nat → Value) (a : Nat → Int) (g : Nat → Bool) : Array Value := #[V 0, .int .i64 (a 0), .bool (g 0), V 1, .int .i64 (a 1), .bool (g 1), V 2, .int .i64 (a 2), .bool (g 2), V 3, .int .i64 (a 3), .bool (g 3), V 4, .int .i64 (a 4), .bool (g 4), V 5, .int .i64 (a 5), .bool (g 5), V 6, .int .i64 (a 6), .bool (g 6), V 7, .int .i64 (a 7), .bool (g 7)]
theorem under8 {p : Nat → Prop} {i : Nat} (hi : i < 8) (h0 : p 0) (h1 : p 1) (h2 : p 2) (h3 : p 3) (h4 : p 4) (h5 : p 5) (h6 : p 6) (h7 : p 7) : p i := by
  rcases (by omega : i = 0 ∨ i = 1 ∨ i = 2 ∨ i = 3 ∨ i = 4 ∨ i = 5 ∨ i = 6 ∨ i = 7) with rfl | rfl | rfl | rfl | rfl | rfl | rfl | rfl <;> assumption
section
variable (V : Nat → Value) (a : Nat → Int) (g : Nat → Bool) {i : Nat} (hi : i < 8)
include hi
theorem stc_d : (stc V a g)[i * 3]? = some (V i) := under8 (p := fun i => (stc V a g)[i * 3]? = some (V i)) hi rfl rfl rfl rfl rfl rfl rfl rfl
theorem stc_a : (stc V a g)[i * 3 + 1]? = some (.int .i64 (a i)) := under8 (p := fun i => (stc V a g)[i * 3 + 1]? = some (.int .i64 (a i))) hi rfl rfl rfl rfl rfl rfl rfl rfl
theorem stc_g : (stc V a g)[i * 3 + 2]? = some (.bool (g i)) := under8 (p := fun i => (stc V a g)[i * 3 + 2]? = some (.bool (g i))) hi rfl rfl rfl rfl rfl rfl rfl rfl
theorem set_d (x : Value) : (stc V a g).setIfInBounds (i * 3) x = stc (upd V i x) a g := under8 (p := fun i => (stc V a g).setIfInBounds (i * 3) x = stc (upd V i x) a g) hi rfl rfl rfl rfl rfl rfl rfl rfl
theorem set_a (x : Int) : (stc V a g).setIfInBounds (i * 3 + 1) (.int .i64 x) = stc V (upd a i x) g := under8 (p := fun i => (stc V a g).setIfInBounds (i * 3 + 1) (.int .i64 x) = stc V (upd a i x) g) hi rfl rfl rfl rfl rfl rfl rfl rfl
theorem set_g (x : Bool) : (stc V a g).setIfInBounds (i * 3 + 2) (.bool x) = stc V a (upd g i x) := under8 (p := fun i => (stc V a g).setIfInBounds (i * 3 + 2) (.bool x) = stc V a (upd g i x)) hi rfl rfl rfl rfl rfl rfl rfl rfl
end
theorem stc_alike {V V' : Nat → Value} {a a' : Nat → Int} {g g' : Nat → Bool} (h1 : ∀ i, i < 8 → V i = V' i) (h2 : ∀ i, i < 8 → a i = a' i) (h3 : ∀ i, i < 8 → g i = g' i) : stc V a g = stc V' a' g' := by
  unfold stc
  rw [h1 0 (by omega), h1 1 (by omega), h1 2 (by omega), h1 3 (by omega), h1 4 (by omega), h1 5 (by omega), h1 6 (by omega), h1 7 (by omega),
    h2 0 (by omega), h2 1 (by omega), h2 2 (by omega), h2 3 (by omega), h2 4 (by omega), h2 5 (by omega), h2 6 (by omega), h2 7 (by omega),
    h3 0 (by omega), h3 1 (by omega), h3 2 (by omega), h3 3 (by omega), h3 4 (by omega), h3 5 (by omega), h3 6 (by omega), h3 7 (by omega)]

/-- What there was is as it was, but for the blocks of F. -/
structure Kp (F : List Nat) (w w' : World) : Prop where
  size : w.heap.size ≤ w'.heap.size
  block : ∀ k, k < w.heap.size → k ∉ F → w'.heap[k]? = w.heap[k]?
section
variable {F : List Nat} {w w1 w2 : World} {g : Nat}
theorem Kp.refl (F : List Nat) (w : World) : Kp F w w := ⟨Nat.le_refl _, fun _ _ _ => rfl⟩
theorem Kp.trans (h : Kp F w w1) (k : Kp F w1 w2) : Kp F w w2 := ⟨Nat.le_trans h.size k.size, fun i hi hn => (k.block i (Nat.lt_of_lt_of_le hi h.size) hn).trans (h.block i hi hn)⟩
theorem Only.kp (h : Only g w w1) (hg : g ∈ F) : Kp F w w1 := ⟨h.size, fun i hi hn => h.block i hi (by intro e; cases e; exact hn hg)⟩
theorem kp_below (h : Below w.heap.size w w1) : Kp F w w1 := ⟨h.size, fun i hi _ => h.block i hi⟩
end
/-- Bytes that lie in no block of F. -/
def Dat (F : List Nat) (W : World) (v : Value) (l : List Int) : Prop := SeesL W W.heap.size v l ∧ ∀ f, f ∈ F → l ≠ [] → v.ownBlock ≠ some f
section
variable {F : List Nat} {W W' : World} {v : Value} {l : List Int}
theorem Dat.keep (h : Dat F W v l) (k : Kp F W W') : Dat F W' v l := ⟨⟨by
  obtain ⟨⟨A, c, rfl, h1, h2, h3, h4⟩, hF⟩ := h.1, h.2
  refine ⟨A, c, rfl, h1, h2, fun h0 => ?_, h4⟩
  obtain ⟨b, off, rfl, hb, hc⟩ := h3 h0
  refine ⟨b, off, rfl, Nat.lt_of_lt_of_le hb k.size, fun j hj => ?_⟩
  have hn : b ∉ F := fun hm => hF b hm (List.length_pos_iff.1 h0) rfl
  rw [← hc j hj]
  simp only [World.cell?, k.block b hb hn]⟩, h.2⟩
theorem Dat.nil : Dat F W (.slice none 0 0) [] := ⟨SeesL.nil, fun _ _ h => absurd rfl h⟩
/-- A block that came later holds none of them. -/
theorem Dat.more (h : Dat F W v l) (k : Below W.heap.size W W') {f : Nat} (hf : W.heap.size ≤ f) : Dat (f :: F) W' v l := ⟨(h.keep (kp_below k)).1, fun x hx hl => by
  rcases List.mem_cons.1 hx with rfl | hx
  · obtain ⟨A, c, rfl, -, -, h3, -⟩ := h.1.at_
    obtain ⟨b, off, rfl, hb, -⟩ := h3 (List.length_pos_iff.2 hl)
    simp only [Value.ownBlock]
    intro e
    cases e
    omega
  · exact h.2 x hx hl⟩
/-- A list that was made from block B on, all of F below. -/
theorem OwnsL.dat {B : Nat} (h : OwnsL W B v l) (hF : ∀ f, f ∈ F → f < B) : Dat F W v l := ⟨h.sees, fun f hf _ e => by
  have := (h.lt f e).1
  have := hF f hf
  omega⟩
end
theorem OwnsL.setFar {W : World} {B : Nat} {v : Value} {l : List Int} (h : OwnsL W B v l) (p : Addr) (x : Value) (hp : p.block < B) : OwnsL (W.setCell p x) B v l :=
  World.ownsRow.kept (row := some p.block) h ⟨rfl, rfl, rfl, by simp [World.setCell], fun k _ hk => Below.heap_setCell W p x k (fun e => hk (by rw [e]))⟩ (.inr (fun e => by
    have := (h.lt p.block e).1
    omega))
/-- A store in memory. -/
def SAt (t : TypeId) (F : List Nat) (W : World) (g : Nat) (s : MS) : Prop := (∃ V, Blk W g (stc V s.a s.g) t ∧ ∀ i, i < 8 → Dat F W (V i) (s.d i)) ∧ s.ok
section
variable {t : TypeId} {F : List Nat} {W W' : World} {g g' : Nat} {s s' : MS}
theorem SAt.lt (h : SAt t F W g s) : g < W.heap.size := by
  obtain ⟨⟨V, hB, -⟩, -⟩ := h
  exact hB.lt
theorem SAt.only (h : SAt t F W g s) (k : Only g' W W') (hne : g ≠ g') (hF : g' ∈ F) : SAt t F W' g s := by
  obtain ⟨⟨V, hB, hD⟩, hk⟩ := h
  exact ⟨⟨V, hB.only k hne, fun i hi => (hD i hi).keep (k.kp hF)⟩, hk⟩
theorem SAt.below (h : SAt t F W g s) (k : Below W.heap.size W W') : SAt t F W' g s := by
  obtain ⟨⟨V, hB, hD⟩, hk⟩ := h
  exact ⟨⟨V, hB.below k hB.lt, fun i hi => (hD i hi).keep (kp_below k)⟩, hk⟩
theorem SAt.alike (h : SAt t F W g s) (hd : ∀ i, i < 8 → s.d i = s'.d i) (ha : ∀ i, i < 8 → s.a i = s'.a i) (hg : ∀ i, i < 8 → s.g i = s'.g i) : SAt t F W g s' := by
  obtain ⟨⟨V, hB, hD⟩, hk⟩ := h
  refine ⟨⟨V, hB.eq (stc_alike (fun _ _ => rfl) ha hg), fun i hi => hd i hi ▸ hD i hi⟩, ⟨fun i hi => hd i hi ▸ hk.len i hi, fun i hi => hd i hi ▸ hk.byt i hi, fun i hi => ha i hi ▸ hk.lo i hi, fun i hi => ha i hi ▸ hk.hi i hi⟩⟩
theorem SAt.more (h : SAt t F W g s) (k : Below W.heap.size W W') {f : Nat} (hf : W.heap.size ≤ f) : SAt t (f :: F) W' g s := by
  obtain ⟨⟨V, hB, hD⟩, hk⟩ := h
  exact ⟨⟨V, hB.below k hB.lt, fun i hi => (hD i hi).more k hf⟩, hk⟩
theorem SAt.cd (h : SAt t F W g s) {i : Nat} (hi : i < 8) : ∃ v, W.cell? ⟨g, i * 3, none⟩ = some v ∧ Dat F W v (s.d i) := by
  obtain ⟨⟨V, hB, hD⟩, -⟩ := h
  exact ⟨V i, hB.cell _ (stc_d _ _ _ hi), hD i hi⟩
theorem SAt.cs (h : SAt t F W g s) {i : Nat} (hi : i < 8) : ∃ A c, W.cell? ⟨g, i * 3, none⟩ = some (.slice A (s.d i).length c) ∧ Dat F W (.slice A (s.d i).length c) (s.d i) := by
  obtain ⟨v, h1, h2⟩ := h.cd hi
  obtain ⟨A, c, rfl, -⟩ := h2.1.at_
  exact ⟨A, c, h1, h2⟩
theorem SAt.ca (h : SAt t F W g s) {i : Nat} (hi : i < 8) : W.cell? ⟨g, i * 3 + 1, none⟩ = some (.int .i64 (s.a i)) := by
  obtain ⟨⟨V, hB, hD⟩, -⟩ := h
  exact hB.cell _ (stc_a _ _ _ hi)
theorem SAt.cg (h : SAt t F W g s) {i : Nat} (hi : i < 8) : W.cell? ⟨g, i * 3 + 2, none⟩ = some (.bool (s.g i)) := by
  obtain ⟨⟨V, hB, hD⟩, -⟩ := h
  exact hB.cell _ (stc_g _ _ _ hi)
theorem SAt.frozen (h : SAt t F W g s) (o : Nat) : W.frozen? ⟨g, o, none⟩ = false := by
  obtain ⟨⟨V, hB, hD⟩, -⟩ := h
  exact hB.frozen _
theorem SAt.refit {F' : List Nat} (h : SAt t F W g s) (hs : ∀ i, i < 8 → s.d i = []) : SAt t F' W g s := by
  obtain ⟨⟨V, hB, hD⟩, hk⟩ := h
  exact ⟨⟨V, hB, fun i hi => ⟨(hD i hi).1, fun _ _ hl => absurd (hs i hi) hl⟩⟩, hk⟩
theorem SAt.drew (h : SAt t F W g s) : SAt t F W.drew g s := h.below (Below.refl _ W).drew
theorem SAt.setd (h : SAt t F W g s) (hg : g ∈ F) {i : Nat} (hi : i < 8) {v : Value} {l : List Int} (hv : Dat F W v l) (hl : l.length ≤ 8) (hb : bytesL l) : SAt t F (W.setCell ⟨g, i * 3, none⟩ v) g { s with d := upd s.d i l } := by
  obtain ⟨⟨V, hB, hD⟩, hk⟩ := h
  have hkp : Kp F W (W.setCell ⟨g, i * 3, none⟩ v) := ((Only.refl g W).set _ _).kp hg
  refine ⟨⟨upd V i v, (hB.set _ _).eq (set_d _ _ _ hi _), fun j hj => ?_⟩, ⟨fun j hj => ?_, fun j hj => ?_, hk.lo, hk.hi⟩⟩ <;> simp only [upd] <;> split
  · exact hv.keep hkp
  · exact (hD j hj).keep hkp
  · exact hl
  · exact hk.len j hj
  · exact hb
  · exact hk.byt j hj
theorem SAt.seta (h : SAt t F W g s) (hg : g ∈ F) {i : Nat} (hi : i < 8) (a : Int) (hl : -1 ≤ a) (hh : a ≤ 65535) : SAt t F (W.setCell ⟨g, i * 3 + 1, none⟩ (.int .i64 a)) g { s with a := upd s.a i a } := by
  obtain ⟨⟨V, hB, hD⟩, hk⟩ := h
  have hkp : Kp F W (W.setCell ⟨g, i * 3 + 1, none⟩ (.int .i64 a)) := ((Only.refl g W).set _ _).kp hg
  refine ⟨⟨V, (hB.set _ _).eq (set_a _ _ _ hi _), fun j hj => (hD j hj).keep hkp⟩, ⟨hk.len, hk.byt, fun j hj => ?_, fun j hj => ?_⟩⟩ <;> simp only [upd] <;> split
  · exact hl
  · exact hk.lo j hj
  · exact hh
  · exact hk.hi j hj
theorem SAt.setg (h : SAt t F W g s) (hg : g ∈ F) {i : Nat} (hi : i < 8) (b : Bool) : SAt t F (W.setCell ⟨g, i * 3 + 2, none⟩ (.bool b)) g { s with g := upd s.g i b } := by
  obtain ⟨⟨V, hB, hD⟩, hk⟩ := h
  have hkp : Kp F W (W.setCell ⟨g, i * 3 + 2, none⟩ (.bool b)) := ((Only.refl g W).set _ _).kp hg
  exact ⟨⟨V, (hB.set _ _).eq (set_g _ _ _ hi _), fun j hj => (hD j hj).keep hkp⟩, ⟨hk.len, hk.byt, hk.lo, hk.hi⟩⟩
end
theorem both_below {F : List Nat} {w W : World} {v : Value} {l : List Int} (h : Dat F w v l) (hb : Below w.heap.size w W) : SeesL W W.heap.size v l ∧ Below w.heap.size w W := ⟨(h.keep (kp_below hb)).1, hb⟩
/-- The first k messages cleared. -/
def MS.clr (s : MS) (k : Nat) : MS := ⟨fun i => if i < k then [] else s.d i, fun i => if i < k then -1 else s.a i, fun i => if i < k then false else s.g i⟩
/-- The first k messages older. -/
def MS.agd (s : MS) (k : Nat) : MS := { s with a := fun i => if i < k then older (s.a i) else s.a i }
theorem lt_or_eq_or (i k : Nat) : i < k ∨ i = k ∨ k < i := by omega
theorem clr_step (s : MS) (k : Nat) : (∀ i, upd (s.clr k).d k [] i = (s.clr (k + 1)).d i) ∧ (∀ i, upd (s.clr k).a k (-1) i = (s.clr (k + 1)).a i) ∧ (∀ i, upd (s.clr k).g k false i = (s.clr (k + 1)).g i) := by
  refine ⟨fun i => ?_, fun i => ?_, fun i => ?_⟩ <;> simp only [upd, MS.clr] <;> rcases lt_or_eq_or i k with h | h | h
  all_goals first
    | (rw [if_neg (by omega), if_pos (by omega), if_pos (by omega)])
    | (rw [if_pos (by omega), if_pos (by omega)])
    | (rw [if_neg (by omega), if_neg (by omega), if_neg (by omega)])
theorem agd_step (s : MS) (k : Nat) (i : Nat) : upd (s.agd k).a k (older (s.a k)) i = (s.agd (k + 1)).a i := by
  simp only [upd, MS.agd]
  rcases lt_or_eq_or i k with h | h | h
  · rw [if_neg (by omega), if_pos (by omega), if_pos (by omega)]
  · subst h; rw [if_pos rfl, if_pos (by omega)]
  · rw [if_neg (by omega), if_neg (by omega), if_neg (by omega)]
end Go.Proofs.YtpdenmcacaajkaaGreat

/-! ### AlM -/
namespace Go.Proofs.YtpdenmcacaajkaaGreat
open Go.RowKit

structure R4 where
  n : Int
  lo : Int
  hi : Int
  st : Int
def R4.v (r : R4) : Value := .agg #[.int .i64 r.n, .int .i64 r.lo, .int .i64 r.hi, .int .i64 r.st]
/-- Is the rule one that may be? -/
def R4.may (r : R4) : Prop := (0 ≤ r.n ∧ r.n ≤ 7) ∧ (0 ≤ r.lo ∧ r.lo ≤ 255) ∧ (r.lo ≤ r.hi ∧ r.hi ≤ 255) ∧ (0 ≤ r.st ∧ r.st ≤ 65535)
instance (r : R4) : Decidable r.may := inferInstanceAs (Decidable (_ ∧ _))
/-- Why it rings. -/
def whyM (r : R4) (d : List Int) (a : Int) (g : Bool) : Nat :=
  (if d ≠ [] ∧ d.getD 0 0 < r.lo then 1 else 0) + (if d ≠ [] ∧ r.hi < d.getD 0 0 then 2 else 0) + (if r.st < a ∨ a = -1 then 4 else 0) + (if g then 0 else 8)
theorem whyM_lt (r : R4) (d : List Int) (a : Int) (g : Bool) : whyM r d a g < 16 := by
  unfold whyM
  split <;> split <;> split <;> split <;> omega
/-- Bits, one behind the other. -/
theorem bits_why : (∀ a : Fin 1, bits BinOp.or IntKind.i64 (a.val : Nat) 1 = (a.val + 1 : Nat)) ∧ (∀ a : Fin 2, bits BinOp.or IntKind.i64 (a.val : Nat) 2 = (a.val + 2 : Nat)) ∧ (∀ a : Fin 4, bits BinOp.or IntKind.i64 (a.val : Nat) 4 = (a.val + 4 : Nat)) ∧ (∀ a : Fin 8, bits BinOp.or IntKind.i64 (a.val : Nat) 8 = (a.val + 8 : Nat)) := by decide +kernel
theorem or_16 {m n : Nat} (hm : m < 16) (hn : n < 16) : bits BinOp.or IntKind.i64 (m : Nat) (n : Nat) = ((m ||| n : Nat) : Int) := by
  have : ∀ (a b : Fin 16), bits BinOp.or IntKind.i64 (a.val : Nat) (b.val : Nat) = ((a.val ||| b.val : Nat) : Int) := by decide +kernel
  exact this ⟨m, hm⟩ ⟨n, hn⟩
theorem or16_lt {m n : Nat} (hm : m < 16) (hn : n < 16) : m ||| n < 16 := Nat.or_lt_two_pow (n := 4) hm hn

/-- But for the blocks of F all that there was is as it was; the streams too. -/
structure Kq (F : List Nat) (w w' : World) : Prop where
  os : w'.os = w.os
  tape : w'.tape = w.tape
  output : w'.output = w.output
  size : w.heap.size ≤ w'.heap.size
  block : ∀ k, k < w.heap.size → k ∉ F → w'.heap[k]? = w.heap[k]?
section
variable {F : List Nat} {w w1 w2 : World} {g B : Nat}
theorem Kq.refl (F : List Nat) (w : World) : Kq F w w := ⟨rfl, rfl, rfl, Nat.le_refl _, fun _ _ _ => rfl⟩
theorem Kq.trans (h : Kq F w w1) (k : Kq F w1 w2) : Kq F w w2 := ⟨k.os.trans h.os, k.tape.trans h.tape, k.output.trans h.output, Nat.le_trans h.size k.size, fun i hi hn => (k.block i (Nat.lt_of_lt_of_le hi h.size) hn).trans (h.block i hi hn)⟩
theorem Kq.below (h : Kq F w w1) (hB : ∀ f, f ∈ F → B ≤ f) (hw : B ≤ w.heap.size) : Below B w w1 := ⟨h.os, h.tape, h.output, h.size, fun i hi => h.block i (by omega) (fun hm => by have := hB i hm; omega)⟩
theorem kq_below (h : Below w.heap.size w w1) : Kq F w w1 := ⟨h.os, h.tape, h.output, h.size, fun i hi _ => h.block i hi⟩
theorem Only.kq (h : Only g w w1) (hg : g ∈ F) : Kq F w w1 := ⟨h.os, h.tape, h.output, h.size, fun i hi hn => h.block i hi (by intro e; cases e; exact hn hg)⟩
theorem Kq.kp (h : Kq F w w1) : Kp (g :: F) w w1 := ⟨h.size, fun k hk hn => h.block k hk (fun hm => hn (List.mem_cons_of_mem _ hm))⟩
end
/-- What all nodes have said, in memory; no bytes lie in F. -/
def PAt (t : TypeId) (F : List Nat) (W : World) (g : Nat) (s : MS) : Prop := ∃ V, Blk W g (stc V s.a s.g) t ∧ ∀ i, i < 8 → Dat (g :: F) W (V i) (s.d i) ∧ bytesL (s.d i)
section
variable {t : TypeId} {F : List Nat} {W W' : World} {g g' : Nat} {s s' : MS}
theorem PAt.lt (h : PAt t F W g s) : g < W.heap.size := by
  obtain ⟨V, hB, -⟩ := h
  exact hB.lt
theorem PAt.kq (h : PAt t F W g s) (k : Kq F W W') (hg : g ∉ F) : PAt t F W' g s := by
  obtain ⟨V, hB, hD⟩ := h
  exact ⟨V, (k.block g hB.lt hg).trans hB, fun i hi => ⟨(hD i hi).1.keep k.kp, (hD i hi).2⟩⟩
theorem PAt.below (h : PAt t F W g s) (k : Below W.heap.size W W') : PAt t F W' g s := by
  obtain ⟨V, hB, hD⟩ := h
  exact ⟨V, hB.below k hB.lt, fun i hi => ⟨(hD i hi).1.keep (kp_below k), (hD i hi).2⟩⟩
theorem PAt.cs (h : PAt t F W g s) {i : Nat} (hi : i < 8) : ∃ A c, W.cell? ⟨g, i * 3, none⟩ = some (.slice A (s.d i).length c) ∧ Dat (g :: F) W (.slice A (s.d i).length c) (s.d i) ∧ bytesL (s.d i) := by
  obtain ⟨V, hB, hD⟩ := h
  obtain ⟨h1, h2⟩ := hD i hi
  obtain ⟨A, c, e, -⟩ := h1.1.at_
  exact ⟨A, c, e ▸ hB.cell _ (stc_d _ _ _ hi), e ▸ h1, h2⟩
theorem PAt.ca (h : PAt t F W g s) {i : Nat} (hi : i < 8) : W.cell? ⟨g, i * 3 + 1, none⟩ = some (.int .i64 (s.a i)) := by
  obtain ⟨V, hB, -⟩ := h
  exact hB.cell _ (stc_a _ _ _ hi)
theorem PAt.cg (h : PAt t F W g s) {i : Nat} (hi : i < 8) : W.cell? ⟨g, i * 3 + 2, none⟩ = some (.bool (s.g i)) := by
  obtain ⟨V, hB, -⟩ := h
  exact hB.cell _ (stc_g _ _ _ hi)
theorem PAt.frozen (h : PAt t F W g s) (o : Nat) : W.frozen? ⟨g, o, none⟩ = false := by
  obtain ⟨V, hB, -⟩ := h
  exact hB.frozen _
/-- One message is said. -/
theorem PAt.say (h : PAt t F W g s) {i : Nat} (hi : i < 8) {v : Value} {l : List Int} {a : Int} {b : Bool} (hv : Dat (g :: F) W v l) (hl : bytesL l) :
    PAt t F (((W.setCell ⟨g, i * 3, none⟩ v).setCell ⟨g, i * 3 + 1, none⟩ (.int .i64 a)).setCell ⟨g, i * 3 + 2, none⟩ (.bool b)) g ⟨upd s.d i l, upd s.a i a, upd s.g i b⟩ := by
  obtain ⟨V, hB, hD⟩ := h
  have k : Kp (g :: F) W (((W.setCell ⟨g, i * 3, none⟩ v).setCell ⟨g, i * 3 + 1, none⟩ (.int .i64 a)).setCell ⟨g, i * 3 + 2, none⟩ (.bool b)) := ((((Only.refl g W).set _ _).set _ _).set _ _).kp (by simp)
  have e : (((stc V s.a s.g).setIfInBounds (i * 3) v).setIfInBounds (i * 3 + 1) (.int .i64 a)).setIfInBounds (i * 3 + 2) (.bool b) = stc (upd V i v) (upd s.a i a) (upd s.g i b) := by
    rw [set_d _ _ _ hi, set_a _ _ _ hi, set_g _ _ _ hi]
  refine ⟨upd V i v, (((hB.set _ _).set _ _).set _ _).eq e, fun j hj => ?_⟩
  simp only [upd]
  split
  · exact ⟨hv.keep k, hl⟩
  · exact ⟨(hD j hj).1.keep k, (hD j hj).2⟩
/-- Only its bytes are said. -/
theorem PAt.sayd (h : PAt t F W g s) {i : Nat} (hi : i < 8) {v : Value} {l : List Int} (hv : Dat (g :: F) W v l) (hl : bytesL l) :
    PAt t F (W.setCell ⟨g, i * 3, none⟩ v) g { s with d := upd s.d i l } := by
  obtain ⟨V, hB, hD⟩ := h
  have k : Kp (g :: F) W (W.setCell ⟨g, i * 3, none⟩ v) := ((Only.refl g W).set _ _).kp (by simp)
  refine ⟨upd V i v, (hB.set _ _).eq (set_d _ _ _ hi _), fun j hj => ?_⟩
  simp only [upd]
  split
  · exact ⟨hv.keep k, hl⟩
  · exact ⟨(hD j hj).1.keep k, (hD j hj).2⟩
end
end Go.Proofs.YtpdenmcacaajkaaGreat
