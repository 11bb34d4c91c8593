/- Texts StM, AlM, AlR in one. For what each says in front of its theorems. -/
import Derived.Test.YtpdenmcacaajkaaGreatXB3
import Derived.Test.YtpdenmcacaajkaaGreatXB4
import Derived.Test.YtpdenmcacaajkaaGreatXB5
/-! ### StM -/
namespace Go.Proofs.YtpdenmcacaajkaaGreat
open Go.RowKit

/-- What a store holds: bytes, ages, whether good. -/
structure MS where
  d : Nat → List Int
  a : Nat → Int
  g : Nat → Bool
def upd {α : Type} (f : Nat → α) (i : Nat) (x : α) : Nat → α := fun k => if k = i then x else f k
def MS.new : MS := ⟨fun _ => [], fun _ => -1, fun _ => false⟩
def isN (n : Int) : Prop := 0 ≤ n ∧ n < 8
instance (n : Int) : Decidable (isN n) := inferInstanceAs (Decidable (_ ∧ _))
def MS.put (s : MS) (n : Int) (l : List Int) : MS := if isN n ∧ l.length ≤ 8 then ⟨upd s.d n.toNat l, upd s.a n.toNat 0, s.g⟩ else s
def MS.member (s : MS) (n : Int) (b : Bool) : MS := if isN n then { s with g := upd s.g n.toNat b } else s
def older (a : Int) : Int := if 0 ≤ a then min (a + 1) 65535 else a
def MS.age (s : MS) : MS := { s with a := fun i => older (s.a i) }
def MS.gd (s : MS) (n : Int) : List Int := if isN n then s.d n.toNat else []
def MS.ga (s : MS) (n : Int) : Int := if isN n then s.a n.toNat else -1
def MS.gg (s : MS) (n : Int) : Bool := if isN n then s.g n.toNat else false
/-- What may be. -/
structure MS.ok (s : MS) : Prop where
  len : ∀ i, i < 8 → (s.d i).length ≤ 8
  byt : ∀ i, i < 8 → bytesL (s.d i)
  lo : ∀ i, i < 8 → -1 ≤ s.a i
  hi : ∀ i, i < 8 → s.a i ≤ 65535
theorem MS.new_ok : MS.new.ok := ⟨fun _ _ => by simp [MS.new], fun _ _ x hx => by simp [MS.new] at hx, fun _ _ => by simp [MS.new], fun _ _ => by simp [MS.new]⟩
theorem MS.ok.put {s : MS} (h : s.ok) (n : Int) (l : List Int) (hl : bytesL l) : (s.put n l).ok := by
  unfold MS.put
  split
  · rename_i hc
    refine ⟨fun i hi => ?_, fun i hi => ?_, fun i hi => ?_, fun i hi => ?_⟩ <;> simp only [upd] <;> split
    · exact hc.2
    · exact h.len i hi
    · exact hl
    · exact h.byt i hi
    · omega
    · exact h.lo i hi
    · omega
    · exact h.hi i hi
  · exact h
theorem MS.ok.member {s : MS} (h : s.ok) (n : Int) (b : Bool) : (s.member n b).ok := by
  unfold MS.member
  split
  · exact ⟨h.len, h.byt, h.lo, h.hi⟩
  · exact h
theorem older_ok {a : Int} (h : -1 ≤ a) (h' : a ≤ 65535) : -1 ≤ older a ∧ older a ≤ 65535 := by
  unfold older
  split <;> omega
theorem MS.ok.age {s : MS} (h : s.ok) : s.age.ok := ⟨h.len, h.byt, fun i hi => (older_ok (h.lo i hi) (h.hi i hi)).1, fun i hi => (older_ok (h.lo i hi) (h.hi i hi)).2⟩
theorem MS.ok.gd {s : MS} (h : s.ok) (n : Int) : (s.gd n).length ≤ 8 ∧ bytesL (s.gd n) := by
  unfold MS.gd
  split
  · rename_i hn
    unfold isN at hn
    exact ⟨h.len _ (by omega), h.byt _ (by omega)⟩
  · exact ⟨by simp, fun x hx => by simp at hx⟩
theorem MS.ok.ga {s : MS} (h : s.ok) (n : Int) : -1 ≤ s.ga n ∧ s.ga n ≤ 65535 := by
  unfold MS.ga
  split
  · rename_i hn
    unfold isN at hn
    exact ⟨h.lo _ (by omega), h.hi _ (by omega)⟩
  · omega

/-- The block's cells. -/
def stc (V : Nat → Value) (a : Nat → Int) (g : Nat → Bool) : Array Value := #[V 0, .int .i64 (a 0), .bool (g 0), V 1, .int .i64 (a 1), .bool (g 1), V 2, .int .i64 (a 2), .bool (g 2), V 3, .int .i64 (a 3), .bool (g 3), V 4, .int .i64 (a 4), .bool (g 4), V 5, .int .i64 (a 5), .bool (g 5), V 6, .int .i64 (a 6), .bool (g 6), V 7, .int .i64 (a 7), .bool (g 7)]
theorem under8 {p : Nat → Prop} {i : Nat} (hi : i < 8) (h0 : p 0) (h1 : p 1) (h2 : p 2) (h3 : p 3) (h4 : p 4) (h5 : p 5) (h6 : p 6) (h7 : p 7) : p i := by
  rcases (by omega : i = 0 ∨ i = 1 ∨ i = 2 ∨ i = 3 ∨ i = 4 ∨ i = 5 ∨ i = 6 ∨ i = 7) with rfl | rfl | rfl | rfl | rfl | rfl | rfl | rfl <;> assumption
section
variable (V : Nat → Value) (a : Nat → Int) (g : Nat → Bool) {i : Nat} (hi : i < 8)
include hi
theorem stc_d : (stc V a g)[i * 3]? = some (V i) := under8 (p := fun i => (stc V a g)[i * 3]? = some (V i)) hi rfl rfl rfl rfl rfl rfl rfl rfl
theorem stc_a : (stc V a g)[i * 3 + 1]? = some (.int .i64 (a i)) := under8 (p := fun i => (stc V a g)[i * 3 + 1]? = some (.int .i64 (a i))) hi rfl rfl rfl rfl rfl rfl rfl rfl
theorem stc_g : (stc V a g)[i * 3 + 2]? = some (.bool (g i)) := under8 (p := fun i => (stc V a g)[i * 3 + 2]? = some (.bool (g i))) hi rfl rfl rfl rfl rfl rfl rfl rfl
theorem set_d (x : Value) : (stc V a g).setIfInBounds (i * 3) x = stc (upd V i x) a g := under8 (p := fun i => (stc V a g).setIfInBounds (i * 3) x = stc (upd V i x) a g) hi rfl rfl rfl rfl rfl rfl rfl rfl
theorem set_a (x : Int) : (stc V a g).setIfInBounds (i * 3 + 1) (.int .i64 x) = stc V (upd a i x) g := under8 (p := fun i => (stc V a g).setIfInBounds (i * 3 + 1) (.int .i64 x) = stc V (upd a i x) g) hi rfl rfl rfl rfl rfl rfl rfl rfl
theorem set_g (x : Bool) : (stc V a g).setIfInBounds (i * 3 + 2) (.bool x) = stc V a (upd g i x) := under8 (p := fun i => (stc V a g).setIfInBounds (i * 3 + 2) (.bool x) = stc V a (upd g i x)) hi rfl rfl rfl rfl rfl rfl rfl rfl
end
theorem stc_alike {V V' : Nat → Value} {a a' : Nat → Int} {g g' : Nat → Bool} (h1 : ∀ i, i < 8 → V i = V' i) (h2 : ∀ i, i < 8 → a i = a' i) (h3 : ∀ i, i < 8 → g i = g' i) : stc V a g = stc V' a' g' := by
  unfold stc
  rw [h1 0 (by omega), h1 1 (by omega), h1 2 (by omega), h1 3 (by omega), h1 4 (by omega), h1 5 (by omega), h1 6 (by omega), h1 7 (by omega),
    h2 0 (by omega), h2 1 (by omega), h2 2 (by omega), h2 3 (by omega), h2 4 (by omega), h2 5 (by omega), h2 6 (by omega), h2 7 (by omega),
    h3 0 (by omega), h3 1 (by omega), h3 2 (by omega), h3 3 (by omega), h3 4 (by omega), h3 5 (by omega), h3 6 (by omega), h3 7 (by omega)]

/-- What there was is as it was, but for the blocks of F. -/
structure Kp (F : List Nat) (w w' : World) : Prop where
  size : w.heap.size ≤ w'.heap.size
  block : ∀ k, k < w.heap.size → k ∉ F → w'.heap[k]? = w.heap[k]?
section
variable {F : List Nat} {w w1 w2 : World} {g : Nat}
theorem Kp.refl (F : List Nat) (w : World) : Kp F w w := ⟨Nat.le_refl _, fun _ _ _ => rfl⟩
theorem Kp.trans (h : Kp F w w1) (k : Kp F w1 w2) : Kp F w w2 := ⟨Nat.le_trans h.size k.size, fun i hi hn => (k.block i (Nat.lt_of_lt_of_le hi h.size) hn).trans (h.block i hi hn)⟩
theorem Only.kp (h : Only g w w1) (hg : g ∈ F) : Kp F w w1 := ⟨h.size, fun i hi hn => h.block i hi (by intro e; cases e; exact hn hg)⟩
theorem kp_below (h : Below w.heap.size w w1) : Kp F w w1 := ⟨h.size, fun i hi _ => h.block i hi⟩
end
/-- Bytes that lie in no block of F. -/
def Dat (F : List Nat) (W : World) (v : Value) (l : List Int) : Prop := SeesL W W.heap.size v l ∧ ∀ f, f ∈ F → l ≠ [] → v.ownBlock ≠ some f
section
variable {F : List Nat} {W W' : World} {v : Value} {l : List Int}
theorem Dat.keep (h : Dat F W v l) (k : Kp F W W') : Dat F W' v l := ⟨⟨by
  obtain ⟨⟨A, c, rfl, h1, h2, h3, h4⟩, hF⟩ := h.1, h.2
  refine ⟨A, c, rfl, h1, h2, fun h0 => ?_, h4⟩
  obtain ⟨b, off, rfl, hb, hc⟩ := h3 h0
  refine ⟨b, off, rfl, Nat.lt_of_lt_of_le hb k.size, fun j hj => ?_⟩
  have hn : b ∉ F := fun hm => hF b hm (List.length_pos_iff.1 h0) rfl
  rw [← hc j hj]
  simp only [World.cell?, k.block b hb hn]⟩, h.2⟩
theorem Dat.nil : Dat F W (.slice none 0 0) [] := ⟨SeesL.nil, fun _ _ h => absurd rfl h⟩
/-- A block that came later holds none of them. -/
theorem Dat.more (h : Dat F W v l) (k : Below W.heap.size W W') {f : Nat} (hf : W.heap.size ≤ f) : Dat (f :: F) W' v l := ⟨(h.keep (kp_below k)).1, fun x hx hl => by
  rcases List.mem_cons.1 hx with rfl | hx
  · obtain ⟨A, c, rfl, -, -, h3, -⟩ := h.1.at_
    obtain ⟨b, off, rfl, hb, -⟩ := h3 (List.length_pos_iff.2 hl)
    simp only [Value.ownBlock]
    intro e
    cases e
    omega
  · exact h.2 x hx hl⟩
/-- A list that was made from block B on, all of F below. -/
theorem OwnsL.dat {B : Nat} (h : OwnsL W B v l) (hF : ∀ f, f ∈ F → f < B) : Dat F W v l := ⟨h.sees, fun f hf _ e => by
  have := (h.lt f e).1
  have := hF f hf
  omega⟩
end
theorem OwnsL.setFar {W : World} {B : Nat} {v : Value} {l : List Int} (h : OwnsL W B v l) (p : Addr) (x : Value) (hp : p.block < B) : OwnsL (W.setCell p x) B v l :=
  World.ownsRow.kept (row := some p.block) h ⟨rfl, rfl, rfl, by simp [World.setCell], fun k _ hk => Below.heap_setCell W p x k (fun e => hk (by rw [e]))⟩ (.inr (fun e => by
    have := (h.lt p.block e).1
    omega))
/-- A store in memory. -/
def SAt (t : TypeId) (F : List Nat) (W : World) (g : Nat) (s : MS) : Prop := (∃ V, Blk W g (stc V s.a s.g) t ∧ ∀ i, i < 8 → Dat F W (V i) (s.d i)) ∧ s.ok
section
variable {t : TypeId} {F : List Nat} {W W' : World} {g g' : Nat} {s s' : MS}
theorem SAt.lt (h : SAt t F W g s) : g < W.heap.size := by
  obtain ⟨⟨V, hB, -⟩, -⟩ := h
  exact hB.lt
theorem SAt.only (h : SAt t F W g s) (k : Only g' W W') (hne : g ≠ g') (hF : g' ∈ F) : SAt t F W' g s := by
  obtain ⟨⟨V, hB, hD⟩, hk⟩ := h
  exact ⟨⟨V, hB.only k hne, fun i hi => (hD i hi).keep (k.kp hF)⟩, hk⟩
theorem SAt.below (h : SAt t F W g s) (k : Below W.heap.size W W') : SAt t F W' g s := by
  obtain ⟨⟨V, hB, hD⟩, hk⟩ := h
  exact ⟨⟨V, hB.below k hB.lt, fun i hi => (hD i hi).keep (kp_below k)⟩, hk⟩
theorem SAt.alike (h : SAt t F W g s) (hd : ∀ i, i < 8 → s.d i = s'.d i) (ha : ∀ i, i < 8 → s.a i = s'.a i) (hg : ∀ i, i < 8 → s.g i = s'.g i) : SAt t F W g s' := by
  obtain ⟨⟨V, hB, hD⟩, hk⟩ := h
  refine ⟨⟨V, hB.eq (stc_alike (fun _ _ => rfl) ha hg), fun i hi => hd i hi ▸ hD i hi⟩, ⟨fun i hi => hd i hi ▸ hk.len i hi, fun i hi => hd i hi ▸ hk.byt i hi, fun i hi => ha i hi ▸ hk.lo i hi, fun i hi => ha i hi ▸ hk.hi i hi⟩⟩
theorem SAt.more (h : SAt t F W g s) (k : Below W.heap.size W W') {f : Nat} (hf : W.heap.size ≤ f) : SAt t (f :: F) W' g s := by
  obtain ⟨⟨V, hB, hD⟩, hk⟩ := h
  exact ⟨⟨V, hB.below k hB.lt, fun i hi => (hD i hi).more k hf⟩, hk⟩
theorem SAt.cd (h : SAt t F W g s) {i : Nat} (hi : i < 8) : ∃ v, W.cell? ⟨g, i * 3, none⟩ = some v ∧ Dat F W v (s.d i) := by
  obtain ⟨⟨V, hB, hD⟩, -⟩ := h
  exact ⟨V i, hB.cell _ (stc_d _ _ _ hi), hD i hi⟩
theorem SAt.cs (h : SAt t F W g s) {i : Nat} (hi : i < 8) : ∃ A c, W.cell? ⟨g, i * 3, none⟩ = some (.slice A (s.d i).length c) ∧ Dat F W (.slice A (s.d i).length c) (s.d i) := by
  obtain ⟨v, h1, h2⟩ := h.cd hi
  obtain ⟨A, c, rfl, -⟩ := h2.1.at_
  exact ⟨A, c, h1, h2⟩
theorem SAt.ca (h : SAt t F W g s) {i : Nat} (hi : i < 8) : W.cell? ⟨g, i * 3 + 1, none⟩ = some (.int .i64 (s.a i)) := by
  obtain ⟨⟨V, hB, hD⟩, -⟩ := h
  exact hB.cell _ (stc_a _ _ _ hi)
theorem SAt.cg (h : SAt t F W g s) {i : Nat} (hi : i < 8) : W.cell? ⟨g, i * 3 + 2, none⟩ = some (.bool (s.g i)) := by
  obtain ⟨⟨V, hB, hD⟩, -⟩ := h
  exact hB.cell _ (stc_g _ _ _ hi)
theorem SAt.frozen (h : SAt t F W g s) (o : Nat) : W.frozen? ⟨g, o, none⟩ = false := by
  obtain ⟨⟨V, hB, hD⟩, -⟩ := h
  exact hB.frozen _
theorem SAt.refit {F' : List Nat} (h : SAt t F W g s) (hs : ∀ i, i < 8 → s.d i = []) : SAt t F' W g s := by
  obtain ⟨⟨V, hB, hD⟩, hk⟩ := h
  exact ⟨⟨V, hB, fun i hi => ⟨(hD i hi).1, fun _ _ hl => absurd (hs i hi) hl⟩⟩, hk⟩
theorem SAt.drew (h : SAt t F W g s) : SAt t F W.drew g s := h.below (Below.refl _ W).drew
theorem SAt.setd (h : SAt t F W g s) (hg : g ∈ F) {i : Nat} (hi : i < 8) {v : Value} {l : List Int} (hv : Dat F W v l) (hl : l.length ≤ 8) (hb : bytesL l) : SAt t F (W.setCell ⟨g, i * 3, none⟩ v) g { s with d := upd s.d i l } := by
  obtain ⟨⟨V, hB, hD⟩, hk⟩ := h
  have hkp : Kp F W (W.setCell ⟨g, i * 3, none⟩ v) := ((Only.refl g W).set _ _).kp hg
  refine ⟨⟨upd V i v, (hB.set _ _).eq (set_d _ _ _ hi _), fun j hj => ?_⟩, ⟨fun j hj => ?_, fun j hj => ?_, hk.lo, hk.hi⟩⟩ <;> simp only [upd] <;> split
  · exact hv.keep hkp
  · exact (hD j hj).keep hkp
  · exact hl
  · exact hk.len j hj
  · exact hb
  · exact hk.byt j hj
theorem SAt.seta (h : SAt t F W g s) (hg : g ∈ F) {i : Nat} (hi : i < 8) (a : Int) (hl : -1 ≤ a) (hh : a ≤ 65535) : SAt t F (W.setCell ⟨g, i * 3 + 1, none⟩ (.int .i64 a)) g { s with a := upd s.a i a } := by
  obtain ⟨⟨V, hB, hD⟩, hk⟩ := h
  have hkp : Kp F W (W.setCell ⟨g, i * 3 + 1, none⟩ (.int .i64 a)) := ((Only.refl g W).set _ _).kp hg
  refine ⟨⟨V, (hB.set _ _).eq (set_a _ _ _ hi _), fun j hj => (hD j hj).keep hkp⟩, ⟨hk.len, hk.byt, fun j hj => ?_, fun j hj => ?_⟩⟩ <;> simp only [upd] <;> split
  · exact hl
  · exact hk.lo j hj
  · exact hh
  · exact hk.hi j hj
theorem SAt.setg (h : SAt t F W g s) (hg : g ∈ F) {i : Nat} (hi : i < 8) (b : Bool) : SAt t F (W.setCell ⟨g, i * 3 + 2, none⟩ (.bool b)) g { s with g := upd s.g i b } := by
  obtain ⟨⟨V, hB, hD⟩, hk⟩ := h
  have hkp : Kp F W (W.setCell ⟨g, i * 3 + 2, none⟩ (.bool b)) := ((Only.refl g W).set _ _).kp hg
  exact ⟨⟨V, (hB.set _ _).eq (set_g _ _ _ hi _), fun j hj => (hD j hj).keep hkp⟩, ⟨hk.len, hk.byt, hk.lo, hk.hi⟩⟩
end
/-- The first k messages cleared. -/
def MS.clr (s : MS) (k : Nat) : MS := ⟨fun i => if i < k then [] else s.d i, fun i => if i < k then -1 else s.a i, fun i => if i < k then false else s.g i⟩
/-- The first k messages older. -/
def MS.agd (s : MS) (k : Nat) : MS := { s with a := fun i => if i < k then older (s.a i) else s.a i }
theorem lt_or_eq_or (i k : Nat) : i < k ∨ i = k ∨ k < i := by omega
theorem clr_step (s : MS) (k : Nat) : (∀ i, upd (s.clr k).d k [] i = (s.clr (k + 1)).d i) ∧ (∀ i, upd (s.clr k).a k (-1) i = (s.clr (k + 1)).a i) ∧ (∀ i, upd (s.clr k).g k false i = (s.clr (k + 1)).g i) := by
  refine ⟨fun i => ?_, fun i => ?_, fun i => ?_⟩ <;> simp only [upd, MS.clr] <;> rcases lt_or_eq_or i k with h | h | h
  all_goals first
    | (rw [if_neg (by omega), if_pos (by omega), if_pos (by omega)])
    | (rw [if_pos (by omega), if_pos (by omega)])
    | (rw [if_neg (by omega), if_neg (by omega), if_neg (by omega)])
theorem agd_step (s : MS) (k : Nat) (i : Nat) : upd (s.agd k).a k (older (s.a k)) i = (s.agd (k + 1)).a i := by
  simp only [upd, MS.agd]
  rcases lt_or_eq_or i k with h | h | h
  · rw [if_neg (by omega), if_pos (by omega), if_pos (by omega)]
  · subst h; rw [if_pos rfl, if_pos (by omega)]
  · rw [if_neg (by omega), if_neg (by omega), if_neg (by omega)]
end Go.Proofs.YtpdenmcacaajkaaGreat

/-! ### AlM -/
namespace Go.Proofs.YtpdenmcacaajkaaGreat
open Go.RowKit

structure R4 where
  n : Int
  lo : Int
  hi : Int
  st : Int
def R4.v (r : R4) : Value := .agg #[.int .i64 r.n, .int .i64 r.lo, .int .i64 r.hi, .int .i64 r.st]
/-- Is the rule one that may be? -/
def R4.may (r : R4) : Prop := (0 ≤ r.n ∧ r.n ≤ 7) ∧ (0 ≤ r.lo ∧ r.lo ≤ 255) ∧ (r.lo ≤ r.hi ∧ r.hi ≤ 255) ∧ (0 ≤ r.st ∧ r.st ≤ 65535)
instance (r : R4) : Decidable r.may := inferInstanceAs (Decidable (_ ∧ _))
/-- Why it rings. -/
def whyM (r : R4) (d : List Int) (a : Int) (g : Bool) : Nat :=
  (if d ≠ [] ∧ d.getD 0 0 < r.lo then 1 else 0) + (if d ≠ [] ∧ r.hi < d.getD 0 0 then 2 else 0) + (if r.st < a ∨ a = -1 then 4 else 0) + (if g then 0 else 8)
theorem whyM_lt (r : R4) (d : List Int) (a : Int) (g : Bool) : whyM r d a g < 16 := by
  unfold whyM
  split <;> split <;> split <;> split <;> omega
theorem or_16 {m n : Nat} (hm : m < 16) (hn : n < 16) : bits BinOp.or IntKind.i64 (m : Nat) (n : Nat) = ((m ||| n : Nat) : Int) := by
  have : ∀ (a b : Fin 16), bits BinOp.or IntKind.i64 (a.val : Nat) (b.val : Nat) = ((a.val ||| b.val : Nat) : Int) := by decide +kernel
  exact this ⟨m, hm⟩ ⟨n, hn⟩
theorem or16_lt {m n : Nat} (hm : m < 16) (hn : n < 16) : m ||| n < 16 := Nat.or_lt_two_pow (n := 4) hm hn

/-- But for the blocks of F all that there was is as it was; the streams too. -/
structure Kq (F : List Nat) (w w' : World) : Prop where
  os : w'.os = w.os
  tape : w'.tape = w.tape
  output : w'.output = w.output
  size : w.heap.size ≤ w'.heap.size
  block : ∀ k, k < w.heap.size → k ∉ F → w'.heap[k]? = w.heap[k]?
section
variable {F : List Nat} {w w1 w2 : World} {g B : Nat}
theorem Kq.refl (F : List Nat) (w : World) : Kq F w w := ⟨rfl, rfl, rfl, Nat.le_refl _, fun _ _ _ => rfl⟩
theorem Kq.trans (h : Kq F w w1) (k : Kq F w1 w2) : Kq F w w2 := ⟨k.os.trans h.os, k.tape.trans h.tape, k.output.trans h.output, Nat.le_trans h.size k.size, fun i hi hn => (k.block i (Nat.lt_of_lt_of_le hi h.size) hn).trans (h.block i hi hn)⟩
theorem Kq.below (h : Kq F w w1) (hB : ∀ f, f ∈ F → B ≤ f) (hw : B ≤ w.heap.size) : Below B w w1 := ⟨h.os, h.tape, h.output, h.size, fun i hi => h.block i (by omega) (fun hm => by have := hB i hm; omega)⟩
theorem Only.kq (h : Only g w w1) (hg : g ∈ F) : Kq F w w1 := ⟨h.os, h.tape, h.output, h.size, fun i hi hn => h.block i hi (by intro e; cases e; exact hn hg)⟩
theorem Kq.kp (h : Kq F w w1) : Kp (g :: F) w w1 := ⟨h.size, fun k hk hn => h.block k hk (fun hm => hn (List.mem_cons_of_mem _ hm))⟩
end
/-- What all nodes have said, in memory; no bytes lie in F. -/
def PAt (t : TypeId) (F : List Nat) (W : World) (g : Nat) (s : MS) : Prop := ∃ V, Blk W g (stc V s.a s.g) t ∧ ∀ i, i < 8 → Dat (g :: F) W (V i) (s.d i) ∧ bytesL (s.d i)
section
variable {t : TypeId} {F : List Nat} {W W' : World} {g g' : Nat} {s s' : MS}
theorem PAt.lt (h : PAt t F W g s) : g < W.heap.size := by
  obtain ⟨V, hB, -⟩ := h
  exact hB.lt
theorem PAt.kq (h : PAt t F W g s) (k : Kq F W W') (hg : g ∉ F) : PAt t F W' g s := by
  obtain ⟨V, hB, hD⟩ := h
  exact ⟨V, (k.block g hB.lt hg).trans hB, fun i hi => ⟨(hD i hi).1.keep k.kp, (hD i hi).2⟩⟩
theorem PAt.below (h : PAt t F W g s) (k : Below W.heap.size W W') : PAt t F W' g s := by
  obtain ⟨V, hB, hD⟩ := h
  exact ⟨V, hB.below k hB.lt, fun i hi => ⟨(hD i hi).1.keep (kp_below k), (hD i hi).2⟩⟩
theorem PAt.cs (h : PAt t F W g s) {i : Nat} (hi : i < 8) : ∃ A c, W.cell? ⟨g, i * 3, none⟩ = some (.slice A (s.d i).length c) ∧ Dat (g :: F) W (.slice A (s.d i).length c) (s.d i) ∧ bytesL (s.d i) := by
  obtain ⟨V, hB, hD⟩ := h
  obtain ⟨h1, h2⟩ := hD i hi
  obtain ⟨A, c, e, -⟩ := h1.1.at_
  exact ⟨A, c, e ▸ hB.cell _ (stc_d _ _ _ hi), e ▸ h1, h2⟩
theorem PAt.ca (h : PAt t F W g s) {i : Nat} (hi : i < 8) : W.cell? ⟨g, i * 3 + 1, none⟩ = some (.int .i64 (s.a i)) := by
  obtain ⟨V, hB, -⟩ := h
  exact hB.cell _ (stc_a _ _ _ hi)
theorem PAt.cg (h : PAt t F W g s) {i : Nat} (hi : i < 8) : W.cell? ⟨g, i * 3 + 2, none⟩ = some (.bool (s.g i)) := by
  obtain ⟨V, hB, -⟩ := h
  exact hB.cell _ (stc_g _ _ _ hi)
theorem PAt.frozen (h : PAt t F W g s) (o : Nat) : W.frozen? ⟨g, o, none⟩ = false := by
  obtain ⟨V, hB, -⟩ := h
  exact hB.frozen _
end
end Go.Proofs.YtpdenmcacaajkaaGreat

/-! ### AlR -/
namespace Go.Proofs.YtpdenmcacaajkaaGreat
open Go.RowKit

instance : Inhabited R4 := ⟨⟨0, 0, 0, 0⟩⟩
/-- The cells of a rule. -/
def rc (r : R4) : List Value := [.int .i64 r.n, .int .i64 r.lo, .int .i64 r.hi, .int .i64 r.st]
/-- What lies at a rule's four places. -/
structure AtRl (w : World) (b off : Nat) (d : R4) : Prop where
  c0 : w.cell? ⟨b, off, none⟩ = some (.int .i64 d.n)
  c1 : w.cell? ⟨b, off + 1, none⟩ = some (.int .i64 d.lo)
  c2 : w.cell? ⟨b, off + 2, none⟩ = some (.int .i64 d.hi)
  c3 : w.cell? ⟨b, off + 3, none⟩ = some (.int .i64 d.st)
def SeesRq (w : World) (B : Nat) (A : Option Addr) (l : List R4) : Prop :=
  0 < l.length → ∃ b off, A = some ⟨b, off, none⟩ ∧ b < B ∧ ∀ k, k < l.length → AtRl w b (off + k * 4) (l.getD k default)
/-- A slice of these rules, nil told. -/
structure SeesRs (w : World) (B : Nat) (v : Value) (l : List R4) : Prop where
  at_ : ∃ A c, v = .slice A l.length c ∧ l.length ≤ c ∧ c ≤ maxLen ∧ SeesRq w B A l ∧ (A = none → l.length = 0 ∧ c = 0)
def OwnsRl (w : World) (base : Nat) (v : Value) (l : List R4) : Prop := w.ownsRow base 80 4 v l.length (l.flatMap rc)

section
variable {w w' : World} {B B' Bs : Nat} {A : Option Addr} {v : Value} {l m : List R4}
theorem AtRl.keep {b off : Nat} {d : R4} (h : AtRl w b off d) (hk : ∀ o, w'.cell? ⟨b, o, none⟩ = w.cell? ⟨b, o, none⟩) : AtRl w' b off d :=
  ⟨(hk _).trans h.c0, (hk _).trans h.c1, (hk _).trans h.c2, (hk _).trans h.c3⟩
theorem SeesRq.keep (h : SeesRq w B A l) (hk : ∀ b o, b < B → w'.cell? ⟨b, o, none⟩ = w.cell? ⟨b, o, none⟩) : SeesRq w' B A l := fun h0 => by
  obtain ⟨b, off, e, hb, hc⟩ := h h0
  exact ⟨b, off, e, hb, fun k hlt => (hc k hlt).keep fun o => hk b o hb⟩
theorem SeesRq.below (h : SeesRq w B A l) (hb : Below B w w') : SeesRq w' B A l := h.keep fun b o hp => hb.cell (p := ⟨b, o, none⟩) hp
theorem SeesRq.more (h : SeesRq w B A l) (hB : B ≤ B') : SeesRq w B' A l := fun h0 => by
  obtain ⟨b, off, e, hb, hc⟩ := h h0
  exact ⟨b, off, e, by omega, hc⟩
theorem SeesRq.drew (h : SeesRq w B A l) : SeesRq w.drew B A l := h.keep fun _ _ _ => rfl
theorem SeesRq.nil : SeesRq w B A [] := fun h => absurd h (by simp)
theorem SeesRs.below (h : SeesRs w B v l) (hb : Below B w w') : SeesRs w' B v l := ⟨by
  obtain ⟨A, c, rfl, h1, h2, h3, h4⟩ := h.at_
  exact ⟨A, c, rfl, h1, h2, h3.below hb, h4⟩⟩
theorem SeesRs.more (h : SeesRs w B v l) (hB : B ≤ B') : SeesRs w B' v l := ⟨by
  obtain ⟨A, c, rfl, h1, h2, h3, h4⟩ := h.at_
  exact ⟨A, c, rfl, h1, h2, h3.more hB, h4⟩⟩
theorem SeesRs.drew (h : SeesRs w B v l) : SeesRs w.drew B v l := ⟨by
  obtain ⟨A, c, rfl, h1, h2, h3, h4⟩ := h.at_
  exact ⟨A, c, rfl, h1, h2, h3.drew, h4⟩⟩
theorem SeesRs.nil : SeesRs w B (.slice none 0 0) [] := ⟨none, 0, rfl, Nat.le_refl _, Nat.zero_le _, SeesRq.nil, fun _ => ⟨rfl, rfl⟩⟩
theorem rcs_getD (l : List R4) (k : Nat) (hk : k < l.length) (j : Nat) (hj : j < 4) : (l.flatMap rc)[k * 4 + j]? = (rc (l.getD k default))[j]? := by
  induction l generalizing k with
  | nil => simp at hk
  | cons d l ih =>
    have h4 : (rc d).length = 4 := rfl
    rw [List.flatMap_cons]
    cases k with
    | zero => rw [List.getElem?_append_left (by omega)]; simp
    | succ k =>
      rw [List.getElem?_append_right (by omega), h4, show (k + 1) * 4 + j - 4 = k * 4 + j by omega, ih k (by simpa using hk)]
      simp
theorem rcs_length (l : List R4) : (l.flatMap rc).length = l.length * 4 := by
  induction l with
  | nil => rfl
  | cons d l ih => rw [List.flatMap_cons, List.length_append, ih]; simp [rc]; omega
theorem OwnsRl.atD {g n c : Nat} (h : OwnsRl w Bs (.slice (some ⟨g, 0, none⟩) n c) l) (hn : n = l.length) (k : Nat) (hk : k < l.length) : AtRl w g (k * 4) (l.getD k default) := by
  subst hn
  have e := fun j (hj : j < 4) => (World.ownsRow.cellAt h (k * 4 + j) (by omega)).trans (rcs_getD l k hk j hj)
  exact ⟨by have := e 0 (by omega); rw [Nat.add_zero] at this; exact this, e 1 (by omega), e 2 (by omega), e 3 (by omega)⟩
theorem OwnsRl.form (h : OwnsRl w Bs v l) : (v = .slice none 0 0 ∧ l.length = 0) ∨ ∃ g c, v = .slice (some ⟨g, 0, none⟩) l.length c ∧ Bs ≤ g ∧ g < w.heap.size ∧ l.length ≤ c ∧ c ≤ maxLen := by
  rcases h.2 with h1 | ⟨g, cap, cur, h1, h2, h3, h4, h5, -⟩
  · exact .inl h1
  · exact .inr ⟨g, cap, h1, h2, (Array.getElem?_eq_some_iff.1 h3).1, h4, h5⟩
theorem OwnsRl.sees (h : OwnsRl w Bs v l) : SeesRs w w.heap.size v l := ⟨by
  rcases h.form with ⟨rfl, h0⟩ | ⟨g, c, rfl, h1, h2, h3, h4⟩
  · exact ⟨none, 0, by rw [h0], by omega, by unfold maxLen; omega, fun h => absurd h (by omega), fun _ => ⟨h0, rfl⟩⟩
  · exact ⟨_, c, rfl, h3, h4, fun _ => ⟨g, 0, rfl, h2, fun k hk => by rw [Nat.zero_add]; exact OwnsRl.atD h rfl k hk⟩, fun h => by cases h⟩⟩
theorem OwnsRl.drew (h : OwnsRl w Bs v l) : OwnsRl w.drew Bs v l := h
theorem OwnsRl.nil : OwnsRl w Bs (.slice none 0 0) [] := World.ownsRow_nil _ _ _ _
theorem OwnsRl.base (h : OwnsRl w Bs v l) (hB : B ≤ Bs) : OwnsRl w B v l := by
  refine ⟨h.1, ?_⟩
  rcases h.2 with h | ⟨g, cap, cur, h1, h2, h3⟩
  · exact .inl h
  · exact .inr ⟨g, cap, cur, h1, by omega, h3⟩
theorem OwnsRl.below (h : OwnsRl w Bs v l) (hb : Below B' w w') (hB : w.heap.size ≤ B') : OwnsRl w' Bs v l :=
  World.ownsRow.kept (row := none) h ⟨hb.os, hb.tape, hb.output, hb.size, fun k hk _ => hb.block k (by omega)⟩ (by
    rcases h.2 with ⟨rfl, _⟩ | ⟨g, cap, cur, rfl, _⟩
    · exact .inl rfl
    · exact .inr (by simp [Value.ownBlock]))
theorem OwnsRl.alloc (h : OwnsRl w Bs v l) (o : Obj) : OwnsRl (w.alloc o) Bs v l := World.ownsRow.alloc h o
end

theorem info_rule : (Tryz.prog.info? 80).map (fun i => (i.zero, i.size, i.bytes)) = some (some (.agg #[.int .i64 0, .int .i64 0, .int .i64 0, .int .i64 0]), 4, 32) := by kernel_rfl
theorem SeesRs.src {w : World} {B : Nat} {u : Value} {m : List R4} (h : SeesRs w B u m) : Src w u 4 m.length (m.flatMap rc) := by
  obtain ⟨A, c, rfl, -, -, h3, h4⟩ := h.at_
  cases A with
  | none =>
    obtain ⟨h5, h6⟩ := h4 rfl
    subst h6
    have := List.length_eq_zero_iff.1 h5
    subst this
    exact .inl ⟨rfl, rfl, rfl⟩
  | some ad =>
    refine .inr ⟨ad, c, rfl, rcs_length m, fun j x hj => ?_, fun x hx => ?_⟩
    · by_cases hjm : j < m.length * 4
      · obtain ⟨b, off, he, _, hc⟩ := h3 (by omega)
        simp only [Option.some.injEq] at he
        subst he
        have h6 := hc (j / 4) (by omega)
        have e1 := rcs_getD m (j / 4) (by omega) (j % 4) (by omega)
        rw [show j / 4 * 4 + j % 4 = j by omega, hj] at e1
        have e2 : w.cell? ⟨b, off + j, none⟩ = (rc (m.getD (j / 4) default))[j % 4]? := by
          rcases (by omega : j % 4 = 0 ∨ j % 4 = 1 ∨ j % 4 = 2 ∨ j % 4 = 3) with h | h | h | h <;> rw [h]
          · rw [show off + j = off + j / 4 * 4 by omega]; exact h6.c0
          · rw [show off + j = off + j / 4 * 4 + 1 by omega]; exact h6.c1
          · rw [show off + j = off + j / 4 * 4 + 2 by omega]; exact h6.c2
          · rw [show off + j = off + j / 4 * 4 + 3 by omega]; exact h6.c3
        rw [← e1] at e2
        by_cases h1 : j = 0
        · subst h1; simpa [Addr.add] using e2
        · simpa [Addr.add, h1] using e2
      · rw [List.getElem?_eq_none (by rw [rcs_length]; omega)] at hj
        cases hj
    · obtain ⟨r, -, hr⟩ := List.mem_flatMap.1 hx
      simp only [rc, List.mem_cons, List.not_mem_nil, or_false] at hr
      rcases hr with rfl | rfl | rfl | rfl <;> rfl
theorem owns_emptyr (w : World) (e : TypeId) (he : e = 80) (B g : Nat) (hB : B ≤ w.heap.size) (hg : g = w.heap.size) : OwnsRl (w.alloc (.cells #[] e)) B (.slice (some ⟨g, 0, none⟩) 0 0) [] := by
  subst he hg
  exact World.ownsRow_made w #[] 0 hB (by unfold maxLen; omega) rfl
theorem OwnsRl.joined {w : World} {B : Nat} {v : Value} {l m : List R4} (h : w.ownsRow B 80 4 v (l.length + m.length) (l.flatMap rc ++ m.flatMap rc)) : OwnsRl w B v (l ++ m) := by
  unfold OwnsRl
  rw [List.length_append, List.flatMap_append]
  exact h
theorem SeesRs.alloc {w : World} {B : Nat} {v : Value} {l : List R4} (h : SeesRs w B v l) (o : Obj) : SeesRs (w.alloc o) B v l := ⟨by
  obtain ⟨A, c, rfl, h1, h2, h3, h4⟩ := h.at_
  refine ⟨A, c, rfl, h1, h2, fun h0 => ?_, h4⟩
  obtain ⟨b, off, e, hb, hc⟩ := h3 h0
  exact ⟨b, off, e, hb, fun k hk => ⟨Lib.cell?_alloc_some o (hc k hk).c0, Lib.cell?_alloc_some o (hc k hk).c1, Lib.cell?_alloc_some o (hc k hk).c2, Lib.cell?_alloc_some o (hc k hk).c3⟩⟩⟩
theorem rules_room {n m : Nat} (h : n + m ≤ 100000) : n + m ≤ maxLen ∧ (n + m) * 32 ≤ 140737488355328 := ⟨by unfold maxLen; omega, by omega⟩
set_option maxRecDepth 100000 in
set_option maxHeartbeats 4000000 in
/-- slices.Clone of rules. -/
theorem clone_rl (l : List R4) (v : Value) (w : World) (B : Nat) (hv : SeesRs w B v l) (h4 : l.length ≤ 1000) :
    Calls Tryz.prog 54 #[v] w fun e w' => ∃ v', e = .returned v' ∧ OwnsRl w' w.heap.size v' l ∧ Below w.heap.size w w' := by
  obtain ⟨A, c, rfl, h1, h2, h3, h4'⟩ := hv.at_
  cases A with
  | none =>
    obtain ⟨hl, rfl⟩ := h4' rfl
    have hl' := List.length_eq_zero_iff.1 hl
    subst hl'
    clear h1 h2 h3 h4 h4' hl hv
    have hq := Lib.run_eql_slice_nil (P := Tryz.prog) w 31 80 none 0 0 0 0 Tryz.underlying31
    go_enter Tryz.func54, Tryz.ntmps54
    go_wp2
    go_ret
    exact ⟨_, rfl, OwnsRl.nil, Below.refl _ _⟩
  | some a =>
    have H := Lib.hid (owns_emptyr w 80 rfl w.heap.size w.heap.size (Nat.le_refl _) rfl)
    have hs := Lib.hid ((hv.alloc (.cells #[] 80)))
    have q0 := Lib.run_eql_slice_nil (P := Tryz.prog) w 31 80 (some a) l.length c 0 0 Tryz.underlying31
    have hR := rules_room (n := 0) (m := l.length) (by omega)
    clear hv h3 h4'
    go_enter Tryz.func54, Tryz.ntmps54
    go_wp2_with (at_builtin; go_loud (refine wpList_pushC _ rfl (.tmp 5) (.tmp 6) 31 rfl w.heap.size 80 _ 4 32 info_rule rfl (by omega) Tryz.underlying31 _ 0 _ H.out rfl _ l.length _ rfl hs.out.src (by simp) hR.1 hR.2 ?_))
    intro v' w' ho he
    have ho : OwnsRl w' w.heap.size v' l := by
      unfold OwnsRl
      simpa using ho
    have hb := ((Below.refl w.heap.size w).alloc (Nat.le_refl _) (.cells #[] 80)).trans (he.toBelow (by simp) (fun j hj => by simp [Value.ownBlock] at hj; omega))
    go_wp2
    go_ret
    exact ⟨_, rfl, ho, hb⟩
end Go.Proofs.YtpdenmcacaajkaaGreat
