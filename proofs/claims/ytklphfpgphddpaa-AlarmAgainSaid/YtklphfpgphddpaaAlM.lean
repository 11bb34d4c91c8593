/- Rules, messages, and what rings: the model, and what has been said in memory. No condition. -/
import Derived.Test.YtklphfpgphddpaaStM
namespace Go.Proofs.Ytklphfpgphddpaa
open Go.RowKit

structure R4 where
  n : Int
  lo : Int
  hi : Int
  st : Int
def R4.v (r : R4) : Value := .agg #[.int .i64 r.n, .int .i64 r.lo, .int .i64 r.hi, .int .i64 r.st]
/-- Is the rule one that may be? -/
def R4.may (r : R4) : Prop := (0 ≤ r.n ∧ r.n ≤ 7) ∧ (0 ≤ r.lo ∧ r.lo ≤ 255) ∧ (r.lo ≤ r.hi ∧ r.hi ≤ 255) ∧ (0 ≤ r.st ∧ r.st ≤ 65535)
instance (r : R4) : Decidable r.may := inferInstanceAs (Decidable (_ ∧ _))
/-- Why it rings. -/
def whyM (r : R4) (d : List Int) (a : Int) (g : Bool) : Nat :=
  (if d ≠ [] ∧ d.getD 0 0 < r.lo then 1 else 0) + (if d ≠ [] ∧ r.hi < d.getD 0 0 then 2 else 0) + (if r.st < a ∨ a = -1 then 4 else 0) + (if g then 0 else 8)
theorem whyM_lt (r : R4) (d : List Int) (a : Int) (g : Bool) : whyM r d a g < 16 := by
  unfold whyM
  split <;> split <;> split <;> split <;> omega
/-- Bits, one behind the other. -/
theorem bits_why : (∀ a : Fin 1, bits BinOp.or IntKind.i64 (a.val : Nat) 1 = (a.val + 1 : Nat)) ∧ (∀ a : Fin 2, bits BinOp.or IntKind.i64 (a.val : Nat) 2 = (a.val + 2 : Nat)) ∧ (∀ a : Fin 4, bits BinOp.or IntKind.i64 (a.val : Nat) 4 = (a.val + 4 : Nat)) ∧ (∀ a : Fin 8, bits BinOp.or IntKind.i64 (a.val : Nat) 8 = (a.val + 8 : Nat)) := by decide +kernel
theorem or_16 {m n : Nat} (hm : m < 16) (hn : n < 16) : bits BinOp.or IntKind.i64 (m : Nat) (n : Nat) = ((m ||| n : Nat) : Int) := by
  have : ∀ (a b : Fin 16), bits BinOp.or IntKind.i64 (a.val : Nat) (b.val : Nat) = ((a.val ||| b.val : Nat) : Int) := by decide +kernel
  exact this ⟨m, hm⟩ ⟨n, hn⟩
theorem or16_lt {m n : Nat} (hm : m < 16) (hn : n < 16) : m ||| n < 16 := Nat.or_lt_two_pow (n := 4) hm hn

/-- But for the blocks of F all that there was is as it was; the streams too. -/
structure Kq (F : List Nat) (w w' : World) : Prop where
  os : w'.os = w.os
  tape : w'.tape = w.tape
  output : w'.output = w.output
  size : w.heap.size ≤ w'.heap.size
  block : ∀ k, k < w.heap.size → k ∉ F → w'.heap[k]? = w.heap[k]?
section
variable {F : List Nat} {w w1 w2 : World} {g B : Nat}
theorem Kq.refl (F : List Nat) (w : World) : Kq F w w := ⟨rfl, rfl, rfl, Nat.le_refl _, fun _ _ _ => rfl⟩
theorem Kq.trans (h : Kq F w w1) (k : Kq F w1 w2) : Kq F w w2 := ⟨k.os.trans h.os, k.tape.trans h.tape, k.output.trans h.output, Nat.le_trans h.size k.size, fun i hi hn => (k.block i (Nat.lt_of_lt_of_le hi h.size) hn).trans (h.block i hi hn)⟩
theorem Kq.below (h : Kq F w w1) (hB : ∀ f, f ∈ F → B ≤ f) (hw : B ≤ w.heap.size) : Below B w w1 := ⟨h.os, h.tape, h.output, h.size, fun i hi => h.block i (by omega) (fun hm => by have := hB i hm; omega)⟩
theorem kq_below (h : Below w.heap.size w w1) : Kq F w w1 := ⟨h.os, h.tape, h.output, h.size, fun i hi _ => h.block i hi⟩
theorem Only.kq (h : Only g w w1) (hg : g ∈ F) : Kq F w w1 := ⟨h.os, h.tape, h.output, h.size, fun i hi hn => h.block i hi (by intro e; cases e; exact hn hg)⟩
theorem Kq.kp (h : Kq F w w1) : Kp (g :: F) w w1 := ⟨h.size, fun k hk hn => h.block k hk (fun hm => hn (List.mem_cons_of_mem _ hm))⟩
end
/-- What all nodes have said, in memory; no bytes lie in F. -/
def PAt (t : TypeId) (F : List Nat) (W : World) (g : Nat) (s : MS) : Prop := ∃ V, Blk W g (stc V s.a s.g) t ∧ ∀ i, i < 8 → Dat (g :: F) W (V i) (s.d i) ∧ bytesL (s.d i)
section
variable {t : TypeId} {F : List Nat} {W W' : World} {g g' : Nat} {s s' : MS}
theorem PAt.lt (h : PAt t F W g s) : g < W.heap.size := by
  obtain ⟨V, hB, -⟩ := h
  exact hB.lt
theorem PAt.kq (h : PAt t F W g s) (k : Kq F W W') (hg : g ∉ F) : PAt t F W' g s := by
  obtain ⟨V, hB, hD⟩ := h
  exact ⟨V, (k.block g hB.lt hg).trans hB, fun i hi => ⟨(hD i hi).1.keep k.kp, (hD i hi).2⟩⟩
theorem PAt.below (h : PAt t F W g s) (k : Below W.heap.size W W') : PAt t F W' g s := by
  obtain ⟨V, hB, hD⟩ := h
  exact ⟨V, hB.below k hB.lt, fun i hi => ⟨(hD i hi).1.keep (kp_below k), (hD i hi).2⟩⟩
theorem PAt.cs (h : PAt t F W g s) {i : Nat} (hi : i < 8) : ∃ A c, W.cell? ⟨g, i * 3, none⟩ = some (.slice A (s.d i).length c) ∧ Dat (g :: F) W (.slice A (s.d i).length c) (s.d i) ∧ bytesL (s.d i) := by
  obtain ⟨V, hB, hD⟩ := h
  obtain ⟨h1, h2⟩ := hD i hi
  obtain ⟨A, c, e, -⟩ := h1.1.at_
  exact ⟨A, c, e ▸ hB.cell _ (stc_d _ _ _ hi), e ▸ h1, h2⟩
theorem PAt.ca (h : PAt t F W g s) {i : Nat} (hi : i < 8) : W.cell? ⟨g, i * 3 + 1, none⟩ = some (.int .i64 (s.a i)) := by
  obtain ⟨V, hB, -⟩ := h
  exact hB.cell _ (stc_a _ _ _ hi)
theorem PAt.cg (h : PAt t F W g s) {i : Nat} (hi : i < 8) : W.cell? ⟨g, i * 3 + 2, none⟩ = some (.bool (s.g i)) := by
  obtain ⟨V, hB, -⟩ := h
  exact hB.cell _ (stc_g _ _ _ hi)
theorem PAt.frozen (h : PAt t F W g s) (o : Nat) : W.frozen? ⟨g, o, none⟩ = false := by
  obtain ⟨V, hB, -⟩ := h
  exact hB.frozen _
/-- One message is said. -/
theorem PAt.say (h : PAt t F W g s) {i : Nat} (hi : i < 8) {v : Value} {l : List Int} {a : Int} {b : Bool} (hv : Dat (g :: F) W v l) (hl : bytesL l) :
    PAt t F (((W.setCell ⟨g, i * 3, none⟩ v).setCell ⟨g, i * 3 + 1, none⟩ (.int .i64 a)).setCell ⟨g, i * 3 + 2, none⟩ (.bool b)) g ⟨upd s.d i l, upd s.a i a, upd s.g i b⟩ := by
  obtain ⟨V, hB, hD⟩ := h
  have k : Kp (g :: F) W (((W.setCell ⟨g, i * 3, none⟩ v).setCell ⟨g, i * 3 + 1, none⟩ (.int .i64 a)).setCell ⟨g, i * 3 + 2, none⟩ (.bool b)) := ((((Only.refl g W).set _ _).set _ _).set _ _).kp (by simp)
  have e : (((stc V s.a s.g).setIfInBounds (i * 3) v).setIfInBounds (i * 3 + 1) (.int .i64 a)).setIfInBounds (i * 3 + 2) (.bool b) = stc (upd V i v) (upd s.a i a) (upd s.g i b) := by
    rw [set_d _ _ _ hi, set_a _ _ _ hi, set_g _ _ _ hi]
  refine ⟨upd V i v, (((hB.set _ _).set _ _).set _ _).eq e, fun j hj => ?_⟩
  simp only [upd]
  split
  · exact ⟨hv.keep k, hl⟩
  · exact ⟨(hD j hj).1.keep k, (hD j hj).2⟩
/-- Only its bytes are said. -/
theorem PAt.sayd (h : PAt t F W g s) {i : Nat} (hi : i < 8) {v : Value} {l : List Int} (hv : Dat (g :: F) W v l) (hl : bytesL l) :
    PAt t F (W.setCell ⟨g, i * 3, none⟩ v) g { s with d := upd s.d i l } := by
  obtain ⟨V, hB, hD⟩ := h
  have k : Kp (g :: F) W (W.setCell ⟨g, i * 3, none⟩ v) := ((Only.refl g W).set _ _).kp (by simp)
  refine ⟨upd V i v, (hB.set _ _).eq (set_d _ _ _ hi _), fun j hj => ?_⟩
  simp only [upd]
  split
  · exact ⟨hv.keep k, hl⟩
  · exact ⟨(hD j hj).1.keep k, (hD j hj).2⟩
end
end Go.Proofs.Ytklphfpgphddpaa
