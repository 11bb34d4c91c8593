/- The contracts of the reference's Clock: a block of two cells, a list. For limits and measures that may be. -/
import Derived.Test.YtiaidachigiajaaClMath2
namespace Go.Proofs.Ytiaidachigiajaa
open Go.RowKit
open Clk (avg)

/-- A slice's block. -/
def vblk : Value → Option Nat
  | .slice (some a) _ _ => some a.block
  | _ => none
theorem SeesI.only {W W' : World} {B g : Nat} {v : Value} {l : List Int} (h : SeesI W B v l) (k : Only g W W') (hB : B ≤ W.heap.size) (hne : vblk v ≠ some g) : SeesI W' B v l := ⟨by
  obtain ⟨A, c, rfl, h1, h2, h3, h4⟩ := h.at_
  refine ⟨A, c, rfl, h1, h2, fun h0 => ?_, h4⟩
  obtain ⟨b, off, rfl, hb, hc⟩ := h3 h0
  refine ⟨b, off, rfl, hb, fun j hj => ?_⟩
  rw [← hc j hj]
  exact World.grownBy.cell_far k ⟨b, off + j, none⟩ (by show b < _; omega) (fun e => hne (by simp only [vblk]; exact e))⟩
/-- A reference clock in memory: its list lies behind it. -/
structure RAt (W : World) (g : Nat) (m : Int) (v : Value) (l : List Int) : Prop where
  blk : Blk W g #[.int .i64 m, v] 30
  sees : SeesI W W.heap.size v l
  far : ∀ b, vblk v = some b → g < b
theorem RAt.only {W W' : World} {g g' : Nat} {m : Int} {v : Value} {l : List Int} (h : RAt W g m v l) (k : Only g' W W') (hne : g' < g) : RAt W' g m v l :=
  ⟨h.blk.only k (by omega), (h.sees.only k (Nat.le_refl _) (fun e => by have := h.far _ e; omega)).more k.size, h.far⟩
theorem RAt.below {W W' : World} {g : Nat} {m : Int} {v : Value} {l : List Int} (h : RAt W g m v l) (k : Below W.heap.size W W') : RAt W' g m v l :=
  ⟨h.blk.below k h.blk.lt, (h.sees.below k).more k.size, h.far⟩
theorem RAt.drew {W : World} {g : Nat} {m : Int} {v : Value} {l : List Int} (h : RAt W g m v l) : RAt W.drew g m v l := h.below (Below.refl _ _).drew

set_option maxRecDepth 100000 in
set_option maxHeartbeats 1000000 in
theorem rclear_cl (g : Nat) (m : Int) (v : Value) (l : List Int) (w : World) (h : RAt w g m v l) :
    Calls Try.prog 18 #[.pointer (some ⟨g, 0, none⟩)] w fun e w' => e = .returned (.tuple #[]) ∧ RAt w' g m (.slice none 0 0) [] ∧ Only g w w' := by
  have c1 := h.blk.cell 1 rfl
  have f1 := h.blk.frozen 1
  have hB := Lib.hid (h.blk.set 1 (.slice none 0 0))
  clear h
  go_enter Try.func18, Try.ntmps18
  go_wp2
  exact bodyPost_end (results_none (by rfl) _ _ _) rfl ⟨rfl, ⟨hB.out, SeesI.nil, fun b hb => by cases hb⟩, (Only.refl g w).set 1 _⟩

set_option maxRecDepth 100000 in
set_option maxHeartbeats 1000000 in
theorem rterm_cl (g : Nat) (m : Int) (v : Value) (l : List Int) (w : World) (h : RAt w g m v l) (hs : small l) (h4 : l.length ≤ 4) (hm : 0 ≤ m ∧ m ≤ 1099511627776) :
    Calls Try.prog 22 #[.pointer (some ⟨g, 0, none⟩)] w fun e w' => e = .returned (.tuple #[.int .i64 (termV m l), .bool (wiB m (avg l))]) ∧ Below w.heap.size w w' := by
  have c1 := h.blk.cell 1 rfl
  have R := Lib.hid (avg_rf l v w _ h.sees hs h4)
  have HC : Hid (∀ W, Below w.heap.size w W → W.cell? ⟨g, 0, none⟩ = some (.int .i64 m)) := Lib.hid (fun W hW => (h.below hW).blk.cell 0 rfl)
  have hbd := Clk.avg_bound (B := 1099511627776) (by decide) hs h4
  obtain ⟨A, c, rfl, -, -, -, -⟩ := h.sees.at_
  unfold termV
  have hwn : (wiB m (avg l) = true ∧ -m ≤ avg l ∧ avg l ≤ m) ∨ (wiB m (avg l) = false ∧ avg l < -m) ∨ (wiB m (avg l) = false ∧ m < avg l) := by
    by_cases h : -m ≤ avg l ∧ avg l ≤ m
    · exact .inl ⟨decide_eq_true h, h⟩
    · by_cases h' : avg l < -m
      · exact .inr (.inl ⟨decide_eq_false h, h'⟩)
      · exact .inr (.inr ⟨decide_eq_false h, by omega⟩)
  obtain ⟨m1, m2⟩ := hm
  obtain ⟨b1, b2⟩ := hbd
  generalize avg l = r at *
  generalize wiB m r = q at *
  clear h hs h4
  rcases hwn with ⟨rfl, d1, d2⟩ | ⟨rfl, d1⟩ | ⟨rfl, d1⟩
  all_goals
    go_enter Try.func22, Try.ntmps22
    go_wp2_with fail
    refine R.out.mono ?_
    rintro e w1 ⟨rfl, hb1⟩
    have c0 := HC.out w1 hb1
    go_wp2
    go_ret2
    exact ⟨rfl, hb1⟩

set_option maxRecDepth 100000 in
set_option maxHeartbeats 1000000 in
theorem rmeasure_cl (g : Nat) (m : Int) (v : Value) (l : List Int) (n : Int) (w : World) (h : RAt w g m v l) (h4 : l.length ≤ 4) :
    Calls Try.prog 20 #[.pointer (some ⟨g, 0, none⟩), .int .i64 n] w fun e w' => e = .returned (.tuple #[]) ∧ (∃ v', RAt w' g m v' (keep4 l n)) ∧ Only g w w' := by
  have HK4 : Hid (l.length = 4 → keep4 l n = (l ++ [n]).drop 1) := Lib.hid (fun h => by
    unfold keep4; rw [if_pos h, List.drop_append_of_le_length (by omega)])
  have HKn : Hid (¬ l.length = 4 → keep4 l n = l ++ [n]) := Lib.hid (fun h => by unfold keep4; rw [if_neg h])
  generalize keep4 l n = K at *
  have a1 := Lib.cell?_alloc_some (.cells #[] 3) (h.blk.cell 1 rfl)
  have hem := Lib.hid (owns_emptyi w 3 rfl w.heap.size w.heap.size (Nat.le_refl _) rfl)
  have hse := Lib.hid (h.sees.alloc (.cells #[] 3))
  have hgl := h.blk.lt
  have hbA := Lib.hid ((Below.refl w.heap.size w).alloc (Nat.le_refl _) (.cells #[] 3))
  have HB : Hid (∀ W, Below w.heap.size w W → Blk W g #[.int .i64 m, v] 30) := Lib.hid (fun W hW => h.blk.below hW h.blk.lt)
  clear h
  go_enter Try.func20, Try.ntmps20
  go_wp2_with (at_builtin; go_loud (refine wpList_pushI _ rfl (.tmp 5) (.tmp 9) 22 rfl w.heap.size infoInt Try.underlying22 _ [] hem.out rfl _ v l rfl hse.out (by simp) (by simp; omega) ?_))
  intro v1 w1 ho1 hx1
  have hb1 := hbA.out.trans (hx1.toBelow (B := w.heap.size) (by simp) (fun j hj => by simp [Value.ownBlock] at hj; omega))
  have ho1 : OwnsI w1 w.heap.size v1 l := ho1
  clear a1 hem hse hbA hx1
  have hsX := Lib.hid (sees_liti w1 3 #[.int .i64 n] [n] rfl (w1.heap.size + 1) (by omega) (by simp [maxLen]) _ 1 1 rfl rfl rfl)
  go_wp2_with (at_builtin; go_loud (refine wpList_pushI _ rfl (.tmp 10) (.tmp 12) 22 rfl w.heap.size infoInt Try.underlying22 _ l (ho1.alloc _) rfl _ _ [n] rfl hsX.out (by have := hb1.size; simp; omega) (by simp; omega) ?_))
  intro v2 w2 ho2 hx2
  have hb2 := (hb1.alloc hb1.size (.cells #[.int .i64 n] 3)).trans (hx2.toBelow (B := w.heap.size) (by have := hb1.size; simp; omega) (fun j hj => (ho1.lt j hj).1))
  have hB2 := HB.out w2 hb2
  have d1 := hB2.cell 1 rfl
  have e1 := hB2.frozen 1
  obtain ⟨b, c, rfl, k1, k2, k3, k4⟩ := ho2.form0 (by simp)
  have hl5 : (l ++ [n]).length = l.length + 1 := by simp
  have hown2 := Lib.hid ho2
  have hs2 := Lib.hid (ho2.sees.only (g := g) ((Only.refl g w2).set 1 (.slice (some ⟨b, 0, none⟩) (l ++ [n]).length c)) (Nat.le_refl _) (by simp [vblk]; omega))
  have hB3 := Lib.hid (hB2.set 1 (.slice (some ⟨b, 0, none⟩) (l ++ [n]).length c))
  rw [hl5] at hs2 hB3 k1 ⊢
  have H5 := Lib.hid hl5
  clear hl5 hown2 ho2 ho1 hx2 hsX
  by_cases hl : l.length = 4
  · have q1 : decide ((4 : Int) < ((l.length : Nat) : Int) + 1) = true := decide_eq_true (by omega)
    have q2 : ¬ c = 1 := by omega
    have hs4 := Lib.hid (hs2.out.sub H5.out.symm 1 (l.length + 1) (by omega) (Nat.le_refl _) (by omega) (o := 1) (by omega) (m := l.length + 1 - 1) rfl (c' := c - 1) rfl)
    have hs5 := Lib.hid (hs4.out.only (g := g) ((Only.refl g _).set 1 (.slice (some ⟨b, 1, none⟩) (l.length + 1 - 1) (c - 1))) (by simp [World.setCell]) (by simp [vblk]; omega))
    have hB5 := Lib.hid (hB3.out.set 1 (.slice (some ⟨b, 1, none⟩) (l.length + 1 - 1) (c - 1)))
    have HL := Lib.hid hl
    clear hl hs4
    go_wp2
    refine bodyPost_end (results_none (by rfl) _ _ _) rfl ⟨rfl, ⟨.slice (some ⟨b, 1, none⟩) (l.length + 1 - 1) (c - 1), ?_⟩, ((only_of_below g hb2).trans ((Only.refl g w2).set 1 _)).set 1 _⟩
    rw [HK4.out HL.out]
    have h1 := hs5.out
    rw [List.take_of_length_le (by simp)] at h1
    exact ⟨hB5.out, h1.more (by simp [World.setCell]), fun j hj => by simp [vblk] at hj; omega⟩
  · have q1 : decide ((4 : Int) < ((l.length : Nat) : Int) + 1) = false := decide_eq_false (by omega)
    have hKn := Lib.hid (HKn.out hl)
    clear hl
    go_wp2
    refine bodyPost_end (results_none (by rfl) _ _ _) rfl ⟨rfl, ⟨.slice (some ⟨b, 0, none⟩) (l.length + 1) c, ?_⟩, (only_of_below g hb2).trans ((Only.refl g w2).set 1 _)⟩
    rw [hKn.out]
    exact ⟨hB3.out, hs2.out.more (by simp [World.setCell]), fun j hj => by simp [vblk] at hj; omega⟩
end Go.Proofs.Ytiaidachigiajaa
