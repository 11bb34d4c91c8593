/- Texts WdB, SrX, WdD, WdE in one. For what each says in front of its theorems. -/
import Derived.Test.YtjoioojckekfhaaGreatVB46
import Derived.Test.YtjoioojckekfhaaGreatVB47
import Derived.Test.YtjoioojckekfhaaGreatVB48
/-! ### WdB -/
namespace Go.Proofs.YtjoioojckekfhaaGreat
open Go.RowKit

section
variable {B : Nat} {P : List Nat} {N : Nat} {q : WP} {W : World} {x : Nat} {u : WM}
set_option maxRecDepth 100000 in
set_option maxHeartbeats 1000000 in
theorem wnodes (h : WIn B P N q W x u) : Calls Tryz.prog 23 #[.pointer (some ⟨x, 0, none⟩)] W fun e w' => e = .returned (.int .i64 (N : Nat)) ∧ w' = W := by
  have x0 := h.blk.cell 0 (x := .slice (some ⟨q.nb, 0, none⟩) N q.cap) rfl
  go_enter Tryz.func23, Tryz.ntmps23
  go_wp2
  go_ret
  exact ⟨rfl, rfl⟩
set_option maxRecDepth 100000 in
set_option maxHeartbeats 1000000 in
theorem wslots (h : WIn B P N q W x u) : Calls Tryz.prog 26 #[.pointer (some ⟨x, 0, none⟩)] W fun e w' => e = .returned (.int .i64 (u.sl : Nat)) ∧ w' = W := by
  have x2 := h.blk.cell 2 (x := .int .i64 (u.sl : Nat)) rfl
  go_enter Tryz.func26, Tryz.ntmps26
  go_wp2
  go_ret
  exact ⟨rfl, rfl⟩
set_option maxRecDepth 100000 in
set_option maxHeartbeats 1000000 in
theorem wnodes_nil (W : World) : Calls Tryz.prog 23 #[.pointer none] W fun e w' => e = .returned (.int .i64 0) ∧ w' = W := by
  go_enter Tryz.func23, Tryz.ntmps23
  go_wp2
  go_ret
  exact ⟨rfl, rfl⟩
set_option maxRecDepth 100000 in
set_option maxHeartbeats 1000000 in
theorem wslots_nil (W : World) : Calls Tryz.prog 26 #[.pointer none] W fun e w' => e = .returned (.int .i64 0) ∧ w' = W := by
  go_enter Tryz.func26, Tryz.ntmps26
  go_wp2
  go_ret
  exact ⟨rfl, rfl⟩
set_option maxRecDepth 100000 in
set_option maxHeartbeats 1000000 in
theorem wnode_in (h : WIn B P N q W x u) (i : Nat) (hi : i < N) : Calls Tryz.prog 37 #[.pointer (some ⟨x, 0, none⟩), .int .i64 (i : Nat)] W fun e w' => e = .returned (.pointer (some ⟨q.gp i, 0, none⟩)) ∧ w' = W := by
  have x0 := h.blk.cell 0 (x := .slice (some ⟨q.nb, 0, none⟩) N q.cap) rfl
  have p0 := h.ptr i hi
  have hn := Lib.hid (wnodes h)
  have q1 : decide (((i : Nat) : Int) < 0) = false := decide_eq_false (by omega)
  have q2 : decide (((N : Nat) : Int) ≤ ((i : Nat) : Int)) = false := decide_eq_false (by omega)
  clear h
  go_enter Tryz.func37, Tryz.ntmps37
  go_wp2_with fail
  refine hn.out.mono ?_
  rintro _ _ ⟨rfl, rfl⟩
  go_wp2
  go_ret
  exact ⟨rfl, rfl⟩
set_option maxRecDepth 100000 in
set_option maxHeartbeats 1000000 in
theorem wnode_out (h : WIn B P N q W x u) (i : Int) (hi : i < 0 ∨ (N : Nat) ≤ i) : Calls Tryz.prog 37 #[.pointer (some ⟨x, 0, none⟩), .int .i64 i] W fun e w' => e = .returned (.pointer none) ∧ w' = W := by
  have hn := Lib.hid (wnodes h)
  clear h
  by_cases h0 : i < 0
  · have q1 : decide (i < 0) = true := decide_eq_true h0
    go_enter Tryz.func37, Tryz.ntmps37
    go_wp2
    go_ret
    exact ⟨rfl, rfl⟩
  · have q1 : decide (i < 0) = false := decide_eq_false h0
    have q2 : decide (((N : Nat) : Int) ≤ i) = true := decide_eq_true (by omega)
    go_enter Tryz.func37, Tryz.ntmps37
    go_wp2_with fail
    refine hn.out.mono ?_
    rintro _ _ ⟨rfl, rfl⟩
    go_wp2
    go_ret
    exact ⟨rfl, rfl⟩
set_option maxRecDepth 100000 in
set_option maxHeartbeats 1000000 in
theorem wnode_nil (i : Int) (W : World) : Calls Tryz.prog 37 #[.pointer none, .int .i64 i] W fun e w' => e = .returned (.pointer none) ∧ w' = W := by
  have hn := Lib.hid (wnodes_nil W)
  by_cases h0 : i < 0
  · have q1 : decide (i < 0) = true := decide_eq_true h0
    go_enter Tryz.func37, Tryz.ntmps37
    go_wp2
    go_ret
    exact ⟨rfl, rfl⟩
  · have q1 : decide (i < 0) = false := decide_eq_false h0
    have q2 : decide ((0 : Int) ≤ i) = true := decide_eq_true (by omega)
    go_enter Tryz.func37, Tryz.ntmps37
    go_wp2_with fail
    refine hn.out.mono ?_
    rintro _ _ ⟨rfl, rfl⟩
    go_wp2
    go_ret
    exact ⟨rfl, rfl⟩
set_option maxRecDepth 100000 in
set_option maxHeartbeats 1000000 in
theorem wstate_in (h : WIn B P N q W x u) (i : Nat) (hi : i < N) : Calls Tryz.prog 17 #[.pointer (some ⟨x, 0, none⟩), .int .i64 (i : Nat)] W fun e w' => e = .returned (.int .i64 ((u.ms i).st : Nat)) ∧ Below W.heap.size W w' := by
  have hn := Lib.hid (wnode_in h i hi)
  have hs := Lib.hid (nodeApi.state (h.nd i hi))
  clear h
  go_enter Tryz.func17, Tryz.ntmps17
  go_wp2_with fail
  refine hn.out.mono ?_
  rintro _ _ ⟨rfl, rfl⟩
  go_wp2_with fail
  refine hs.out.mono ?_
  rintro _ w1 ⟨rfl, hb⟩
  go_wp2_with fail
  go_ret
  exact ⟨rfl, hb⟩
set_option maxRecDepth 100000 in
set_option maxHeartbeats 1000000 in
theorem wstate_out (p : Option Addr) (i : Int) (W : World) (hn : Calls Tryz.prog 37 #[.pointer p, .int .i64 i] W fun e w' => e = .returned (.pointer none) ∧ w' = W) : Calls Tryz.prog 17 #[.pointer p, .int .i64 i] W fun e w' => e = .returned (.int .i64 0) ∧ Below W.heap.size W w' := by
  have hn := Lib.hid hn
  have hs := Lib.hid (nstate_nil W)
  go_enter Tryz.func17, Tryz.ntmps17
  go_wp2_with fail
  refine hn.out.mono ?_
  rintro _ _ ⟨rfl, rfl⟩
  go_wp2_with fail
  refine hs.out.mono ?_
  rintro _ w1 ⟨rfl, hb⟩
  go_wp2_with fail
  go_ret
  exact ⟨rfl, hb ▸ Below.refl _ _⟩
set_option maxRecDepth 100000 in
set_option maxHeartbeats 1000000 in
theorem wview_core (p np : Option Addr) (i a b c : Int) (W : World) (hn : ∀ z, Calls Tryz.prog 37 #[.pointer p, .int .i64 i] (W.alloc z) fun e w' => e = .returned (.pointer np) ∧ w' = W.alloc z) (hs : ∀ z, Calls Tryz.prog 43 #[.pointer np] (W.alloc z) fun e w' => e = .returned (.agg #[.int .i64 a, .int .i64 b, .int .i64 c]) ∧ Below (W.alloc z).heap.size (W.alloc z) w') :
    Calls Tryz.prog 18 #[.pointer p, .int .i64 i] W fun e w' => e = .returned (.agg #[.int .i64 a, .int .i64 b, .int .i64 c]) ∧ Below W.heap.size W w' := by
  have hX := Blk.new W W.heap.size rfl #[.int .i64 0, .int .i64 0, .int .i64 0] 42
  have hb0 := (Below.refl W.heap.size W).alloc (Nat.le_refl _) (.cells #[.int .i64 0, .int .i64 0, .int .i64 0] 42)
  have hn := Lib.hid (hn (.cells #[.int .i64 0, .int .i64 0, .int .i64 0] 42))
  have hs := Lib.hid (hs (.cells #[.int .i64 0, .int .i64 0, .int .i64 0] 42))
  go_enter Tryz.func18, Tryz.ntmps18
  go_wp2_with fail
  refine hn.out.mono ?_
  rintro _ _ ⟨rfl, rfl⟩
  go_wp2_with fail
  refine hs.out.mono ?_
  rintro _ w3 ⟨rfl, hb⟩
  have hX := hX.below hb (by simp)
  have x0 := hX.cell 0 (x := .int .i64 0) rfl
  have x1 := hX.cell 1 (x := .int .i64 0) rfl
  have x2 := hX.cell 2 (x := .int .i64 0) rfl
  have f0 := hX.frozen 0
  have f1 := hX.frozen 1
  have f2 := hX.frozen 2
  have HB := Lib.hid ((((hb0.trans (hb.mono (by simp))).setCell (p := ⟨W.heap.size, 0, none⟩) (by simp) (.int .i64 a)).setCell (p := ⟨W.heap.size, 1, none⟩) (by simp) (.int .i64 b)).setCell (p := ⟨W.heap.size, 2, none⟩) (by simp) (.int .i64 c))
  clear hX hb hb0 hn hs
  go_wp2
  refine bodyPost_ret (v := .agg #[.int .i64 a, .int .i64 b, .int .i64 c]) ?_ rfl ?_
  · rw [results_cell rfl]
    go_simp
  · exact ⟨rfl, HB.out⟩
theorem wview_in (h : WIn B P N q W x u) (i : Nat) (hi : i < N) : Calls Tryz.prog 18 #[.pointer (some ⟨x, 0, none⟩), .int .i64 (i : Nat)] W fun e w' => e = .returned (csV (u.ms i).rd (u.ms i).sl (u.ms i).ty.m) ∧ Below W.heap.size W w' :=
  wview_core _ _ _ _ _ _ W (fun z => wnode_in (h.below ((Below.refl _ _).alloc (Nat.le_refl _) z)) i hi) (fun z => nodeApi.view ((h.below ((Below.refl _ _).alloc (Nat.le_refl _) z)).nd i hi))
theorem wview_out (p : Option Addr) (i : Int) (W : World) (hn : ∀ z, Calls Tryz.prog 37 #[.pointer p, .int .i64 i] (W.alloc z) fun e w' => e = .returned (.pointer none) ∧ w' = W.alloc z) : Calls Tryz.prog 18 #[.pointer p, .int .i64 i] W fun e w' => e = .returned (.agg #[.int .i64 0, .int .i64 0, .int .i64 0]) ∧ Below W.heap.size W w' :=
  wview_core _ _ _ _ _ _ W hn (fun _ => nview_nil _)
set_option maxRecDepth 100000 in
set_option maxHeartbeats 1000000 in
theorem wclock_in (h : WIn B P N q W x u) (i : Nat) (hi : i < N) : Calls Tryz.prog 24 #[.pointer (some ⟨x, 0, none⟩), .int .i64 (i : Nat)] W fun e w' => e = .returned (.int .i64 (u.ms i).tm) ∧ Below W.heap.size W w' := by
  have hn := Lib.hid (wnode_in h i hi)
  have hs := Lib.hid (nodeApi.clock (h.nd i hi))
  clear h
  go_enter Tryz.func24, Tryz.ntmps24
  go_wp2_with fail
  refine hn.out.mono ?_
  rintro _ _ ⟨rfl, rfl⟩
  go_wp2_with fail
  refine hs.out.mono ?_
  rintro _ w1 ⟨rfl, hb⟩
  go_wp2_with fail
  go_ret
  exact ⟨rfl, hb⟩
set_option maxRecDepth 100000 in
set_option maxHeartbeats 1000000 in
theorem wclock_out (p : Option Addr) (i : Int) (W : World) (hn : Calls Tryz.prog 37 #[.pointer p, .int .i64 i] W fun e w' => e = .returned (.pointer none) ∧ w' = W) : Calls Tryz.prog 24 #[.pointer p, .int .i64 i] W fun e w' => e = .returned (.int .i64 0) ∧ Below W.heap.size W w' := by
  have hn := Lib.hid hn
  have hs := Lib.hid (nclock_nil W)
  go_enter Tryz.func24, Tryz.ntmps24
  go_wp2_with fail
  refine hn.out.mono ?_
  rintro _ _ ⟨rfl, rfl⟩
  go_wp2_with fail
  refine hs.out.mono ?_
  rintro _ w1 ⟨rfl, hb⟩
  go_wp2_with fail
  go_ret
  exact ⟨rfl, hb ▸ Below.refl _ _⟩
set_option maxRecDepth 100000 in
set_option maxHeartbeats 1000000 in
theorem wrings_in (h : WIn B P N q W x u) (i : Nat) (hi : i < N) (n : Int) : Calls Tryz.prog 25 #[.pointer (some ⟨x, 0, none⟩), .int .i64 (i : Nat), .int .i64 n] W fun e w' => e = .returned (.int .i64 ((if isR (u.ms i).al n then (u.ms i).ar n.toNat else 0 : Nat) : Int)) ∧ Below W.heap.size W w' := by
  have hn := Lib.hid (wnode_in h i hi)
  have hs := Lib.hid (nodeMore.rings n (h.nd i hi))
  clear h
  generalize (if isR (u.ms i).al n then (u.ms i).ar n.toNat else 0 : Nat) = R at *
  go_enter Tryz.func25, Tryz.ntmps25
  go_wp2_with fail
  refine hn.out.mono ?_
  rintro _ _ ⟨rfl, rfl⟩
  go_wp2_with fail
  refine hs.out.mono ?_
  rintro _ w1 ⟨rfl, hb⟩
  go_wp2_with fail
  go_ret
  exact ⟨rfl, hb⟩
set_option maxRecDepth 100000 in
set_option maxHeartbeats 1000000 in
theorem wrings_out (p : Option Addr) (i : Int) (n : Int) (W : World) (hn : Calls Tryz.prog 37 #[.pointer p, .int .i64 i] W fun e w' => e = .returned (.pointer none) ∧ w' = W) : Calls Tryz.prog 25 #[.pointer p, .int .i64 i, .int .i64 n] W fun e w' => e = .returned (.int .i64 0) ∧ Below W.heap.size W w' := by
  have hn := Lib.hid hn
  have hs := Lib.hid (nrings_nil n W)
  go_enter Tryz.func25, Tryz.ntmps25
  go_wp2_with fail
  refine hn.out.mono ?_
  rintro _ _ ⟨rfl, rfl⟩
  go_wp2_with fail
  refine hs.out.mono ?_
  rintro _ w1 ⟨rfl, hb⟩
  go_wp2_with fail
  go_ret
  exact ⟨rfl, hb ▸ Below.refl _ _⟩
set_option maxRecDepth 100000 in
set_option maxHeartbeats 1000000 in
theorem wread_out (p : Option Addr) (i n : Int) (W : World) (hn : ∀ z, Calls Tryz.prog 37 #[.pointer p, .int .i64 i] (W.alloc z) fun e w' => e = .returned (.pointer none) ∧ w' = W.alloc z) :
    Calls Tryz.prog 21 #[.pointer p, .int .i64 i, .int .i64 n] W fun e w' => ∃ A c, e = .returned (.agg #[.slice A 0 c, .int .i64 (-1), .bool false]) ∧ SeesL w' w'.heap.size (.slice A 0 c) [] ∧ Below W.heap.size W w' := by
  have hX := Blk.new W W.heap.size rfl #[.slice none 0 0, .int .i64 0, .bool false] 49
  have hb0 := (Below.refl W.heap.size W).alloc (Nat.le_refl _) (.cells #[.slice none 0 0, .int .i64 0, .bool false] 49)
  have hn := Lib.hid (hn (.cells #[.slice none 0 0, .int .i64 0, .bool false] 49))
  have hs := Lib.hid (nread_nil n (W.alloc (.cells #[.slice none 0 0, .int .i64 0, .bool false] 49)))
  go_enter Tryz.func21, Tryz.ntmps21
  go_wp2_with fail
  refine hn.out.mono ?_
  rintro _ _ ⟨rfl, rfl⟩
  go_wp2_with fail
  refine hs.out.mono ?_
  rintro _ w3 ⟨v, rfl, hv, hb⟩
  obtain ⟨A, c, rfl, g1, g2, -, g4⟩ := hv.at_
  have hX := hX.below hb (by simp)
  have x0 := hX.cell 0 (x := .slice none 0 0) rfl
  have x1 := hX.cell 1 (x := .int .i64 0) rfl
  have x2 := hX.cell 2 (x := .bool false) rfl
  have f0 := hX.frozen 0
  have f1 := hX.frozen 1
  have f2 := hX.frozen 2
  have HB := Lib.hid ((((hb0.trans (hb.mono (by simp))).setCell (p := ⟨W.heap.size, 0, none⟩) (by simp) (.slice A 0 c)).setCell (p := ⟨W.heap.size, 1, none⟩) (by simp) (.int .i64 (-1))).setCell (p := ⟨W.heap.size, 2, none⟩) (by simp) (.bool false))
  have HV : Hid (∀ w', SeesL w' w'.heap.size (.slice A 0 c) []) := Lib.hid fun w' => ⟨A, c, rfl, g1, g2, fun h0 => absurd h0 (by simp), g4⟩
  clear hX hb hb0 hn hs hv g1 g2 g4
  go_wp2
  refine bodyPost_ret (v := .agg #[.slice A 0 c, .int .i64 (-1), .bool false]) ?_ rfl ?_
  · rw [results_cell rfl]
    go_simp
  · exact ⟨A, c, rfl, HV.out _, HB.out⟩
end
end Go.Proofs.YtjoioojckekfhaaGreat

/-! ### SrX -/
namespace Go.Proofs.YtjoioojckekfhaaGreat
open Go.RowKit

def sl8 (A : Nat → Option Addr) (c : Nat → Nat) (b : Nat → List Int) : Array Value := #[.slice (A 0) (b 0).length (c 0), .slice (A 1) (b 1).length (c 1), .slice (A 2) (b 2).length (c 2), .slice (A 3) (b 3).length (c 3), .slice (A 4) (b 4).length (c 4), .slice (A 5) (b 5).length (c 5), .slice (A 6) (b 6).length (c 6), .slice (A 7) (b 7).length (c 7)]
def put8 {α : Type} (g : Nat → α) (k : Nat) (x : α) (i : Nat) : α := if i = k then x else g i
theorem sl8_get (A : Nat → Option Addr) (c : Nat → Nat) (b : Nat → List Int) (k : Nat) (hk : k < 8) : (sl8 A c b)[k]? = some (.slice (A k) (b k).length (c k)) := by
  rcases (by omega : k = 0 ∨ k = 1 ∨ k = 2 ∨ k = 3 ∨ k = 4 ∨ k = 5 ∨ k = 6 ∨ k = 7) with rfl | rfl | rfl | rfl | rfl | rfl | rfl | rfl <;> rfl
theorem sl8_set (A : Nat → Option Addr) (c : Nat → Nat) (b : Nat → List Int) (k : Nat) (hk : k < 8) (A' : Option Addr) (c' : Nat) (l : List Int) : (sl8 A c b).setIfInBounds k (.slice A' l.length c') = sl8 (put8 A k A') (put8 c k c') (put8 b k l) := by
  rcases (by omega : k = 0 ∨ k = 1 ∨ k = 2 ∨ k = 3 ∨ k = 4 ∨ k = 5 ∨ k = 6 ∨ k = 7) with rfl | rfl | rfl | rfl | rfl | rfl | rfl | rfl <;> simp [sl8, put8]
theorem HAt.same {W W' : World} {b : Nat} {f : Nat → Hd} (h : HAt W b f) (e : W'.heap[b]? = W.heap[b]?) : HAt W' b f := fun j v hj => by
  rw [← h j v hj]
  simp only [World.cell?, e]
end Go.Proofs.YtjoioojckekfhaaGreat

/-! ### WdD -/
namespace Go.Proofs.YtjoioojckekfhaaGreat
open Go.RowKit

/-- Behind k nodes' Send. -/
def WM.sent1 (u : WM) (k : Nat) : WM := { u with ms := fun i => if i < k then (u.ms i).sendS else u.ms i }
def WM.bsK (u : WM) (k i : Nat) : List Int := if i < k then (u.ms i).sent else []
def WM.atK (u : WM) (k i : Nat) : Int := if i < k then (u.ms i).sendS.tm else 0
theorem WM.alike {a b : WM} (h1 : ∀ i, a.ms i = b.ms i) (h2 : a.s = b.s) (h3 : a.sl = b.sl) : a = b := by
  obtain ⟨m, s, l⟩ := a
  obtain ⟨m', s', l'⟩ := b
  obtain rfl : m = m' := funext h1
  obtain rfl : s = s' := h2
  obtain rfl : l = l' := h3
  rfl
theorem WM.sent1_0 (u : WM) : u.sent1 0 = u := by unfold WM.sent1; simp
theorem WM.sent1_at (u : WM) (k : Nat) : (u.sent1 k).ms k = u.ms k := by unfold WM.sent1; simp
theorem WM.sent1_step (u : WM) (k : Nat) : ({ u.sent1 k with ms := upd' (u.sent1 k).ms k (u.ms k).sendS } : WM) = u.sent1 (k + 1) := by
  refine WM.alike (fun i => ?_) rfl rfl
  show upd' (fun i => if i < k then (u.ms i).sendS else u.ms i) k (u.ms k).sendS i = if i < k + 1 then (u.ms i).sendS else u.ms i
  unfold upd'
  by_cases e : i = k
  · subst e; simp
  · rw [if_neg e]
    show (if i < k then (u.ms i).sendS else u.ms i) = if i < k + 1 then (u.ms i).sendS else u.ms i
    by_cases h : i < k
    · rw [if_pos h, if_pos (by omega)]
    · rw [if_neg h, if_neg (by omega)]
theorem WM.bsK_step (u : WM) (k : Nat) : put8 (u.bsK k) k (u.ms k).sent = u.bsK (k + 1) := by
  funext i
  unfold put8 WM.bsK
  by_cases e : i = k
  · subst e; simp
  · rw [if_neg e]
    by_cases h : i < k
    · rw [if_pos h, if_pos (by omega)]
    · rw [if_neg h, if_neg (by omega)]
theorem WM.atK_step (u : WM) (k : Nat) (hk : k < 8) : (i8 (u.atK k)).setIfInBounds k (.int .i64 (u.ms k).sendS.tm) = i8 (u.atK (k + 1)) := by
  have e : ∀ i, u.atK (k + 1) i = if i = k then (u.ms k).sendS.tm else u.atK k i := fun i => by
    unfold WM.atK
    by_cases e : i = k
    · subst e; simp
    · rw [if_neg e]
      by_cases h : i < k
      · rw [if_pos h, if_pos (by omega)]
      · rw [if_neg h, if_neg (by omega)]
  rw [show u.atK (k + 1) = fun i => if i = k then (u.ms k).sendS.tm else u.atK k i from funext e]
  rcases (by omega : k = 0 ∨ k = 1 ∨ k = 2 ∨ k = 3 ∨ k = 4 ∨ k = 5 ∨ k = 6 ∨ k = 7) with rfl | rfl | rfl | rfl | rfl | rfl | rfl | rfl <;> simp [i8]
/-- Behind k nodes' Take. -/
def WM.took (u : WM) (N k : Nat) : WM := ⟨fun i => if i < k then (u.ms i).sendS.take (u.hear N i) else (u.sent1 N).ms i, u.s.ended (u.heard N) (u.when_ N), u.sl⟩
theorem WM.took_0 (u : WM) (N : Nat) : u.took N 0 = ⟨(u.sent1 N).ms, u.s.ended (u.heard N) (u.when_ N), u.sl⟩ := by unfold WM.took; simp
theorem WM.took_at (u : WM) {N k : Nat} (hk : k < N) : (u.took N k).ms k = (u.ms k).sendS := by unfold WM.took WM.sent1; simp [hk]
theorem WM.took_step (u : WM) (N k : Nat) : ({ u.took N k with ms := upd' (u.took N k).ms k ((u.ms k).sendS.take (u.hear N k)) } : WM) = u.took N (k + 1) := by
  refine WM.alike (fun i => ?_) rfl rfl
  show upd' (fun i => if i < k then (u.ms i).sendS.take (u.hear N i) else (u.sent1 N).ms i) k ((u.ms k).sendS.take (u.hear N k)) i = if i < k + 1 then (u.ms i).sendS.take (u.hear N i) else (u.sent1 N).ms i
  unfold upd'
  by_cases e : i = k
  · subst e; simp
  · rw [if_neg e]
    show (if i < k then (u.ms i).sendS.take (u.hear N i) else (u.sent1 N).ms i) = if i < k + 1 then (u.ms i).sendS.take (u.hear N i) else (u.sent1 N).ms i
    by_cases h : i < k
    · rw [if_pos h, if_pos (by omega)]
    · rw [if_neg h, if_neg (by omega)]
theorem WM.took_end (u : WM) (N : Nat) : ({ u.took N N with sl := u.sl + 1 } : WM) = u.slot N := by
  refine WM.alike (fun i => ?_) rfl rfl
  show (if i < N then (u.ms i).sendS.take (u.hear N i) else if i < N then (u.ms i).sendS else u.ms i) = if i < N then (u.ms i).sendS.take (u.hear N i) else u.ms i
  by_cases h : i < N
  · simp [h]
  · simp [h]
theorem WM.bsK_end (u : WM) (N : Nat) : u.bsK N = u.bs N := rfl
theorem WM.atK_end (u : WM) (N : Nat) : u.atK N = u.at_ N := rfl
/-- What the star tells of a slot. -/
theorem hear_is {W : World} {Bs N i : Nat} {u : WM} {h : Hd} (ok : WOk N u) (hb : ∀ j, j < N → bytesL (u.bs N j) ∧ (u.bs N j).length ≤ 16) (hi : i < N) (H : Hears W Bs (u.sd N) (hn (u.sd N) (prV false (u.who N))) (hq (u.sd N) (u.who N)) (hq (u.sd N) (u.who N)) (prV false (u.who N)) (u.at_ N) i h) :
    h.A = (u.hear N i).a ∧ h.B = (u.hear N i).b ∧ OwnsL W Bs h.X (u.hear N i).x ∧ OwnsL W Bs h.Y (u.hear N i).y ∧ h.o = (u.hear N i).o := by
  unfold WM.sd at H
  rw [show prV false (u.who N) = u.who N from rfl] at H
  obtain ⟨h1, h2, h3, h4⟩ := H.is hi
  have h5 := H.o
  unfold WM.hear WM.heard WM.when_
  rcases WM.who_range ok with e | ⟨j, e, hj, h0⟩
  · rw [e] at h1 h2 h3 h4 h5 ⊢
    rw [show hn (m0 N (u.bs N) (u.at_ N)) (-1) = 0 from rfl] at h1 h2 h3 h4
    rw [tk_none] at h1 h2
    rw [tl_none] at h3 h4
    rw [if_neg (by omega)] at h5
    simp only [show ((-1 : Int) < 0) from by omega, if_true]
    exact ⟨h1, h2, h3, h4, h5⟩
  · rw [e] at h1 h2 h3 h4 h5 ⊢
    obtain ⟨b1, b2⟩ := hb j hj
    rw [hn_m0 N _ _ j hj, hq_m0 N _ _ j hj] at h1 h2 h3 h4
    rw [tk_rq _ h0] at h1 h2
    rw [tl_rq _ b1 (by omega)] at h3 h4
    rw [if_pos ⟨by rw [m0_length]; exact hi, by omega⟩, whenV_m0 N _ _ j hj] at h5
    simp only [show ¬ (((j : Nat) : Int) < 0) from by omega, if_false, Int.toNat_natCast]
    exact ⟨h1, h2, h3, h4, h5⟩
theorem ended_is {N : Nat} {u : WM} (ok : WOk N u) (hb : ∀ j, j < N → bytesL (u.bs N j) ∧ (u.bs N j).length ≤ 16) :
    tl (hn (u.sd N) (prV false (u.who N))) (hq (u.sd N) (u.who N)) = u.heard N ∧ whenV (u.sd N) (prV false (u.who N)) = u.when_ N := by
  rw [show prV false (u.who N) = u.who N from rfl]
  unfold WM.sd WM.heard WM.when_
  rcases WM.who_range ok with e | ⟨j, e, hj, h0⟩
  · rw [e]
    simp only [show ((-1 : Int) < 0) from by omega, if_true]
    exact ⟨rfl, rfl⟩
  · rw [e]
    obtain ⟨b1, b2⟩ := hb j hj
    simp only [show ¬ (((j : Nat) : Int) < 0) from by omega, if_false, Int.toNat_natCast]
    rw [hn_m0 N _ _ j hj, hq_m0 N _ _ j hj, tl_rq _ b1 (by omega), whenV_m0 N _ _ j hj]
    exact ⟨rfl, rfl⟩
end Go.Proofs.YtjoioojckekfhaaGreat

/-! ### WdE -/
namespace Go.Proofs.YtjoioojckekfhaaGreat
open Go.RowKit

theorem Eff.bw {F F' : List Nat} {B : Nat} {P : List Nat} {w w' : World} (e : Eff F F' w w') (hF : ∀ f, f ∈ F → B ≤ f ∧ f ∉ P) (hB : B ≤ w.heap.size) (hP : ∀ p, p ∈ P → p < w.heap.size) : Bw B P w w' :=
  ⟨e.1.below (fun f hf => (hF f hf).1) hB, fun p hp => e.1.block p (hP p hp) fun hm => (hF p hm).2 hp⟩
theorem Bw.trans {B : Nat} {P : List Nat} {a b c : World} (h : Bw B P a b) (k : Bw B P b c) : Bw B P a c := ⟨h.b.trans k.b, fun p hp => (k.k p hp).trans (h.k p hp)⟩
theorem Bw.less {B : Nat} {P P' : List Nat} {a b : World} (h : Bw B P a b) (hP : ∀ p, p ∈ P' → p ∈ P) : Bw B P' a b := ⟨h.b, fun p hp => h.k p (hP p hp)⟩
theorem Bw.ofOnly {B p : Nat} {P : List Nat} {a b : World} (o : Only p a b) (hB : B ≤ p) (hs : p < a.heap.size) (hP : ∀ r, r ∈ P → r < a.heap.size ∧ r ≠ p) : Bw B P a b :=
  ⟨o.below hB hs, fun r hr => o.block r (hP r hr).1 (by intro e; cases e; exact (hP _ hr).2 rfl)⟩
section
variable {B : Nat} {P : List Nat} {N : Nat} {q : WP} {W W' : World} {x : Nat} {u : WM}
theorem WIn.bw_eff (h : WIn B P N q W x u) {i : Nat} (hi : i < N) {F' : List Nat} (e : Eff (q.F i) F' W W') : Bw B P W W' :=
  e.bw (fun f hf => ⟨h.bas.2.2.2 i hi f hf, fun hp => h.own i hi f (.inr (.inr (.inr hp))) hf⟩) (by have := h.bas.1; have := h.blk.lt; omega) (fun p hp => (h.out p hp).1)
theorem WIn.bw_below (h : WIn B P N q W x u) (b : Below W.heap.size W W') : Bw B P W W' :=
  Bw.of b (by have := h.bas.1; have := h.blk.lt; omega) (fun p hp => (h.out p hp).1)
end
/-- In the loop that has all send: k nodes did. -/
structure SA (B : Nat) (P : List Nat) (N x : Nat) (u : WM) (nb gs ps : Nat) (w0 : World) (k : Nat) (q : WP) (V : Nat → Option Addr) (c : Nat → Nat) (W : World) : Prop where
  nb : q.nb = nb
  gs : q.gs = gs
  win : WIn B ((ps + 1) :: ps :: P) N q W x (u.sent1 k)
  Y : Blk W ps (sl8 V c (u.bsK k)) 117
  Z : Blk W (ps + 1) (i8 (u.atK k)) 22
  own : ∀ i, i < 8 → OwnsL W (ps + 2) (.slice (V i) (u.bsK k i).length (c i)) (u.bsK k i)
  ok : ∀ i, i < 8 → bytesL (u.bsK k i) ∧ (u.bsK k i).length ≤ 16
  far : ∀ i, i < k → ∀ b, (Value.slice (V i) (u.bsK k i).length (c i)).ownBlock = some b → ∀ j, k ≤ j → j < N → b ∉ q.F j
  rest : ∀ i, k ≤ i → V i = none ∧ c i = 0
  bw : Bw B P w0 W
  pB : B ≤ ps
  pP : ∀ r, r ∈ P → r < ps
/-- The next one did, too; what it answered is not stored yet. -/
structure SB (B : Nat) (P : List Nat) (N x : Nat) (u : WM) (nb gs ps : Nat) (w0 : World) (k : Nat) (q : WP) (V : Nat → Option Addr) (c : Nat → Nat) (A' : Option Addr) (c' : Nat) (W : World) : Prop where
  nb : q.nb = nb
  gs : q.gs = gs
  win : WIn B ((ps + 1) :: ps :: P) N q W x (u.sent1 (k + 1))
  Y : Blk W ps (sl8 V c (u.bsK k)) 117
  Z : Blk W (ps + 1) (i8 (u.atK k)) 22
  own : ∀ i, i < 8 → OwnsL W (ps + 2) (.slice (V i) (u.bsK k i).length (c i)) (u.bsK k i)
  new : OwnsL W (ps + 2) (.slice A' (u.ms k).sent.length c') (u.ms k).sent
  ok : ∀ i, i < 8 → bytesL (u.bsK k i) ∧ (u.bsK k i).length ≤ 16
  okn : bytesL (u.ms k).sent ∧ (u.ms k).sent.length ≤ 16
  far : ∀ i, i < k → ∀ b, (Value.slice (V i) (u.bsK k i).length (c i)).ownBlock = some b → ∀ j, k + 1 ≤ j → j < N → b ∉ q.F j
  farn : ∀ b, (Value.slice A' (u.ms k).sent.length c').ownBlock = some b → ∀ j, k + 1 ≤ j → j < N → b ∉ q.F j
  rest : ∀ i, k ≤ i → V i = none ∧ c i = 0
  bw : Bw B P w0 W
  pB : B ≤ ps
  pP : ∀ r, r ∈ P → r < ps
section
variable {B : Nat} {P : List Nat} {N x : Nat} {u : WM} {nb gs ps : Nat} {w0 W W' : World} {k : Nat} {q : WP} {V : Nat → Option Addr} {c : Nat → Nat} {A' : Option Addr} {c' : Nat}
theorem SA.below (h : SA B P N x u nb gs ps w0 k q V c W) (b : Below W.heap.size W W') : SA B P N x u nb gs ps w0 k q V c W' :=
  ⟨h.nb, h.gs, h.win.below b, h.Y.below b h.Y.lt, h.Z.below b h.Z.lt, fun i hi => (h.own i hi).below b (Nat.le_refl _), h.ok, h.far, h.rest, h.bw.trans ((h.win.less (fun _ hp => List.mem_cons_of_mem _ (List.mem_cons_of_mem _ hp))).bw_below b), h.pB, h.pP⟩
theorem SB.below (h : SB B P N x u nb gs ps w0 k q V c A' c' W) (b : Below W.heap.size W W') : SB B P N x u nb gs ps w0 k q V c A' c' W' :=
  ⟨h.nb, h.gs, h.win.below b, h.Y.below b h.Y.lt, h.Z.below b h.Z.lt, fun i hi => (h.own i hi).below b (Nat.le_refl _), h.new.below b (Nat.le_refl _), h.ok, h.okn, h.far, h.farn, h.rest, h.bw.trans ((h.win.less (fun _ hp => List.mem_cons_of_mem _ (List.mem_cons_of_mem _ hp))).bw_below b), h.pB, h.pP⟩
theorem SA.send (h : SA B P N x u nb gs ps w0 k q V c W) (hk : k < N) : Calls Tryz.prog 57 #[.pointer (some ⟨q.gp k, 0, none⟩)] W fun e w' => ∃ A' c' q', e = .returned (.slice A' (u.ms k).sent.length c') ∧ q'.gp = q.gp ∧ NAt (q'.F k) w' (q.gp k) (u.ms k).sendS ∧ SB B P N x u nb gs ps w0 k q' V c A' c' w' := by
  have hn := h.win.nd k hk
  rw [u.sent1_at k] at hn
  refine (sendOwn hn).mono ?_
  rintro _ w' ⟨v, F', rfl, ho, hn', he⟩
  obtain ⟨A', c', rfl, -⟩ := ho.sees.at_
  have hY := h.Y.lt
  have hZ := h.Z.lt
  have nY : ps ∉ q.F k := h.win.own k hk ps (.inr (.inr (.inr (by simp))))
  have nZ : ps + 1 ∉ q.F k := h.win.own k hk (ps + 1) (.inr (.inr (.inr (by simp))))
  have hw := h.win.eff hk hn' he
  rw [WM.sent1_step] at hw
  have hold : ∀ i, i < 8 → OwnsL w' (ps + 2) (.slice (V i) (u.bsK k i).length (c i)) (u.bsK k i) := fun i hi => by
    have ho := h.own i hi
    by_cases e : i < k
    · exact ho.same fun b hb => he.1.block b (ho.lt b hb).2 (h.far i e b hb k (Nat.le_refl _) hk)
    · obtain ⟨e1, e2⟩ := h.rest i (by omega)
      rw [show u.bsK k i = [] by unfold WM.bsK; rw [if_neg e], e1, e2]
      exact OwnsL.nil
  refine ⟨A', c', { q with F := upd' q.F k F' }, rfl, rfl, by show NAt (upd' q.F k F' k) w' (q.gp k) _; rw [upd'_same]; exact hn', ⟨h.nb, h.gs, hw, (he.1.block _ hY nY).trans h.Y, (he.1.block _ hZ nZ).trans h.Z, hold, ho.base (by have := hZ; omega), h.ok, sentAt_good hn', fun i hi b hb j hj hjN => ?_, fun b hb j hj hjN => ?_, h.rest, h.bw.trans ((h.win.less (fun _ hp => List.mem_cons_of_mem _ (List.mem_cons_of_mem _ hp))).bw_eff hk he), h.pB, h.pP⟩⟩
  · show b ∉ upd' q.F k F' j
    rw [upd'_other _ _ _ (show j ≠ k by omega)]
    exact h.far i hi b hb j (by omega) hjN
  · show b ∉ upd' q.F k F' j
    rw [upd'_other _ _ _ (show j ≠ k by omega)]
    intro hm
    have h1 := (ho.lt b hb).1
    have h2 := (h.win.nd j hjN).lt b hm
    omega
/-- What was answered is stored. -/
theorem SB.store (h : SB B P N x u nb gs ps w0 k q V c A' c' W) (hk : k < N) (hN : N ≤ 8) : SA B P N x u nb gs ps w0 (k + 1) q (put8 V k A') (put8 c k c') ((W.setCell ⟨ps, k, none⟩ (.slice A' (u.ms k).sent.length c')).setCell ⟨ps + 1, k, none⟩ (.int .i64 (u.ms k).sendS.tm)) := by
  have o1 : Only ps W (W.setCell ⟨ps, k, none⟩ (.slice A' (u.ms k).sent.length c')) := (Only.refl _ _).set k _
  have o2 : Only (ps + 1) (W.setCell ⟨ps, k, none⟩ (.slice A' (u.ms k).sent.length c')) ((W.setCell ⟨ps, k, none⟩ (.slice A' (u.ms k).sent.length c')).setCell ⟨ps + 1, k, none⟩ (.int .i64 (u.ms k).sendS.tm)) := (Only.refl _ _).set k _
  have Y1 := (h.Y.set k (.slice A' (u.ms k).sent.length c')).eq (sl8_set V c (u.bsK k) k (by omega) A' c' (u.ms k).sent)
  rw [WM.bsK_step] at Y1
  have Y2 := Y1.other ⟨ps + 1, k, none⟩ (by show ps ≠ ps + 1; omega) (.int .i64 (u.ms k).sendS.tm)
  have Z2 := ((h.Z.other ⟨ps, k, none⟩ (by show ps + 1 ≠ ps; omega) (.slice A' (u.ms k).sent.length c')).set k (.int .i64 (u.ms k).sendS.tm)).eq (WM.atK_step u k (by omega))
  have kp : ∀ {v l}, OwnsL W (ps + 2) v l → OwnsL ((W.setCell ⟨ps, k, none⟩ (.slice A' (u.ms k).sent.length c')).setCell ⟨ps + 1, k, none⟩ (.int .i64 (u.ms k).sendS.tm)) (ps + 2) v l := fun ho => (ho.only o1 (by omega)).only o2 (by omega)
  have hz1 := o1.size
  have hYl := h.Y.lt
  have hZl := h.Z.lt
  have e : ∀ i, u.bsK (k + 1) i = if i = k then (u.ms k).sent else u.bsK k i := fun i => by rw [← WM.bsK_step]; rfl
  refine ⟨h.nb, h.gs, (h.win.only (.inl (by simp)) o1).only (.inl (by simp)) o2, Y2, Z2, fun i hi => ?_, fun i hi => ?_, fun i hi b hb => ?_, fun i hi => ?_, ?_, h.pB, h.pP⟩
  · rw [e i]
    unfold put8
    by_cases ei : i = k
    · subst ei; simp only [if_true]; exact kp h.new
    · simp only [if_neg ei]; exact kp (h.own i hi)
  · rw [e i]
    by_cases ei : i = k
    · rw [if_pos ei]; exact h.okn
    · rw [if_neg ei]; exact h.ok i hi
  · rw [e i] at hb
    unfold put8 at hb
    by_cases ei : i = k
    · simp only [if_pos ei] at hb
      exact h.farn b hb
    · simp only [if_neg ei] at hb
      exact h.far i (by omega) b hb
  · unfold put8
    rw [if_neg (by omega), if_neg (by omega)]
    exact h.rest i (by omega)
  · have hP : ∀ r, r ∈ P → r < W.heap.size ∧ r ≠ ps ∧ r ≠ ps + 1 := fun r hr => by
      obtain ⟨h1, -⟩ := h.win.out r (by simp [hr])
      refine ⟨h1, fun er => ?_, fun er => ?_⟩
      · have := h.pP r hr; omega
      · have := h.pP r hr; omega
    exact h.bw.trans ((Bw.ofOnly o1 h.pB hYl fun r hr => ⟨(hP r hr).1, (hP r hr).2.1⟩).trans (Bw.ofOnly o2 (by have := h.pB; omega) (by omega) fun r hr => ⟨Nat.lt_of_lt_of_le (hP r hr).1 hz1, (hP r hr).2.2⟩))
end
end Go.Proofs.YtjoioojckekfhaaGreat
