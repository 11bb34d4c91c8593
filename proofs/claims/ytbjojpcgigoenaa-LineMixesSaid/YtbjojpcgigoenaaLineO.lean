/- The contracts of matronref1's Mix, Gate and Turn over rows of pairs. -/
import Derived.Test.YtbjojpcgigoenaaLineK
import Derived.Test.YtbjojpcgigoenaaLineI
import Derived.IntWalk
import Derived.StillTailTactics
namespace Go.Proofs.Ytbjojpcgigoenaa
open Go.RowKit

theorem Owns2.cells {w : World} {e : TypeId} {base g c n : Nat} {V : Nat → Value} (h : Owns2 w base e (.slice (some ⟨g, 0, none⟩) n c) n V) {k : Nat} (hk : k < n * 2) : w.cell? ⟨g, k, none⟩ = some (V k) := by
  rw [World.ownsRow.cellAt h k (by omega)]
  simp [hk]
theorem Owns2.frozen {w : World} {e : TypeId} {base g c n : Nat} {V : Nat → Value} (h : Owns2 w base e (.slice (some ⟨g, 0, none⟩) n c) n V) (k : Nat) : w.frozen? ⟨g, k, none⟩ = false := World.ownsRow.frozenAt h k
theorem Owns2.set1 {w : World} {e : TypeId} {base g c n : Nat} {V : Nat → Value} (h : Owns2 w base e (.slice (some ⟨g, 0, none⟩) n c) n V) (j : Nat) (u : Value) {V' : Nat → Value} (hj : V' j = u) (ho : ∀ i, i < n * 2 → i ≠ j → V' i = V i) :
    Owns2 (w.setCell ⟨g, j, none⟩ u) base e (.slice (some ⟨g, 0, none⟩) n c) n V' := by
  have h1 := (World.ownsRow.stored h j u).1
  unfold Owns2
  have : (List.range (n * 2)).map V' = ((List.range (n * 2)).map V).set j u := by
    apply List.ext_getElem?
    intro i
    rw [List.getElem?_set]
    by_cases hi : i < n * 2
    · by_cases hij : j = i
      · subst hij
        simp [hi, hj]
      · simp [hi, hij, ho i hi (Ne.symm hij)]
    · by_cases hij : j = i
      · subst hij
        simp [hi]
      · simp [hi, hij]
  rw [this]; exact h1
theorem Owns2.set_ {w : World} {e : TypeId} {base g c n : Nat} {V : Nat → Value} (h : Owns2 w base e (.slice (some ⟨g, 0, none⟩) n c) n V) (k : Nat) (u0 u1 : Value) {V' : Nat → Value} (h0 : V' (k * 2) = u0) (h1 : V' (k * 2 + 1) = u1) (ho : ∀ i, i < n * 2 → i ≠ k * 2 → i ≠ k * 2 + 1 → V' i = V i) :
    Owns2 ((w.setCell ⟨g, k * 2, none⟩ u0).setCell ⟨g, k * 2 + 1, none⟩ u1) base e (.slice (some ⟨g, 0, none⟩) n c) n V' :=
  (h.set1 (V' := fun i => if i = k * 2 then u0 else V i) (k * 2) u0 (by simp) (fun i _ hi => by simp [hi])).set1 (k * 2 + 1) u1 h1 (fun i hi hne => by
    by_cases hk : i = k * 2
    · subst hk; simp [h0]
    · simp only [hk, if_false]; exact ho i hi hk hne)
theorem prs_alike {a b a' b' : Nat → Int} {k : Nat} (ha : a (k / 2) = a' (k / 2)) (hb : b (k / 2) = b' (k / 2)) : prs a b k = prs a' b' k := by
  unfold prs
  rw [ha, hb]

/-- 'make' of pairs at a length. -/
theorem wpList_zeros2 {P : Program} (w : World) {ops : Array Oper} {rest : List Oper} {o : Oper} {a : Act} {Q : Exit → Act → World → Prop} (hgd : o.guard = none) (l c : Operand) (t : TypeId) (hop : o.op = Op.makeSlice t l c)
    (B : Nat) (W : World) (hbel : Below B W w) (hB : B ≤ w.heap.size) (e : TypeId) (z : Value) (u : Value) (bytes : Nat) (hinf : (P.info? e).map (fun i => (i.zero, i.size, i.bytes)) = some (some z, 2, bytes)) (hzs : z.cells = #[u, u]) (ht : P.underlying t = some (.slice e))
    (kl kc : IntKind) (L C : Int) (n : Nat) (hl : a.eval l = .int kl L) (hc : a.eval c = .int kc C) (hL : L = n) (hC : C = n) (hroom : bytes * n ≤ 281474976710656) (h63 : n ≤ maxLen)
    (h : ∀ w', Owns2 w' B e (.slice (some ⟨w.heap.size, 0, none⟩) n n) n (fun _ => u) → Below B W w' → w.heap.size < w'.heap.size → wpList P ops Q rest (a.put o.dst (.slice (some ⟨w.heap.size, 0, none⟩) n n)) w') :
    wpList P ops Q (o :: rest) a w := by
  obtain ⟨i0, hi, hz0, hz1, hz2⟩ := info_parts hinf
  refine wpList_make_full w hgd l c t hop B e i0 z 2 ht hi hz0 hz1 kl kc L C n hl hc hL hC (by rw [hz2]; exact hroom) h63 hB ?_
  intro w' h1 h2
  refine h w' ?_ (hbel.grown h2 hB (fun k h => by cases h)) (h1.lt _ rfl).2
  unfold Owns2
  have e1 : (madeCells z.cells (n * 2)).toList = (List.range (n * 2)).map fun _ => u := by
    rw [hzs]
    unfold madeCells
    simp only [Array.toList_map, Array.toList_range]
    refine List.map_congr_left fun k _ => ?_
    have : k % 2 = 0 ∨ k % 2 = 1 := by omega
    rcases this with h | h <;> simp [h]
  rw [e1] at h1
  exact h1

set_option maxRecDepth 100000 in
set_option maxHeartbeats 2000000 in
theorem refGate_any (A : Option Addr) (n c : Nat) (a b : Nat → Int) (f s : Bool) (w : World) (h : Sees w w.heap.size A (2 * n) (prs a b)) (hn : n ≤ 100000) :
    Calls Try.prog 21 #[.slice A n c, .bool f, .bool s] w fun e w' =>
      ∃ v, e = .returned v ∧ Owns2 w' w.heap.size 59 v n (prs (fun k => pf f (a k)) (fun k => pf s (b k))) ∧ Below w.heap.size w w' := by
  obtain ⟨G, hG⟩ : ∃ G : Nat → Int, G = fun k => pf f (a k) := ⟨_, rfl⟩
  obtain ⟨F, hF⟩ : ∃ F : Nat → Int, F = fun k => pf s (b k) := ⟨_, rfl⟩
  rw [← hG, ← hF]
  have HG : ∀ k, G k = pf f (a k) := fun k => by rw [hG]
  have HF : ∀ k, F k = pf s (b k) := fun k => by rw [hF]
  have HG := Lib.hid HG
  have HF := Lib.hid HF
  clear hG hF
  cases f <;> cases s
  all_goals
    go_enter Try.func21, Try.ntmps21
    go_wp2
    go_loopw [7, 8] (fun v i wr => ∃ k : Nat, k ≤ n ∧ i = .int .i64 k ∧ Owns2 wr w.heap.size 59 v k (prs G F) ∧ Below w.heap.size w wr) (fun _ i _ => n - (intOf i).toNat)
    case atStart => exact ⟨0, by omega, rfl, World.ownsRow_nil _ _ _ _, Below.refl _ _⟩
    case round =>
      obtain ⟨k, hk, rfl, hown, hbel⟩ := hrel
      by_cases hlt : k < n
      · obtain ⟨b0, off, rfl, hbb, hcell⟩ := h (by omega)
        have e0 : wr.cell? ⟨b0, off + k * 2, none⟩ = some (.int .i64 (a k)) := by rw [← prs_even a b k]; exact (hbel.cell hbb).trans (hcell (k * 2) (by omega))
        have e1 : wr.cell? ⟨b0, off + k * 2 + 1, none⟩ = some (.int .i64 (b k)) := by rw [← prs_odd a b k]; exact (hbel.cell hbb).trans (hcell (k * 2 + 1) (by omega))
        have hB := hbel.size
        have hbw : b0 < wr.heap.size := by omega
        have q3 : (k : Int) < n := by omega
        have q2 : decide (k < n) = true := by simp; omega
        have HH := Lib.hid (show prs G F (k * 2) = .int .i64 (G k) ∧ prs G F (k * 2 + 1) = .int .i64 (F k) from ⟨prs_even _ _ k, prs_odd _ _ k⟩)
        have hh := HH.out
        rw [HG.out k, HF.out k] at hh
        simp only [pf, if_true, Bool.false_eq_true, if_false] at hh
        have HH := Lib.hid hh
        clear hcell hh
        go_wp2_with (at_builtin; go_loud (refine wpList_push2 _ rfl (.tmp 31) (.tmp 33) 23 rfl w.heap.size 59 _ 16 infoPair rfl Try.underlying23 _ k _ w (World.ownsRow.alloc hown _) (hbel.alloc hB _) rfl _ _ ?_ ⟨rfl, rfl⟩ ?_ ?_ ?_ ⟨HH.out.1.symm, HH.out.2.symm⟩ ?_))
        all_goals (try (first | (simp [Act.eval]; done) | (simp; omega) | (unfold maxLen; omega) | omega))
        intro v' w1 ho1 hb1
        go_wp2
        go_roundw
        case rel => exact ⟨k + 1, by omega, by go_num, ho1, hb1⟩
        case measure => simp [intOf]; omega
      · obtain rfl : k = n := by omega
        go_wp2
        go_ret
        exact ⟨_, rfl, hown, hbel⟩

/-- A row that is done up to a place, and at that place something else. -/
def stage (G : Nat → Int) (k : Nat) (x : Int) (j : Nat) : Int := if j < k then G j else if j = k then x else 0
theorem stage_at (G : Nat → Int) (k : Nat) (x : Int) : stage G k x k = x := by simp [stage]
theorem stage_zero (G : Nat → Int) (k j : Nat) : (if j < k then G j else 0) = stage G k 0 j := by
  unfold stage
  split
  · rfl
  · split <;> rfl
theorem stage_other (G : Nat → Int) (k : Nat) (x y : Int) {j : Nat} (h : j ≠ k) : stage G k x j = stage G k y j := by simp [stage, h]
theorem stage_done {G : Nat → Int} {k : Nat} {x : Int} (h : x = G k) (j : Nat) : stage G k x j = if j < k + 1 then G j else 0 := by
  unfold stage
  by_cases h1 : j < k
  · rw [if_pos h1, if_pos (by omega)]
  · by_cases h2 : j = k
    · subst h2; simp [h]
    · rw [if_neg h1, if_neg h2, if_neg (by omega)]
theorem Owns2.stage_ {w : World} {e : TypeId} {base g c n : Nat} {G F : Nat → Int} {k : Nat} {x y : Int} (h : Owns2 w base e (.slice (some ⟨g, 0, none⟩) n c) n (prs (stage G k x) (stage F k y))) (x' y' : Int) :
    Owns2 ((w.setCell ⟨g, k * 2, none⟩ (.int .i64 x')).setCell ⟨g, k * 2 + 1, none⟩ (.int .i64 y')) base e (.slice (some ⟨g, 0, none⟩) n c) n (prs (stage G k x') (stage F k y')) :=
  h.set_ k _ _ (by rw [prs_even, stage_at]) (by rw [prs_odd, stage_at]) fun i _ h0 h1 => prs_alike (stage_other G k x' x (by omega)) (stage_other F k y' y (by omega))

set_option maxRecDepth 100000 in
set_option maxHeartbeats 8000000 in
theorem refMix_any (A0 : Option Addr) (n0 c0 : Nat) (A1 : Option Addr) (n1 c1 : Nat) (a0 b0 a1 b1 : Nat → Int) (w : World) (h0 : Sees w w.heap.size A0 (2 * n0) (prs a0 b0)) (h1 : Sees w w.heap.size A1 (2 * n1) (prs a1 b1))
    (s0 : ∀ k, k < n0 → (-9 ≤ a0 k ∧ a0 k ≤ 9) ∧ (-9 ≤ b0 k ∧ b0 k ≤ 9)) (s1 : ∀ k, k < n1 → (-9 ≤ a1 k ∧ a1 k ≤ 9) ∧ (-9 ≤ b1 k ∧ b1 k ≤ 9)) (hn0 : n0 ≤ 1000) (hn1 : n1 ≤ 1000) :
    Calls Try.prog 19 #[.slice A0 n0 c0, .slice A1 n1 c1] w fun e w' =>
      ∃ v, e = .returned v ∧ Owns2 w' w.heap.size 59 v (max n0 n1) (prs (fun k => (if k < n0 then a0 k else 0) + (if k < n1 then a1 k else 0)) (fun k => (if k < n0 then b0 k else 0) + (if k < n1 then b1 k else 0))) ∧ Below w.heap.size w w' := by
  obtain ⟨m, hm⟩ : ∃ m, m = max n0 n1 := ⟨_, rfl⟩
  rw [← hm]
  have hm0 : n0 ≤ m := by omega
  have hm1 : n1 ≤ m := by omega
  obtain ⟨G, hG⟩ : ∃ G : Nat → Int, G = fun k => (if k < n0 then a0 k else 0) + (if k < n1 then a1 k else 0) := ⟨_, rfl⟩
  obtain ⟨F, hF⟩ : ∃ F : Nat → Int, F = fun k => (if k < n0 then b0 k else 0) + (if k < n1 then b1 k else 0) := ⟨_, rfl⟩
  rw [← hG, ← hF]
  have hg : ∀ k, G k = (if k < n0 then a0 k else 0) + (if k < n1 then a1 k else 0) := fun k => by rw [hG]
  have hf : ∀ k, F k = (if k < n0 then b0 k else 0) + (if k < n1 then b1 k else 0) := fun k => by rw [hF]
  have HG := Lib.hid hg
  have HF := Lib.hid hf
  have hmm : m ≤ n0 ∨ m ≤ n1 := by omega
  clear hG hF hm hg hf
  go_enter Try.func19, Try.ntmps19
  go_wp2_with (at_make; go_loud (refine wpList_zeros2 _ rfl _ _ 23 rfl w.heap.size w (Below.refl _ _) (Nat.le_refl _) 59 (.agg #[.int .i64 0, .int .i64 0]) (.int .i64 0) 16 infoPair rfl Try.underlying23 _ _ _ _ m rfl rfl (by omega) (by omega) (by omega) (by unfold maxLen; omega) ?_))
  all_goals
    intro w1 ho1 hb1 hs1
    go_wp2
    go_loopw [6] (fun i wr => ∃ k : Nat, k ≤ m ∧ i = .int .i64 k ∧ Owns2 wr w.heap.size 59 (.slice (some ⟨w.heap.size, 0, none⟩) m m) m (prs (fun j => if j < k then G j else 0) (fun j => if j < k then F j else 0)) ∧ Below w.heap.size w wr) (fun i _ => m - (intOf i).toNat)
    case atStart => exact ⟨0, by omega, rfl, ho1.alike fun k _ => by simp [prs], hb1⟩
    case round =>
      obtain ⟨k, hk, rfl, hown, hbel⟩ := hrel
      clear ho1 hb1 hs1
      by_cases hlt : k < m
      · have hown := hown.alike (V' := prs (stage G k 0) (stage F k 0)) fun j _ => prs_alike (stage_zero G k _) (stage_zero F k _)
        have z0 := hown.cells (k := k * 2) (by omega)
        have z1 := hown.cells (k := k * 2 + 1) (by omega)
        rw [prs_even, stage_at] at z0
        rw [prs_odd, stage_at] at z1
        have y0 := hown.frozen (k * 2)
        have y1 := hown.frozen (k * 2 + 1)
        have q3 : (k : Int) < m := by omega
        have q2 : decide (k < m) = true := by simp; omega
        have hg := HG.out k
        have hf := HF.out k
        have hcase : (k < n0 ∧ k < n1) ∨ (k < n0 ∧ ¬ k < n1) ∨ (¬ k < n0 ∧ k < n1) := by omega
        rcases hcase with ⟨p0, p1⟩ | ⟨p0, p1⟩ | ⟨p0, p1⟩
        · try (exfalso; omega)
          all_goals
            obtain ⟨x0, off, rfl, hbb, hcell⟩ := h0 (by omega)
            have e0 : wr.cell? ⟨x0, off + k * 2, none⟩ = some (.int .i64 (a0 k)) := by rw [← prs_even a0 b0 k]; exact (hbel.cell hbb).trans (hcell (k * 2) (by omega))
            have e1 : wr.cell? ⟨x0, off + k * 2 + 1, none⟩ = some (.int .i64 (b0 k)) := by rw [← prs_odd a0 b0 k]; exact (hbel.cell hbb).trans (hcell (k * 2 + 1) (by omega))
            have hs0 := s0 k p0
            have q4 : (k : Int) < n0 := by omega
            have q5 : decide (k < n0) = true := by simp; omega
            have hst := hown.stage_ (a0 k) (b0 k)
            have hbt := (hbel.setCell (p := ⟨w.heap.size, k * 2, none⟩) (Nat.le_refl _) (.int .i64 (a0 k))).setCell (p := ⟨w.heap.size, k * 2 + 1, none⟩) (Nat.le_refl _) (.int .i64 (b0 k))
            rw [if_pos p0] at hg hf
            clear hcell
            obtain ⟨x1, off1, rfl, hbb1, hcell1⟩ := h1 (by omega)
            have hs1 := s1 k p1
            have q6 : (k : Int) < n1 := by omega
            have q7 : decide (k < n1) = true := by simp; omega
            rw [if_pos p1] at hg hf
            have HX := Lib.hid (show a0 k + a1 k = G k by rw [hg])
            have HY := Lib.hid (show b0 k + b1 k = F k by rw [hf])
            have f0 : w.cell? ⟨x1, off1 + k * 2, none⟩ = some (.int .i64 (a1 k)) := by rw [← prs_even a1 b1 k]; exact hcell1 (k * 2) (by omega)
            have f1 : w.cell? ⟨x1, off1 + k * 2 + 1, none⟩ = some (.int .i64 (b1 k)) := by rw [← prs_odd a1 b1 k]; exact hcell1 (k * 2 + 1) (by omega)
            have r0 : IntKind.i64.wrap (a0 k) = a0 k := IntWalk.i64_in _ (by omega)
            have r1 : IntKind.i64.wrap (b0 k) = b0 k := IntWalk.i64_in _ (by omega)
            have r2 := Lib.hid (show IntKind.i64.wrap (a0 k + a1 k) = a0 k + a1 k from IntWalk.i64_in _ (by omega))
            have r3 := Lib.hid (show IntKind.i64.wrap (b0 k + b1 k) = b0 k + b1 k from IntWalk.i64_in _ (by omega))
            have F0 := Lib.hid f0
            have F1 := Lib.hid f1
            clear hg hf hs0 hs1 p0 p1 hown hcell1 f0 f1
            go_wp2_with fail
            go_still_tail 26, (by kernel_rfl)
            go_wp2_with fail
            have hstd : Owns2 ((wr.setCell ⟨w.heap.size, k * 2, none⟩ (.int .i64 (a0 k))).setCell ⟨w.heap.size, k * 2 + 1, none⟩ (.int .i64 (b0 k))).drew w.heap.size 59 (.slice (some ⟨w.heap.size, 0, none⟩) m m) m (prs (stage G k (a0 k)) (stage F k (b0 k))) := hst
            have hbtd := hbt.drew
            clear hst hbt z0 z1 y0 y1 e0 e1 hbel r0 r1
            generalize ((wr.setCell ⟨w.heap.size, k * 2, none⟩ (.int .i64 (a0 k))).setCell ⟨w.heap.size, k * 2 + 1, none⟩ (.int .i64 (b0 k))).drew = wt at *
            have g0 := (hbtd.cell hbb1).trans F0.out
            have g1 := (hbtd.cell hbb1).trans F1.out
            have v0 := hstd.cells (k := k * 2) (by omega)
            have v1 := hstd.cells (k := k * 2 + 1) (by omega)
            rw [prs_even, stage_at] at v0
            rw [prs_odd, stage_at] at v1
            have u0 := hstd.frozen (k * 2)
            have u1 := hstd.frozen (k * 2 + 1)
            have r2' := r2.out
            have r3' := r3.out
            have hst2 := hstd.stage_ (a0 k + a1 k) (b0 k + b1 k)
            have hbt2 := (hbtd.setCell (p := ⟨w.heap.size, k * 2, none⟩) (Nat.le_refl _) (.int .i64 (a0 k + a1 k))).setCell (p := ⟨w.heap.size, k * 2 + 1, none⟩) (Nat.le_refl _) (.int .i64 (b0 k + b1 k))
            clear hstd hbtd
            go_still_tail 26, (by kernel_rfl)
            go_wp2
            go_roundw
            case rel => exact ⟨k + 1, by omega, by go_num, hst2.alike fun j _ => prs_alike (stage_done HX.out _) (stage_done HY.out _), hbt2.drew⟩
            case measure => simp [intOf]; omega
        · try (exfalso; omega)
          all_goals
            obtain ⟨x0, off, rfl, hbb, hcell⟩ := h0 (by omega)
            have e0 : wr.cell? ⟨x0, off + k * 2, none⟩ = some (.int .i64 (a0 k)) := by rw [← prs_even a0 b0 k]; exact (hbel.cell hbb).trans (hcell (k * 2) (by omega))
            have e1 : wr.cell? ⟨x0, off + k * 2 + 1, none⟩ = some (.int .i64 (b0 k)) := by rw [← prs_odd a0 b0 k]; exact (hbel.cell hbb).trans (hcell (k * 2 + 1) (by omega))
            have hs0 := s0 k p0
            have q4 : (k : Int) < n0 := by omega
            have q5 : decide (k < n0) = true := by simp; omega
            have hst := hown.stage_ (a0 k) (b0 k)
            have hbt := (hbel.setCell (p := ⟨w.heap.size, k * 2, none⟩) (Nat.le_refl _) (.int .i64 (a0 k))).setCell (p := ⟨w.heap.size, k * 2 + 1, none⟩) (Nat.le_refl _) (.int .i64 (b0 k))
            rw [if_pos p0] at hg hf
            clear hcell
            have q6 : ¬ (k : Int) < n1 := by omega
            have q7 : decide (k < n1) = false := by simp; omega
            rw [if_neg p1] at hg hf
            have HX := Lib.hid (show a0 k = G k by rw [hg]; omega)
            have HY := Lib.hid (show b0 k = F k by rw [hf]; omega)
            have r0 : IntKind.i64.wrap (a0 k) = a0 k := IntWalk.i64_in _ (by omega)
            have r1 : IntKind.i64.wrap (b0 k) = b0 k := IntWalk.i64_in _ (by omega)
            clear hg hf hs0 p0 p1 hown
            go_wp2_with fail
            go_still_tail 26, (by kernel_rfl)
            go_wp2
            go_roundw
            case rel => exact ⟨k + 1, by omega, by go_num, hst.alike fun j _ => prs_alike (stage_done HX.out _) (stage_done HY.out _), hbt.drew⟩
            case measure => simp [intOf]; omega
        · try (exfalso; omega)
          all_goals
            have q4 : ¬ (k : Int) < n0 := by omega
            have q5 : decide (k < n0) = false := by simp; omega
            rw [if_neg p0] at hg hf
            obtain ⟨x1, off1, rfl, hbb1, hcell1⟩ := h1 (by omega)
            have hs1 := s1 k p1
            have q6 : (k : Int) < n1 := by omega
            have q7 : decide (k < n1) = true := by simp; omega
            rw [if_pos p1] at hg hf
            have HX := Lib.hid (show a1 k = G k by rw [hg]; omega)
            have HY := Lib.hid (show b1 k = F k by rw [hf]; omega)
            have g0 : wr.cell? ⟨x1, off1 + k * 2, none⟩ = some (.int .i64 (a1 k)) := by rw [← prs_even a1 b1 k]; exact (hbel.cell hbb1).trans (hcell1 (k * 2) (by omega))
            have g1 : wr.cell? ⟨x1, off1 + k * 2 + 1, none⟩ = some (.int .i64 (b1 k)) := by rw [← prs_odd a1 b1 k]; exact (hbel.cell hbb1).trans (hcell1 (k * 2 + 1) (by omega))
            have hst := hown.stage_ (a1 k) (b1 k)
            have hbt := (hbel.setCell (p := ⟨w.heap.size, k * 2, none⟩) (Nat.le_refl _) (.int .i64 (a1 k))).setCell (p := ⟨w.heap.size, k * 2 + 1, none⟩) (Nat.le_refl _) (.int .i64 (b1 k))
            have r0 : IntKind.i64.wrap (a1 k) = a1 k := IntWalk.i64_in _ (by omega)
            have r1 : IntKind.i64.wrap (b1 k) = b1 k := IntWalk.i64_in _ (by omega)
            clear hg hf hs1 p0 p1 hown hcell1
            go_wp2_with fail
            go_still_tail 26, (by kernel_rfl)
            go_wp2
            go_roundw
            case rel => exact ⟨k + 1, by omega, by go_num, hst.alike fun j _ => prs_alike (stage_done HX.out _) (stage_done HY.out _), hbt.drew⟩
            case measure => simp [intOf]; omega
      · obtain rfl : k = m := by omega
        go_wp2
        go_ret
        exact ⟨_, rfl, hown.alike fun j hj => prs_alike (by rw [if_pos (by omega)]) (by rw [if_pos (by omega)]), hbel⟩
end Go.Proofs.Ytbjojpcgigoenaa
