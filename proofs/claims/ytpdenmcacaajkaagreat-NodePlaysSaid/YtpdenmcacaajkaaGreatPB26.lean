/- Texts NdQ in one. For what each says in front of its theorems. -/
import Derived.Test.YtpdenmcacaajkaaGreatPB20
import Derived.Test.YtpdenmcacaajkaaGreatPB23
import Derived.Test.YtpdenmcacaajkaaGreatPB25
/-! ### NdQ -/
namespace Go.Proofs.YtpdenmcacaajkaaGreat
open Go.RowKit
open Fr (St F)

set_option maxRecDepth 100000 in
set_option maxHeartbeats 1000000 in
theorem silent_nd (h : Hn) (vx vy : Value) (w : World) :
    Calls Tryz.prog 121 #[hdV h vx vy] w fun e w' => e = .returned (.bool (decide (h.a = 0 ∧ h.b = 0))) ∧ Below w.heap.size w w' := by
  obtain ⟨a, b, x, y, o⟩ := h
  unfold hdV
  simp only
  have hb := (Below.refl w.heap.size w).alloc (Nat.le_refl _) (.cells #[.int .i64 a, .int .i64 b, vx, vy, .int .i64 o] 39)
  by_cases h1 : a = 0
  · by_cases h2 : b = 0
    · subst h1; subst h2
      rw [decide_eq_true ⟨rfl, rfl⟩]
      go_enter Tryz.func121, Tryz.ntmps121
      go_wp2
      go_ret
      exact ⟨rfl, hb⟩
    · subst h1
      rw [decide_eq_false (fun h => h2 h.2)]
      go_enter Tryz.func121, Tryz.ntmps121
      go_wp2
      go_ret
      exact ⟨by simp [h2], hb⟩
  · rw [decide_eq_false (fun h => h1 h.1)]
    go_enter Tryz.func121, Tryz.ntmps121
    go_wp2
    go_ret
    exact ⟨by simp, hb⟩
/-- Is the frame one that may be joined? -/
def NM.mayJ (m : NM) (f : F) : Prop := f.k ≠ 1 ∧ f.st.s < m.t.ns.length ∧ f.st.s ≠ m.i
instance (m : NM) (f : F) : Decidable (m.mayJ f) := inferInstanceAs (Decidable (_ ∧ _))
set_option maxRecDepth 100000 in
set_option maxHeartbeats 2000000 in
theorem mayJoin_nd (b : Bool) (G : Nat → Prop) (g : Nat) (m : NM) (f : F) (v : Value) (w : World) (h : NA b G w g m) :
    Calls Tryz.prog 119 #[.pointer (some ⟨g, 0, none⟩), frV f v] w fun e w' => e = .returned (.bool (decide (m.mayJ f))) ∧ Below w.heap.size w w' := by
  obtain ⟨k, ⟨r, s, mm⟩, d⟩ := f
  unfold frV
  simp only
  have h1 := h.alloc (.cells #[.int .i64 k, .int .i64 r, .int .i64 s, .int .i64 mm, v] 137)
  have hb := (Below.refl w.heap.size w).alloc (Nat.le_refl _) (.cells #[.int .i64 k, .int .i64 r, .int .i64 s, .int .i64 mm, v] 137)
  obtain ⟨A, c, c0, -⟩ := h1.cV
  have c8 := h1.c8
  have e : m.mayJ ⟨k, ⟨r, s, mm⟩, d⟩ = (k ≠ 1 ∧ s < m.t.ns.length ∧ s ≠ m.i) := rfl
  have hX := Blk.new w w.heap.size rfl #[.int .i64 k, .int .i64 r, .int .i64 s, .int .i64 mm, v] 137
  have x0 := hX.cell 0 (x := .int .i64 k) rfl
  have x2 := hX.cell 2 (x := .int .i64 s) rfl
  rw [show decide (m.mayJ ⟨k, ⟨r, s, mm⟩, d⟩) = decide (k ≠ 1 ∧ s < m.t.ns.length ∧ s ≠ m.i) from rfl]
  clear h h1 e hX
  generalize m.t.ns.length = n at *
  generalize ((m.i : Nat) : Int) = i at *
  by_cases h1 : k = 1
  · rw [decide_eq_false (fun h => h.1 h1)]
    subst h1
    go_enter Tryz.func119, Tryz.ntmps119
    go_wp2_with fail
    go_quiet (fail)
    go_wp2
    go_ret
    exact ⟨rfl, below_drewN hb _⟩
  · have q1 : (k != 1) = true := by simpa using h1
    by_cases h2 : s < n
    · by_cases h3 : s = i
      · rw [decide_eq_false (fun h => h.2.2 h3)]
        have q3 : (s != i) = false := by simpa using h3
        clear h3
        go_enter Tryz.func119, Tryz.ntmps119
        go_wp2_with fail
        go_quiet (fail)
        go_wp2
        go_ret
        exact ⟨rfl, below_drewN hb _⟩
      · rw [decide_eq_true ⟨h1, h2, h3⟩]
        have q3 : (s != i) = true := by simpa using h3
        go_enter Tryz.func119, Tryz.ntmps119
        go_wp2_with fail
        go_quiet (fail)
        go_wp2
        go_ret
        exact ⟨rfl, below_drewN hb _⟩
    · rw [decide_eq_false (fun h => h2 h.2.1)]
      have q4 : decide (s < (n : Int)) = false := decide_eq_false h2
      go_enter Tryz.func119, Tryz.ntmps119
      go_wp2_with fail
      go_quiet (fail)
      go_wp2
      go_ret
      exact ⟨rfl, below_drewN hb _⟩
set_option maxRecDepth 100000 in
set_option maxHeartbeats 2000000 in
theorem judge1_nd (f : F) (v : Value) (p : Nat) (own : St) (w : World) (h : Blk w p #[.int .i64 own.r, .int .i64 own.s, .int .i64 own.m] 101) :
    Calls Tryz.prog 124 #[frV f v, .pointer (some ⟨p, 0, none⟩)] w fun e w' => e = .returned (.bool (decide (f.k ≠ 3 ∧ f.st = own))) ∧ Below w.heap.size w w' := by
  obtain ⟨k, ⟨r, s, m⟩, d⟩ := f
  obtain ⟨r', s', m'⟩ := own
  unfold frV
  simp only at h ⊢
  have h1 := h.alloc (.cells #[.int .i64 k, .int .i64 r, .int .i64 s, .int .i64 m, v] 137)
  have hb := (Below.refl w.heap.size w).alloc (Nat.le_refl _) (.cells #[.int .i64 k, .int .i64 r, .int .i64 s, .int .i64 m, v] 137)
  have x0 := h1.cell 0 (x := .int .i64 r') rfl
  have x1 := h1.cell 1 (x := .int .i64 s') rfl
  have x2 := h1.cell 2 (x := .int .i64 m') rfl
  rw [show decide (k ≠ 3 ∧ (⟨r, s, m⟩ : St) = ⟨r', s', m'⟩) = decide (k ≠ 3 ∧ r = r' ∧ s = s' ∧ m = m') from decide_eq_decide.2 (by simp)]
  clear h h1
  by_cases h1 : k = 3
  · rw [decide_eq_false (fun h => h.1 h1)]
    subst h1
    go_enter Tryz.func124, Tryz.ntmps124
    go_wp2
    go_ret
    exact ⟨rfl, hb⟩
  · have q1 : (k != 3) = true := by simpa using h1
    have hcase : r ≠ r' ∨ (r = r' ∧ s ≠ s') ∨ (r = r' ∧ s = s' ∧ m ≠ m') ∨ (r = r' ∧ s = s' ∧ m = m') := by omega
    rcases hcase with e1 | ⟨rfl, e1⟩ | ⟨rfl, rfl, e1⟩ | ⟨rfl, rfl, rfl⟩
    all_goals
      go_enter Tryz.func124, Tryz.ntmps124
      go_wp2
      go_ret
      exact ⟨by simp [*], hb⟩
end Go.Proofs.YtpdenmcacaajkaaGreat
