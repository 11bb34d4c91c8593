/- The contract of matronref3.Same. -/
import Derived.Test.YthlanmomgpcbcaaFrB
namespace Go.Proofs.Ythlanmomgpcbcaa
open Go.RowKit
open Fr (St F)

/-- Are two frames one? -/
def sameB (a b : F) : Bool := decide (a.k = b.k) && decide (a.st.r = b.st.r ∧ a.st.s = b.st.s ∧ a.st.m = b.st.m) && decide (a.d = b.d)
theorem sameB_self (a : F) : sameB a a = true := by simp [sameB]

set_option maxRecDepth 100000 in
set_option maxHeartbeats 1000000 in
theorem same_ref (a b : F) (va vb : Value) (w : World) (ha : SeesL w w.heap.size va a.d) (hb : SeesL w w.heap.size vb b.d) (la : bytesL a.d) (lb : bytesL b.d) :
    Calls Try.prog 25 #[frV a va, frV b vb] w fun e w' => e = .returned (.bool (sameB a b)) ∧ Below w.heap.size w w' := by
  obtain ⟨A, c, rfl, c1, c2, -, -⟩ := ha.at_
  obtain ⟨A', c', rfl, c1', c2', -, -⟩ := hb.at_
  have t1 := fun W (h : Below w.heap.size w W) => run_textL (ha.below h)
  have t2 := fun W (h : Below w.heap.size w W) => run_textL (hb.below h)
  have hti := textL_iff la lb
  obtain ⟨k, ⟨r, s, m⟩, d⟩ := a
  obtain ⟨k', ⟨r', s', m'⟩, d'⟩ := b
  simp only at t1 t2 hti
  have hdd : decide (d = d') = decide (textL d = textL d') := by simp [hti]
  have hres : sameB ⟨k, ⟨r, s, m⟩, d⟩ ⟨k', ⟨r', s', m'⟩, d'⟩ = (decide (k = k') && decide (r = r' ∧ s = s' ∧ m = m') && decide (textL d = textL d')) := by rw [← hdd]; rfl
  rw [hres]
  clear hres hdd hti
  have hw2 : ∀ o o' : Obj, Below w.heap.size w ((w.alloc o).alloc o') := fun o o' => ((Below.refl _ _).alloc (Nat.le_refl _) o).alloc (by simp) o'
  have hB := Lib.hid (hw2 (.cells #[.int .i64 k, .int .i64 r, .int .i64 s, .int .i64 m, .slice A d.length c] 26) (.cells #[.int .i64 k', .int .i64 r', .int .i64 s', .int .i64 m', .slice A' d'.length c'] 26))
  have h1 := fun W h => Lib.hid (t1 W h)
  have h2 := fun W h => Lib.hid (t2 W h)
  clear t1 t2 ha hb la lb
  unfold frV
  simp only
  generalize d.length = n at *
  generalize d'.length = n' at *
  generalize textL d = T at *
  generalize textL d' = T' at *
  have hcase : k ≠ k' ∨ (k = k' ∧ r ≠ r') ∨ (k = k' ∧ r = r' ∧ s ≠ s') ∨ (k = k' ∧ r = r' ∧ s = s' ∧ m ≠ m') ∨ (k = k' ∧ r = r' ∧ s = s' ∧ m = m') := by omega
  rcases hcase with e1 | ⟨rfl, e1⟩ | ⟨rfl, rfl, e1⟩ | ⟨rfl, rfl, rfl, e1⟩ | ⟨rfl, rfl, rfl, rfl⟩
  case' inr.inr.inr.inr =>
    have t1 := (h1 _ hB.out).out
    have t2 := (h2 _ hB.out).out
    by_cases eT : T = T'
    case' pos => subst eT
    case' neg =>
      have eT2 : ¬ T.toList = T'.toList := fun h => eT (by
        rw [ByteArray.toList_eq, ByteArray.toList_eq] at h
        exact ByteArray.ext (Array.toList_inj.1 h))
  all_goals
    clear h1 h2 hw2
    go_enter Try.func25, Try.ntmps25
    go_wp2
    go_ret
    exact ⟨by simp [*], hB.out⟩
end Go.Proofs.Ythlanmomgpcbcaa
