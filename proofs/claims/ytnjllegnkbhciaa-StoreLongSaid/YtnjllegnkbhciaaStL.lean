/- The contracts of store.Store as the laws' walks meet them. For stores that may be. -/
import Derived.Test.YtnjllegnkbhciaaStA
namespace Go.Proofs.Ytnjllegnkbhciaa
open Go.RowKit

section
variable {F : List Nat} {g : Nat} {s : MS} {W : World} {v : Value} {l : List Int} {B : Nat}
theorem put1 (n : Int) (h : CAt [g] W g s) (hv : SeesL W B v l) (hl : bytesL l) :
    Calls Try.prog 14 #[.pointer (some ⟨g, 0, none⟩), .int .i64 n, v] W fun e w' => e = .returned (.tuple #[]) ∧ CAt [g] w' g (s.put n l) ∧ Only g W w' :=
  put_st [g] g s n v l B W h (by simp) (by simpa using SAt.lt h) hv hl
theorem get1 (n : Int) (h : CAt F W g s) :
    Calls Try.prog 22 #[.pointer (some ⟨g, 0, none⟩), .int .i64 n] W fun e w' => ∃ v, e = .returned (.agg #[v, .int .i64 (s.ga n), .bool (s.gg n)]) ∧ SeesL w' w'.heap.size v (s.gd n) ∧ (s.gd n ≠ [] → OwnsL w' W.heap.size v (s.gd n)) ∧ Below W.heap.size W w' :=
  get_st F g s n W h
theorem member1 (n : Int) (b : Bool) (h : CAt [g] W g s) :
    Calls Try.prog 16 #[.pointer (some ⟨g, 0, none⟩), .int .i64 n, .bool b] W fun e w' => e = .returned (.tuple #[]) ∧ CAt [g] w' g (s.member n b) ∧ Only g W w' :=
  member_st [g] g s n b W h (by simp)
theorem age1 (h : CAt [g] W g s) :
    Calls Try.prog 18 #[.pointer (some ⟨g, 0, none⟩)] W fun e w' => e = .returned (.tuple #[]) ∧ CAt [g] w' g s.age ∧ Only g W w' :=
  age_st [g] g s W h (by simp)
theorem clear1 (h : CAt [g] W g s) :
    Calls Try.prog 20 #[.pointer (some ⟨g, 0, none⟩)] W fun e w' => e = .returned (.tuple #[]) ∧ CAt [g] w' g MS.new ∧ Only g W w' :=
  clear_st [g] g s W h (by simp)
end

theorem new_gd (n : Int) : MS.new.gd n = [] := by unfold MS.gd MS.new; split <;> rfl
theorem new_ga (n : Int) : MS.new.ga n = -1 := by unfold MS.ga MS.new; split <;> rfl
theorem new_gg (n : Int) : MS.new.gg n = false := by unfold MS.gg MS.new; split <;> rfl
theorem same1 {u v : Value} {l : List Int} {a : Int} {x : Bool} {B C : Nat} {w : World} (hu : SeesL w B u l) (hv : SeesL w C v l) (hl : bytesL l) :
    Calls Try.prog 25 #[.agg #[u, .int .i64 a, .bool x], .agg #[v, .int .i64 a, .bool x]] w fun e w' => e = .returned (.bool true) ∧ Below w.heap.size w w' := by
  have := same_rf u v l l a a x x B C w hu hv hl hl
  simpa using this
theorem OwnsL.only {W W' : World} {B g : Nat} {v : Value} {l : List Int} (h : OwnsL W B v l) (k : Only g W W') (hne : v.ownBlock ≠ some g) : OwnsL W' B v l :=
  World.ownsRow.kept (row := some g) h k (.inr hne)
/-- A list with something in it lies in a block of its own. -/
theorem OwnsL.blk {W : World} {B : Nat} {v : Value} {l : List Int} (h : OwnsL W B v l) (hl : l ≠ []) : ∃ b c, v = .slice (some ⟨b, 0, none⟩) l.length c ∧ B ≤ b ∧ b < W.heap.size ∧ l.length ≤ c ∧ c ≤ maxLen ∧ W.cell? ⟨b, 0, none⟩ = some (.int .u8 (l.getD 0 0)) ∧ W.frozen? ⟨b, 0, none⟩ = false := by
  have h0 := List.length_pos_iff.2 hl
  rcases h.2 with ⟨-, e⟩ | ⟨b, c, cur, rfl, hb, hg, hn, hc, -, -⟩
  · rw [e] at h0
    exact absurd h0 (Nat.lt_irrefl _)
  · refine ⟨b, c, rfl, hb, (Array.getElem?_eq_some_iff.1 hg).1, hn, hc, ?_, Owns.frozen h 0⟩
    exact Owns.cell h h0
theorem bytes_nil : bytesL [] := fun x hx => by simp at hx
/-- So many rounds older. -/
def oldN (a : Int) (k : Nat) : Int := if 0 ≤ a then min (a + k) 65535 else a
def MS.ages (s : MS) (k : Nat) : MS := { s with a := fun i => oldN (s.a i) k }
theorem older_oldN (a : Int) (h : a ≤ 65535) (k : Nat) : older (oldN a k) = oldN a (k + 1) := by
  unfold older oldN
  by_cases h0 : 0 ≤ a
  · simp only [h0, if_true]
    rw [if_pos (by omega)]
    omega
  · simp [h0]
theorem ages_zero (s : MS) (h : s.ok) : ∀ i, i < 8 → (s.ages 0).a i = s.a i := fun i hi => by
  have := h.hi i hi
  simp only [MS.ages, oldN]
  split <;> omega
/-- The walk's step. -/
theorem ages_age {t : TypeId} {F : List Nat} {W : World} {g : Nat} {s : MS} {k : Nat} (h : SAt t F W g (s.ages k).age) (hs : s.ok) : SAt t F W g (s.ages (k + 1)) :=
  SAt.alike h (fun _ _ => rfl) (fun i hi => older_oldN _ (hs.hi i hi) k) (fun _ _ => rfl)
theorem ages_start {t : TypeId} {F : List Nat} {W : World} {g : Nat} {s : MS} (h : SAt t F W g s) : SAt t F W g (s.ages 0) :=
  SAt.alike h (fun _ _ => rfl) (fun i hi => (ages_zero s h.2 i hi).symm) (fun _ _ => rfl)
end Go.Proofs.Ytnjllegnkbhciaa
