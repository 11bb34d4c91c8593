/- What is read of bytes: the form of the contracts of Decode. -/
import Derived.Test.YthigojakapgllaaFrB
namespace Go.Proofs.Ythigojakapgllaa
open Go.RowKit
open Fr (St F)

/-- What is read of bytes by a state. -/
def Dec (w : World) (l : List Int) (own : St) (e : Ending) (w' : World) : Prop := ∃ v, e = .returned (.tuple #[frV (Fr.res l own) v, .int .i64 (Fr.err l own)]) ∧ OwnsL w' w.heap.size v (Fr.res l own).d ∧ Below w.heap.size w w'
theorem dec_form {l : List Int} {own : St} (h : Fr.formB l own = false) {w w' : World} {e : Ending} (he : e = .returned (.tuple #[.agg #[.int .i64 0, .int .i64 0, .int .i64 0, .int .i64 0, .slice none 0 0], .int .i64 2])) (hb : Below w.heap.size w w') : Dec w l own e w' := by
  have h1 : Fr.res l own = Fr.zero := by simp [Fr.res, h]
  have h2 : Fr.err l own = 2 := by simp [Fr.err, h]
  unfold Dec
  rw [h1, h2]
  exact ⟨.slice none 0 0, he, OwnsL.nil, hb⟩
theorem dec_sum {l : List Int} {own : St} (h : Fr.formB l own = true) (hs : Fr.sumB l own = false) {w w' : World} {e : Ending} (he : e = .returned (.tuple #[.agg #[.int .i64 0, .int .i64 0, .int .i64 0, .int .i64 0, .slice none 0 0], .int .i64 3])) (hb : Below w.heap.size w w') : Dec w l own e w' := by
  have h1 : Fr.res l own = Fr.zero := by simp [Fr.res, h, hs]
  have h2 : Fr.err l own = 3 := by simp [Fr.err, h, hs]
  unfold Dec
  rw [h1, h2]
  exact ⟨.slice none 0 0, he, OwnsL.nil, hb⟩
theorem dec_ok {l : List Int} {own : St} (h : Fr.formB l own = true) (hs : Fr.sumB l own = true) {w w' : World} {e : Ending} {v : Value} (he : e = .returned (.tuple #[frV (Fr.rd l own) v, .int .i64 0])) (ho : OwnsL w' w.heap.size v (Fr.rd l own).d) (hb : Below w.heap.size w w') : Dec w l own e w' := by
  have h1 : Fr.res l own = Fr.rd l own := by simp [Fr.res, h, hs]
  have h2 : Fr.err l own = 0 := by simp [Fr.err, h, hs]
  unfold Dec
  rw [h1, h2]
  exact ⟨v, he, ho, hb⟩
theorem sumB_iff (l : List Int) (own : St) : (Fr.sumB l own = true) ↔ l.take (l.length - 2) ++ Fr.two (Fr.sumL (Fr.sdOf l own) (l.take (l.length - 2))) = l := by
  unfold Fr.sumB
  rw [beq_iff_eq]
  constructor
  · intro h
    rw [h, List.take_append_drop]
  · intro h
    have h2 : l.take (l.length - 2) ++ Fr.two (Fr.sumL (Fr.sdOf l own) (l.take (l.length - 2))) = l.take (l.length - 2) ++ l.drop (l.length - 2) := by rw [h, List.take_append_drop]
    exact List.append_cancel_left h2

end Go.Proofs.Ythigojakapgllaa
