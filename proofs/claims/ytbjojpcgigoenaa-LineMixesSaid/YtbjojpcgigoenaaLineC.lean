/- The contract of the law's own 'known', and the walk of LineLong. No condition. -/
import Derived.Test.YtbjojpcgigoenaaLineB
namespace Go.Proofs.Ytbjojpcgigoenaa
open Go.RowKit

theorem sees_new (w : World) (B : Nat) (e : TypeId) (u : Value) (hB : w.heap.size < B) (V : Nat → Value) (hV : V 0 = u) : Sees (w.alloc (.cells #[u] e)) B (some ⟨w.heap.size, 0, none⟩) 1 V := fun _ =>
  ⟨_, _, rfl, hB, fun k hk => by
    obtain rfl : k = 0 := by omega
    rw [World.cell?_alloc_at _ _ _ _ rfl, hV]
    rfl⟩

theorem order_hi : FloatKind.f64.format.order 4607182418800017408 4607182418800017408 = some .eq := by decide +kernel
theorem order_lo : FloatKind.f64.format.order 13830554455654793216 13830554455654793216 = some .eq := by decide +kernel

theorem known_any (w : World) : Calls Try.prog 24 #[] w fun e w' => e = .returned (.bool true) ∧ Below w.heap.size w w' := by
  go_enter Try.func24, Try.ntmps24
  go_wp2_with fail
  refine (drive_any _ 1 1 (fun _ => 128) true true _ (sees_new w _ _ _ (by simp) _ rfl) (fun _ _ => ⟨by omega, by omega⟩) (by omega) (by unfold maxLen; omega)).mono ?_
  rintro e w1 ⟨v, rfl, hown, hbel⟩
  obtain ⟨A, c, rfl, -, -, hs⟩ := Owns.form hown
  obtain ⟨b, off, rfl, -, hc⟩ := hs (by omega)
  have c0 : w1.cell? ⟨b, off, none⟩ = some (.complex .f64 4607182418800017408 4607182418800017408) := hc 0 (by omega)
  have c7 : w1.cell? ⟨b, off + 7, none⟩ = some (.complex .f64 13830554455654793216 13830554455654793216) := hc 7 (by omega)
  have hb2 : Below w.heap.size w w1 := ((Below.refl _ _).alloc (Nat.le_refl _) _).trans (hbel.mono (by simp))
  have o1 := order_hi
  have o2 := order_lo
  clear hc hown hbel hs
  go_wp2
  go_ret
  exact ⟨by simp, hb2⟩

end Go.Proofs.Ytbjojpcgigoenaa
