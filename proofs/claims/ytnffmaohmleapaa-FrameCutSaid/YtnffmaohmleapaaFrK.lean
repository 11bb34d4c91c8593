/- The contract of the laws' own 'known' (matronlaw3). -/
import Derived.Test.YtnffmaohmleapaaFrH
namespace Go.Proofs.Ytnffmaohmleapaa
open Go.RowKit
open Fr (St F)

theorem knownFr_any (w : World) : Calls Try.prog 14 #[] w fun e w' => e = .returned (.bool true) ∧ Below w.heap.size w w' := by
  have h1 := encode_dev ⟨1, ⟨0, 0, 0⟩, []⟩ (.slice none 0 0) w SeesL.nil (fun x hx => by cases hx)
  have hE : encE ⟨1, ⟨0, 0, 0⟩, []⟩ = 0 := by decide
  obtain ⟨x, y, hR⟩ : ∃ x y, encR ⟨1, ⟨0, 0, 0⟩, []⟩ = [1, 0, x, y] := ⟨_, _, rfl⟩
  have h1 := Lib.hid h1
  unfold frV at h1
  go_enter Try.func14, Try.ntmps14
  go_wp2_with fail
  refine h1.out.mono ?_
  rintro e w1 ⟨v, rfl, ho, hb1⟩
  rw [hR] at ho
  rw [hE]
  obtain ⟨A, c, rfl, hc1, hc2, hs, -⟩ := ho.sees.at_
  obtain ⟨b, off, rfl, hbb, hcell⟩ := hs (by simp)
  have e0 : w1.cell? ⟨b, off, none⟩ = some (.int .u8 1) := hcell 0 (by simp)
  have h2 := fun W V (h : SeesL W W.heap.size V [9]) => Lib.hid (decode_dev V [9] ⟨0, 0, 0⟩ W h (fun x hx => by simp at hx; omega))
  have hF : Fr.formB [9] ⟨0, 0, 0⟩ = false := by decide
  have hr2 : Fr.err [9] ⟨0, 0, 0⟩ = 2 := by decide
  have hr3 : Fr.res [9] ⟨0, 0, 0⟩ = Fr.zero := by simp [Fr.res, hF]
  unfold stV Dec at h2
  rw [hr2, hr3] at h2
  unfold frV Fr.zero at h2
  clear hr2 hr3 hF hE hR h1 hs ho
  go_wp2_with fail
  refine (h2 _ _ (sees_lit w1 5 _ [9] rfl _ (Nat.lt_succ_self _) (by simp [maxLen]) _ _ _ rfl rfl rfl |>.more (by simp))).out.mono ?_
  rintro e w2 ⟨v2, rfl, ho2, hb2⟩
  obtain ⟨A2, c2, rfl, -⟩ := ho2.sees.at_
  have hbx := (hb1.alloc hb1.size (.cells #[.int .u8 9] 5))
  have f0 := ((bcell hb2 b off (by simp; omega)).trans (World.cell?_alloc_past (w := w1) (.cells #[.int .u8 9] 5) b off hbb)).trans e0
  have hb3 := hbx.trans (hb2.mono hbx.size)
  have hbb2 : b < w2.heap.size := by have := hb2.size; simp at this; omega
  clear h2 ho2 e0 hcell hbx hb2
  go_wp2
  go_ret
  exact ⟨by simp, hb3.alloc hb3.size _⟩
end Go.Proofs.Ytnffmaohmleapaa
