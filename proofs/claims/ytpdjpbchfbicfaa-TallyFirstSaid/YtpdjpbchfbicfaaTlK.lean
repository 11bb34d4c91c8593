/- The law's 'known': one that agrees, two that fail. No condition. -/
import Derived.Test.YtpdjpbchfbicfaaTlA
namespace Go.Proofs.Ytpdjpbchfbicfaa
open Go.RowKit

set_option maxRecDepth 100000 in
set_option maxHeartbeats 1000000 in
theorem known_tl (w : World) :
    Calls Try.prog 21 #[] w fun e w' => e = .returned (.bool true) ∧ Below w.heap.size w w' := by
  have N := fun W => Lib.hid (new_tl 7 W)
  have R := fun W (h : TAt 45 W w.heap.size ⟨7, 0, 0⟩) => Lib.hid (right_tl w.heap.size ⟨7, 0, 0⟩ 0 W h (by decide))
  have W1 := fun W (h : TAt 45 W w.heap.size ⟨7, 1, 0⟩) => Lib.hid (wrong_tl w.heap.size ⟨7, 1, 0⟩ 1 W h (by decide))
  have W2 := fun W (h : TAt 45 W w.heap.size ⟨5, 1, 1⟩) => Lib.hid (wrong_tl w.heap.size ⟨5, 1, 1⟩ 2 W h (by decide))
  have C := fun W (h : TAt 45 W w.heap.size ⟨1, 1, 2⟩) => Lib.hid (counts_tl w.heap.size ⟨1, 1, 2⟩ W h)
  have Q := fun W (h : TAt 45 W w.heap.size ⟨1, 1, 2⟩) => Lib.hid (clique_tl w.heap.size ⟨1, 1, 2⟩ W h)
  have A := fun W (h : TAt 45 W w.heap.size ⟨1, 1, 2⟩) => Lib.hid (alone_tl w.heap.size ⟨1, 1, 2⟩ W h)
  have M := fun W (h : TAt 45 W w.heap.size ⟨1, 1, 2⟩) => Lib.hid (members_tl w.heap.size ⟨1, 1, 2⟩ W h)
  rw [show (TS.right ⟨7, 0, 0⟩ 0) = ⟨7, 1, 0⟩ by decide] at R
  rw [show (TS.wrong ⟨7, 1, 0⟩ 1) = ⟨5, 1, 1⟩ by decide] at W1
  rw [show (TS.wrong ⟨5, 1, 1⟩ 2) = ⟨1, 1, 2⟩ by decide] at W2
  rw [show decide ((⟨1, 1, 2⟩ : TS).f ≤ (⟨1, 1, 2⟩ : TS).a) = false by decide] at Q
  rw [show decide ((⟨1, 1, 2⟩ : TS).a = 0) = false by decide] at A
  go_enter Try.func21, Try.ntmps21
  go_wp2_with fail
  refine (N _).out.mono ?_
  rintro _ w1 ⟨rfl, h1, b1, -⟩
  go_wp2_with fail
  refine (R _ h1).out.mono ?_
  rintro _ w2 ⟨rfl, h2, o2⟩
  have b2 := b1.trans (o2.below (Nat.le_refl _) h1.lt)
  clear h1 b1 o2
  go_wp2_with fail
  refine (W1 _ h2).out.mono ?_
  rintro _ w3 ⟨rfl, h3, o3⟩
  have b3 := b2.trans (o3.below (Nat.le_refl _) h2.lt)
  clear h2 b2 o3
  go_wp2_with fail
  refine (W2 _ h3).out.mono ?_
  rintro _ w4 ⟨rfl, h4, o4⟩
  have b4 := b3.trans (o4.below (Nat.le_refl _) h3.lt)
  clear h3 b3 o4
  go_wp2_with fail
  refine (C _ h4).out.mono ?_
  rintro _ _ ⟨rfl, m5, rfl⟩
  have h5 := h4.drewN m5
  have b5 := below_drewN b4 m5
  generalize w4.drewN m5 = w5 at *
  clear h4 b4
  go_wp2_with fail
  refine (Q _ h5).out.mono ?_
  rintro _ _ ⟨rfl, m6, rfl⟩
  have h6 := h5.drewN m6
  have b6 := below_drewN b5 m6
  generalize w5.drewN m6 = w6 at *
  clear h5 b5
  go_wp2_with fail
  refine (A _ h6).out.mono ?_
  rintro _ _ ⟨rfl, m7, rfl⟩
  have h7 := h6.drewN m7
  have b7 := below_drewN b6 m7
  generalize w6.drewN m7 = w7 at *
  clear h6 b6
  go_wp2_with fail
  refine (M _ h7).out.mono ?_
  rintro _ _ ⟨rfl, m8, rfl⟩
  have b8 := below_drewN b7 m8
  generalize w7.drewN m8 = w8 at *
  go_wp2
  go_ret
  exact ⟨rfl, b8⟩
end Go.Proofs.Ytpdjpbchfbicfaa
