/- FrameOdd holds: frames and states with a number beyond its bounds may not be. For all ways and numbers. -/
import Derived.Test.YthlanmomgpcbcaaFrP
namespace Go.Proofs.Ythlanmomgpcbcaa
open Go.ChangeShapes Go.WideShapes Go.ChangeAt Go.RowKit
open Go.ChangeMaps (open_string shut_string)
open Fr (St F)

set_option maxRecDepth 100000 in
set_option maxHeartbeats 20000000 in
theorem walk_frameOdd (t n : Int) (w : World) (_ht : -9223372036854775808 ≤ t ∧ t ≤ 9223372036854775807) (hn : -9223372036854775808 ≤ n ∧ n ≤ 9223372036854775807) :
    Calls Try.prog 9 #[.int .i64 t, .int .i64 n] w fun e w' => e = .returned (.bool true) ∧ Below w.heap.size w w' := by
  have hnil : ∀ x ∈ ([] : List Int), 0 ≤ x ∧ x < 256 := fun x hx => by cases hx
  by_cases h0 : t < 0
  · go_enter Try.func9, Try.ntmps9
    go_wp2
    go_ret
    exact ⟨rfl, Below.refl _ _⟩
  by_cases h4 : 4 < t
  · go_enter Try.func9, Try.ntmps9
    go_wp2
    go_ret
    exact ⟨rfl, Below.refl _ _⟩
  have hcase : t = 0 ∨ t = 1 ∨ t = 2 ∨ t = 3 ∨ t = 4 := by omega
  clear h0 h4
  rcases hcase with rfl | rfl | rfl | rfl | rfl
  · by_cases q1 : 1 ≤ n
    · by_cases q2 : n ≤ 3
      · have hI : F.is ⟨n, ⟨0, 0, 0⟩, []⟩ = true := by simp [F.is, St.may]; omega
        have R1 := fun W (hb : Below w.heap.size w W) => encode_dev ⟨n, ⟨0, 0, 0⟩, []⟩ (.slice none 0 0) W SeesL.nil hnil
        have R2 := fun W (hb : Below w.heap.size w W) => is_dev ⟨n, ⟨0, 0, 0⟩, []⟩ (.slice none 0 0) W W.heap.size SeesL.nil
        unfold Enc encE at R1
        rw [hI] at R2
        simp only [hI, if_true] at R1
        unfold frV at R1 R2
        simp only at R1 R2
        have Q1 := fun W hb => Lib.hid (R1 W hb)
        have Q2 := fun W hb => Lib.hid (R2 W hb)
        clear R1 R2 hI
        go_enter Try.func9, Try.ntmps9
        go_wp2_with fail
        have hbox := Lib.hid (box5 w (.int .i64 n) (.int .i64 0) (.int .i64 0) (.int .i64 0) (.slice none 0 0) 26)
        generalize w.alloc (.cells #[.int .i64 n, .int .i64 0, .int .i64 0, .int .i64 0, .slice none 0 0] 26) = w0 at *
        have hz0 : w0.heap.size ≤ w.heap.size + 1 ∧ w.heap.size + 1 ≤ w0.heap.size := by have := hbox.out.size; omega
        refine (Q1 _ hbox.out.below).out.mono ?_
        rintro e w1 ⟨v1, rfl, -, hb⟩
        have hb1 := hbox.out.below.trans (hb.mono (by omega))
        obtain ⟨z1, c10, c11, c12, c13, c14⟩ := hbox.out.cell w1 hb
        clear Q1 hb
        go_wp2_with fail
        refine (Q2 _ hb1).out.mono ?_
        rintro e w2 ⟨rfl, hb⟩
        have hb2 := hb1.trans (hb.mono hb1.size)
        clear Q2 hb
        go_wp2_with (go_at_call 22; refine (knownFr_any _).mono ?_; rintro e wf ⟨rfl, hb6⟩)
        go_ret
        exact ⟨by simp, hb2.trans (hb6.mono hb2.size)⟩
      · have hI : F.is ⟨n, ⟨0, 0, 0⟩, []⟩ = false := by simp [F.is, St.may]; omega
        have R1 := fun W (hb : Below w.heap.size w W) => encode_dev ⟨n, ⟨0, 0, 0⟩, []⟩ (.slice none 0 0) W SeesL.nil hnil
        have R2 := fun W (hb : Below w.heap.size w W) => is_dev ⟨n, ⟨0, 0, 0⟩, []⟩ (.slice none 0 0) W W.heap.size SeesL.nil
        unfold Enc encE at R1
        rw [hI] at R2
        simp only [hI, if_false, Bool.false_eq_true] at R1
        unfold frV at R1 R2
        simp only at R1 R2
        have Q1 := fun W hb => Lib.hid (R1 W hb)
        have Q2 := fun W hb => Lib.hid (R2 W hb)
        clear R1 R2 hI
        go_enter Try.func9, Try.ntmps9
        go_wp2_with fail
        have hbox := Lib.hid (box5 w (.int .i64 n) (.int .i64 0) (.int .i64 0) (.int .i64 0) (.slice none 0 0) 26)
        generalize w.alloc (.cells #[.int .i64 n, .int .i64 0, .int .i64 0, .int .i64 0, .slice none 0 0] 26) = w0 at *
        have hz0 : w0.heap.size ≤ w.heap.size + 1 ∧ w.heap.size + 1 ≤ w0.heap.size := by have := hbox.out.size; omega
        refine (Q1 _ hbox.out.below).out.mono ?_
        rintro e w1 ⟨v1, rfl, -, hb⟩
        have hb1 := hbox.out.below.trans (hb.mono (by omega))
        obtain ⟨z1, c10, c11, c12, c13, c14⟩ := hbox.out.cell w1 hb
        clear Q1 hb
        go_wp2_with fail
        refine (Q2 _ hb1).out.mono ?_
        rintro e w2 ⟨rfl, hb⟩
        have hb2 := hb1.trans (hb.mono hb1.size)
        clear Q2 hb
        go_wp2_with (go_at_call 22; refine (knownFr_any _).mono ?_; rintro e wf ⟨rfl, hb6⟩)
        go_ret
        exact ⟨by simp, hb2.trans (hb6.mono hb2.size)⟩
    · have hI : F.is ⟨n, ⟨0, 0, 0⟩, []⟩ = false := by simp [F.is, St.may]; omega
      have R1 := fun W (hb : Below w.heap.size w W) => encode_dev ⟨n, ⟨0, 0, 0⟩, []⟩ (.slice none 0 0) W SeesL.nil hnil
      have R2 := fun W (hb : Below w.heap.size w W) => is_dev ⟨n, ⟨0, 0, 0⟩, []⟩ (.slice none 0 0) W W.heap.size SeesL.nil
      unfold Enc encE at R1
      rw [hI] at R2
      simp only [hI, if_false, Bool.false_eq_true] at R1
      unfold frV at R1 R2
      simp only at R1 R2
      have Q1 := fun W hb => Lib.hid (R1 W hb)
      have Q2 := fun W hb => Lib.hid (R2 W hb)
      clear R1 R2 hI
      go_enter Try.func9, Try.ntmps9
      go_wp2_with fail
      have hbox := Lib.hid (box5 w (.int .i64 n) (.int .i64 0) (.int .i64 0) (.int .i64 0) (.slice none 0 0) 26)
      generalize w.alloc (.cells #[.int .i64 n, .int .i64 0, .int .i64 0, .int .i64 0, .slice none 0 0] 26) = w0 at *
      have hz0 : w0.heap.size ≤ w.heap.size + 1 ∧ w.heap.size + 1 ≤ w0.heap.size := by have := hbox.out.size; omega
      refine (Q1 _ hbox.out.below).out.mono ?_
      rintro e w1 ⟨v1, rfl, -, hb⟩
      have hb1 := hbox.out.below.trans (hb.mono (by omega))
      obtain ⟨z1, c10, c11, c12, c13, c14⟩ := hbox.out.cell w1 hb
      clear Q1 hb
      go_wp2_with fail
      refine (Q2 _ hb1).out.mono ?_
      rintro e w2 ⟨rfl, hb⟩
      have hb2 := hb1.trans (hb.mono hb1.size)
      clear Q2 hb
      go_wp2_with (go_at_call 22; refine (knownFr_any _).mono ?_; rintro e wf ⟨rfl, hb6⟩)
      go_ret
      exact ⟨by simp, hb2.trans (hb6.mono hb2.size)⟩
  · by_cases q1 : 0 ≤ n
    · by_cases q2 : n ≤ 65535
      · have hI : F.is ⟨2, ⟨n, 0, 0⟩, []⟩ = true := by simp [F.is, St.may]; omega
        have R1 := fun W (hb : Below w.heap.size w W) => encode_dev ⟨2, ⟨n, 0, 0⟩, []⟩ (.slice none 0 0) W SeesL.nil hnil
        have R2 := fun W (hb : Below w.heap.size w W) => is_dev ⟨2, ⟨n, 0, 0⟩, []⟩ (.slice none 0 0) W W.heap.size SeesL.nil
        unfold Enc encE at R1
        rw [hI] at R2
        simp only [hI, if_true] at R1
        unfold frV at R1 R2
        simp only at R1 R2
        have Q1 := fun W hb => Lib.hid (R1 W hb)
        have Q2 := fun W hb => Lib.hid (R2 W hb)
        clear R1 R2 hI
        go_enter Try.func9, Try.ntmps9
        go_wp2_with fail
        have hbox := Lib.hid (box5 w (.int .i64 2) (.int .i64 n) (.int .i64 0) (.int .i64 0) (.slice none 0 0) 26)
        generalize w.alloc (.cells #[.int .i64 2, .int .i64 n, .int .i64 0, .int .i64 0, .slice none 0 0] 26) = w0 at *
        have hz0 : w0.heap.size ≤ w.heap.size + 1 ∧ w.heap.size + 1 ≤ w0.heap.size := by have := hbox.out.size; omega
        refine (Q1 _ hbox.out.below).out.mono ?_
        rintro e w1 ⟨v1, rfl, -, hb⟩
        have hb1 := hbox.out.below.trans (hb.mono (by omega))
        obtain ⟨z1, c10, c11, c12, c13, c14⟩ := hbox.out.cell w1 hb
        clear Q1 hb
        go_wp2_with fail
        refine (Q2 _ hb1).out.mono ?_
        rintro e w2 ⟨rfl, hb⟩
        have hb2 := hb1.trans (hb.mono hb1.size)
        clear Q2 hb
        go_wp2_with (go_at_call 22; refine (knownFr_any _).mono ?_; rintro e wf ⟨rfl, hb6⟩)
        go_ret
        exact ⟨by simp, hb2.trans (hb6.mono hb2.size)⟩
      · have hI : F.is ⟨2, ⟨n, 0, 0⟩, []⟩ = false := by simp [F.is, St.may]; omega
        have R1 := fun W (hb : Below w.heap.size w W) => encode_dev ⟨2, ⟨n, 0, 0⟩, []⟩ (.slice none 0 0) W SeesL.nil hnil
        have R2 := fun W (hb : Below w.heap.size w W) => is_dev ⟨2, ⟨n, 0, 0⟩, []⟩ (.slice none 0 0) W W.heap.size SeesL.nil
        unfold Enc encE at R1
        rw [hI] at R2
        simp only [hI, if_false, Bool.false_eq_true] at R1
        unfold frV at R1 R2
        simp only at R1 R2
        have Q1 := fun W hb => Lib.hid (R1 W hb)
        have Q2 := fun W hb => Lib.hid (R2 W hb)
        clear R1 R2 hI
        go_enter Try.func9, Try.ntmps9
        go_wp2_with fail
        have hbox := Lib.hid (box5 w (.int .i64 2) (.int .i64 n) (.int .i64 0) (.int .i64 0) (.slice none 0 0) 26)
        generalize w.alloc (.cells #[.int .i64 2, .int .i64 n, .int .i64 0, .int .i64 0, .slice none 0 0] 26) = w0 at *
        have hz0 : w0.heap.size ≤ w.heap.size + 1 ∧ w.heap.size + 1 ≤ w0.heap.size := by have := hbox.out.size; omega
        refine (Q1 _ hbox.out.below).out.mono ?_
        rintro e w1 ⟨v1, rfl, -, hb⟩
        have hb1 := hbox.out.below.trans (hb.mono (by omega))
        obtain ⟨z1, c10, c11, c12, c13, c14⟩ := hbox.out.cell w1 hb
        clear Q1 hb
        go_wp2_with fail
        refine (Q2 _ hb1).out.mono ?_
        rintro e w2 ⟨rfl, hb⟩
        have hb2 := hb1.trans (hb.mono hb1.size)
        clear Q2 hb
        go_wp2_with (go_at_call 22; refine (knownFr_any _).mono ?_; rintro e wf ⟨rfl, hb6⟩)
        go_ret
        exact ⟨by simp, hb2.trans (hb6.mono hb2.size)⟩
    · have hI : F.is ⟨2, ⟨n, 0, 0⟩, []⟩ = false := by simp [F.is, St.may]; omega
      have R1 := fun W (hb : Below w.heap.size w W) => encode_dev ⟨2, ⟨n, 0, 0⟩, []⟩ (.slice none 0 0) W SeesL.nil hnil
      have R2 := fun W (hb : Below w.heap.size w W) => is_dev ⟨2, ⟨n, 0, 0⟩, []⟩ (.slice none 0 0) W W.heap.size SeesL.nil
      unfold Enc encE at R1
      rw [hI] at R2
      simp only [hI, if_false, Bool.false_eq_true] at R1
      unfold frV at R1 R2
      simp only at R1 R2
      have Q1 := fun W hb => Lib.hid (R1 W hb)
      have Q2 := fun W hb => Lib.hid (R2 W hb)
      clear R1 R2 hI
      go_enter Try.func9, Try.ntmps9
      go_wp2_with fail
      have hbox := Lib.hid (box5 w (.int .i64 2) (.int .i64 n) (.int .i64 0) (.int .i64 0) (.slice none 0 0) 26)
      generalize w.alloc (.cells #[.int .i64 2, .int .i64 n, .int .i64 0, .int .i64 0, .slice none 0 0] 26) = w0 at *
      have hz0 : w0.heap.size ≤ w.heap.size + 1 ∧ w.heap.size + 1 ≤ w0.heap.size := by have := hbox.out.size; omega
      refine (Q1 _ hbox.out.below).out.mono ?_
      rintro e w1 ⟨v1, rfl, -, hb⟩
      have hb1 := hbox.out.below.trans (hb.mono (by omega))
      obtain ⟨z1, c10, c11, c12, c13, c14⟩ := hbox.out.cell w1 hb
      clear Q1 hb
      go_wp2_with fail
      refine (Q2 _ hb1).out.mono ?_
      rintro e w2 ⟨rfl, hb⟩
      have hb2 := hb1.trans (hb.mono hb1.size)
      clear Q2 hb
      go_wp2_with (go_at_call 22; refine (knownFr_any _).mono ?_; rintro e wf ⟨rfl, hb6⟩)
      go_ret
      exact ⟨by simp, hb2.trans (hb6.mono hb2.size)⟩
  · by_cases q1 : 0 ≤ n
    · by_cases q2 : n ≤ 7
      · have hI : F.is ⟨2, ⟨0, n, 0⟩, []⟩ = true := by simp [F.is, St.may]; omega
        have R1 := fun W (hb : Below w.heap.size w W) => encode_dev ⟨2, ⟨0, n, 0⟩, []⟩ (.slice none 0 0) W SeesL.nil hnil
        have R2 := fun W (hb : Below w.heap.size w W) => is_dev ⟨2, ⟨0, n, 0⟩, []⟩ (.slice none 0 0) W W.heap.size SeesL.nil
        unfold Enc encE at R1
        rw [hI] at R2
        simp only [hI, if_true] at R1
        unfold frV at R1 R2
        simp only at R1 R2
        have Q1 := fun W hb => Lib.hid (R1 W hb)
        have Q2 := fun W hb => Lib.hid (R2 W hb)
        clear R1 R2 hI
        go_enter Try.func9, Try.ntmps9
        go_wp2_with fail
        have hbox := Lib.hid (box5 w (.int .i64 2) (.int .i64 0) (.int .i64 n) (.int .i64 0) (.slice none 0 0) 26)
        generalize w.alloc (.cells #[.int .i64 2, .int .i64 0, .int .i64 n, .int .i64 0, .slice none 0 0] 26) = w0 at *
        have hz0 : w0.heap.size ≤ w.heap.size + 1 ∧ w.heap.size + 1 ≤ w0.heap.size := by have := hbox.out.size; omega
        refine (Q1 _ hbox.out.below).out.mono ?_
        rintro e w1 ⟨v1, rfl, -, hb⟩
        have hb1 := hbox.out.below.trans (hb.mono (by omega))
        obtain ⟨z1, c10, c11, c12, c13, c14⟩ := hbox.out.cell w1 hb
        clear Q1 hb
        go_wp2_with fail
        refine (Q2 _ hb1).out.mono ?_
        rintro e w2 ⟨rfl, hb⟩
        have hb2 := hb1.trans (hb.mono hb1.size)
        clear Q2 hb
        go_wp2_with (go_at_call 22; refine (knownFr_any _).mono ?_; rintro e wf ⟨rfl, hb6⟩)
        go_ret
        exact ⟨by simp, hb2.trans (hb6.mono hb2.size)⟩
      · have hI : F.is ⟨2, ⟨0, n, 0⟩, []⟩ = false := by simp [F.is, St.may]; omega
        have R1 := fun W (hb : Below w.heap.size w W) => encode_dev ⟨2, ⟨0, n, 0⟩, []⟩ (.slice none 0 0) W SeesL.nil hnil
        have R2 := fun W (hb : Below w.heap.size w W) => is_dev ⟨2, ⟨0, n, 0⟩, []⟩ (.slice none 0 0) W W.heap.size SeesL.nil
        unfold Enc encE at R1
        rw [hI] at R2
        simp only [hI, if_false, Bool.false_eq_true] at R1
        unfold frV at R1 R2
        simp only at R1 R2
        have Q1 := fun W hb => Lib.hid (R1 W hb)
        have Q2 := fun W hb => Lib.hid (R2 W hb)
        clear R1 R2 hI
        go_enter Try.func9, Try.ntmps9
        go_wp2_with fail
        have hbox := Lib.hid (box5 w (.int .i64 2) (.int .i64 0) (.int .i64 n) (.int .i64 0) (.slice none 0 0) 26)
        generalize w.alloc (.cells #[.int .i64 2, .int .i64 0, .int .i64 n, .int .i64 0, .slice none 0 0] 26) = w0 at *
        have hz0 : w0.heap.size ≤ w.heap.size + 1 ∧ w.heap.size + 1 ≤ w0.heap.size := by have := hbox.out.size; omega
        refine (Q1 _ hbox.out.below).out.mono ?_
        rintro e w1 ⟨v1, rfl, -, hb⟩
        have hb1 := hbox.out.below.trans (hb.mono (by omega))
        obtain ⟨z1, c10, c11, c12, c13, c14⟩ := hbox.out.cell w1 hb
        clear Q1 hb
        go_wp2_with fail
        refine (Q2 _ hb1).out.mono ?_
        rintro e w2 ⟨rfl, hb⟩
        have hb2 := hb1.trans (hb.mono hb1.size)
        clear Q2 hb
        go_wp2_with (go_at_call 22; refine (knownFr_any _).mono ?_; rintro e wf ⟨rfl, hb6⟩)
        go_ret
        exact ⟨by simp, hb2.trans (hb6.mono hb2.size)⟩
    · have hI : F.is ⟨2, ⟨0, n, 0⟩, []⟩ = false := by simp [F.is, St.may]; omega
      have R1 := fun W (hb : Below w.heap.size w W) => encode_dev ⟨2, ⟨0, n, 0⟩, []⟩ (.slice none 0 0) W SeesL.nil hnil
      have R2 := fun W (hb : Below w.heap.size w W) => is_dev ⟨2, ⟨0, n, 0⟩, []⟩ (.slice none 0 0) W W.heap.size SeesL.nil
      unfold Enc encE at R1
      rw [hI] at R2
      simp only [hI, if_false, Bool.false_eq_true] at R1
      unfold frV at R1 R2
      simp only at R1 R2
      have Q1 := fun W hb => Lib.hid (R1 W hb)
      have Q2 := fun W hb => Lib.hid (R2 W hb)
      clear R1 R2 hI
      go_enter Try.func9, Try.ntmps9
      go_wp2_with fail
      have hbox := Lib.hid (box5 w (.int .i64 2) (.int .i64 0) (.int .i64 n) (.int .i64 0) (.slice none 0 0) 26)
      generalize w.alloc (.cells #[.int .i64 2, .int .i64 0, .int .i64 n, .int .i64 0, .slice none 0 0] 26) = w0 at *
      have hz0 : w0.heap.size ≤ w.heap.size + 1 ∧ w.heap.size + 1 ≤ w0.heap.size := by have := hbox.out.size; omega
      refine (Q1 _ hbox.out.below).out.mono ?_
      rintro e w1 ⟨v1, rfl, -, hb⟩
      have hb1 := hbox.out.below.trans (hb.mono (by omega))
      obtain ⟨z1, c10, c11, c12, c13, c14⟩ := hbox.out.cell w1 hb
      clear Q1 hb
      go_wp2_with fail
      refine (Q2 _ hb1).out.mono ?_
      rintro e w2 ⟨rfl, hb⟩
      have hb2 := hb1.trans (hb.mono hb1.size)
      clear Q2 hb
      go_wp2_with (go_at_call 22; refine (knownFr_any _).mono ?_; rintro e wf ⟨rfl, hb6⟩)
      go_ret
      exact ⟨by simp, hb2.trans (hb6.mono hb2.size)⟩
  · by_cases q1 : 0 ≤ n
    · by_cases q2 : n ≤ 255
      · have hI : F.is ⟨2, ⟨0, 0, n⟩, []⟩ = true := by simp [F.is, St.may]; omega
        have R1 := fun W (hb : Below w.heap.size w W) => encode_dev ⟨2, ⟨0, 0, n⟩, []⟩ (.slice none 0 0) W SeesL.nil hnil
        have R2 := fun W (hb : Below w.heap.size w W) => is_dev ⟨2, ⟨0, 0, n⟩, []⟩ (.slice none 0 0) W W.heap.size SeesL.nil
        unfold Enc encE at R1
        rw [hI] at R2
        simp only [hI, if_true] at R1
        unfold frV at R1 R2
        simp only at R1 R2
        have Q1 := fun W hb => Lib.hid (R1 W hb)
        have Q2 := fun W hb => Lib.hid (R2 W hb)
        clear R1 R2 hI
        go_enter Try.func9, Try.ntmps9
        go_wp2_with fail
        have hbox := Lib.hid (box5 w (.int .i64 2) (.int .i64 0) (.int .i64 0) (.int .i64 n) (.slice none 0 0) 26)
        generalize w.alloc (.cells #[.int .i64 2, .int .i64 0, .int .i64 0, .int .i64 n, .slice none 0 0] 26) = w0 at *
        have hz0 : w0.heap.size ≤ w.heap.size + 1 ∧ w.heap.size + 1 ≤ w0.heap.size := by have := hbox.out.size; omega
        refine (Q1 _ hbox.out.below).out.mono ?_
        rintro e w1 ⟨v1, rfl, -, hb⟩
        have hb1 := hbox.out.below.trans (hb.mono (by omega))
        obtain ⟨z1, c10, c11, c12, c13, c14⟩ := hbox.out.cell w1 hb
        clear Q1 hb
        go_wp2_with fail
        refine (Q2 _ hb1).out.mono ?_
        rintro e w2 ⟨rfl, hb⟩
        have hb2 := hb1.trans (hb.mono hb1.size)
        clear Q2 hb
        go_wp2_with (go_at_call 22; refine (knownFr_any _).mono ?_; rintro e wf ⟨rfl, hb6⟩)
        go_ret
        exact ⟨by simp, hb2.trans (hb6.mono hb2.size)⟩
      · have hI : F.is ⟨2, ⟨0, 0, n⟩, []⟩ = false := by simp [F.is, St.may]; omega
        have R1 := fun W (hb : Below w.heap.size w W) => encode_dev ⟨2, ⟨0, 0, n⟩, []⟩ (.slice none 0 0) W SeesL.nil hnil
        have R2 := fun W (hb : Below w.heap.size w W) => is_dev ⟨2, ⟨0, 0, n⟩, []⟩ (.slice none 0 0) W W.heap.size SeesL.nil
        unfold Enc encE at R1
        rw [hI] at R2
        simp only [hI, if_false, Bool.false_eq_true] at R1
        unfold frV at R1 R2
        simp only at R1 R2
        have Q1 := fun W hb => Lib.hid (R1 W hb)
        have Q2 := fun W hb => Lib.hid (R2 W hb)
        clear R1 R2 hI
        go_enter Try.func9, Try.ntmps9
        go_wp2_with fail
        have hbox := Lib.hid (box5 w (.int .i64 2) (.int .i64 0) (.int .i64 0) (.int .i64 n) (.slice none 0 0) 26)
        generalize w.alloc (.cells #[.int .i64 2, .int .i64 0, .int .i64 0, .int .i64 n, .slice none 0 0] 26) = w0 at *
        have hz0 : w0.heap.size ≤ w.heap.size + 1 ∧ w.heap.size + 1 ≤ w0.heap.size := by have := hbox.out.size; omega
        refine (Q1 _ hbox.out.below).out.mono ?_
        rintro e w1 ⟨v1, rfl, -, hb⟩
        have hb1 := hbox.out.below.trans (hb.mono (by omega))
        obtain ⟨z1, c10, c11, c12, c13, c14⟩ := hbox.out.cell w1 hb
        clear Q1 hb
        go_wp2_with fail
        refine (Q2 _ hb1).out.mono ?_
        rintro e w2 ⟨rfl, hb⟩
        have hb2 := hb1.trans (hb.mono hb1.size)
        clear Q2 hb
        go_wp2_with (go_at_call 22; refine (knownFr_any _).mono ?_; rintro e wf ⟨rfl, hb6⟩)
        go_ret
        exact ⟨by simp, hb2.trans (hb6.mono hb2.size)⟩
    · have hI : F.is ⟨2, ⟨0, 0, n⟩, []⟩ = false := by simp [F.is, St.may]; omega
      have R1 := fun W (hb : Below w.heap.size w W) => encode_dev ⟨2, ⟨0, 0, n⟩, []⟩ (.slice none 0 0) W SeesL.nil hnil
      have R2 := fun W (hb : Below w.heap.size w W) => is_dev ⟨2, ⟨0, 0, n⟩, []⟩ (.slice none 0 0) W W.heap.size SeesL.nil
      unfold Enc encE at R1
      rw [hI] at R2
      simp only [hI, if_false, Bool.false_eq_true] at R1
      unfold frV at R1 R2
      simp only at R1 R2
      have Q1 := fun W hb => Lib.hid (R1 W hb)
      have Q2 := fun W hb => Lib.hid (R2 W hb)
      clear R1 R2 hI
      go_enter Try.func9, Try.ntmps9
      go_wp2_with fail
      have hbox := Lib.hid (box5 w (.int .i64 2) (.int .i64 0) (.int .i64 0) (.int .i64 n) (.slice none 0 0) 26)
      generalize w.alloc (.cells #[.int .i64 2, .int .i64 0, .int .i64 0, .int .i64 n, .slice none 0 0] 26) = w0 at *
      have hz0 : w0.heap.size ≤ w.heap.size + 1 ∧ w.heap.size + 1 ≤ w0.heap.size := by have := hbox.out.size; omega
      refine (Q1 _ hbox.out.below).out.mono ?_
      rintro e w1 ⟨v1, rfl, -, hb⟩
      have hb1 := hbox.out.below.trans (hb.mono (by omega))
      obtain ⟨z1, c10, c11, c12, c13, c14⟩ := hbox.out.cell w1 hb
      clear Q1 hb
      go_wp2_with fail
      refine (Q2 _ hb1).out.mono ?_
      rintro e w2 ⟨rfl, hb⟩
      have hb2 := hb1.trans (hb.mono hb1.size)
      clear Q2 hb
      go_wp2_with (go_at_call 22; refine (knownFr_any _).mono ?_; rintro e wf ⟨rfl, hb6⟩)
      go_ret
      exact ⟨by simp, hb2.trans (hb6.mono hb2.size)⟩
  · by_cases q1 : n < 0
    · go_enter Try.func9, Try.ntmps9
      go_wp2
      go_ret
      exact ⟨rfl, (Below.refl _ _).alloc (Nat.le_refl _) _⟩
    by_cases q2 : 40 < n
    · go_enter Try.func9, Try.ntmps9
      go_wp2
      go_ret
      exact ⟨rfl, (Below.refl _ _).alloc (Nat.le_refl _) _⟩
    obtain ⟨m, rfl⟩ := Int.eq_ofNat_of_zero_le (show 0 ≤ n by omega)
    have hm : m ≤ 40 := by omega
    obtain ⟨X, hX⟩ : ∃ X, X = w.alloc (.cells #[.int .i64 2, .int .i64 0, .int .i64 0, .int .i64 0, .slice none 0 0] 26) := ⟨_, rfl⟩
    have hXs : X.heap.size = w.heap.size + 1 := by rw [hX]; simp
    have hXb : Below w.heap.size w X := by rw [hX]; exact (Below.refl _ _).alloc (Nat.le_refl _) _
    have hXc := (box5 w (.int .i64 2) (.int .i64 0) (.int .i64 0) (.int .i64 0) (.slice none 0 0) 26).cell X (by rw [hX]; exact Below.refl _ _)
    have hXf : ∀ i, X.frozen? ⟨w.heap.size, i, none⟩ = false := fun i => by rw [hX]; exact World.frozen?_alloc_new _ _ _ _
    by_cases q3 : (m : Int) ≤ 8
    · have hI : F.is ⟨2, ⟨0, 0, 0⟩, List.replicate m 0⟩ = true := by simp [F.is, St.may]; omega
      go_enter Try.func9, Try.ntmps9
      go_wp2_with (at_make; go_loud (refine wpList_zeros _ rfl _ _ 24 rfl (w.heap.size + 1) (w.alloc (.cells #[.int .i64 2, .int .i64 0, .int .i64 0, .int .i64 0, .slice none 0 0] 26)) (Below.refl _ _) (by simp) 5 (.int .u8 0) 1 infoU8 rfl Try.underlying24 _ _ _ _ m rfl rfl rfl rfl (by omega) (by unfold maxLen; omega) ?_))
      intro w3 ho hb hz _
      rw [← hX] at hb
      have hc := bcell hb
      obtain ⟨-, x0, x1, x2, x3, x4⟩ := hXc
      have b0 := (hc w.heap.size 0 (by omega)).trans x0
      have b1 := (hc w.heap.size 1 (by omega)).trans x1
      have b2 := (hc w.heap.size 2 (by omega)).trans x2
      have b3 := (hc w.heap.size 3 (by omega)).trans x3
      have b4 := (hc w.heap.size 4 (by omega)).trans x4
      have bz : w3.frozen? ⟨w.heap.size, 4, none⟩ = false := (hb.frozen (p := ⟨w.heap.size, 4, none⟩) (by simp)).trans (hXf 4)
      have ho' : OwnsL w3 (w.heap.size + 1) (.slice (some ⟨w.heap.size + 1, 0, none⟩) m m) (List.replicate m 0) := by
        unfold OwnsL
        rw [List.length_replicate]
        try simp only [World.size_alloc] at ho
        exact ho.alike fun k hk => by simp [bv, List.getD_eq_getElem?_getD, hk]
      have ho2 := ho'.other (g := w.heap.size) (by omega) 4 (.slice (some ⟨w.heap.size + 1, 0, none⟩) m m)
      have hb3 : Below w.heap.size w w3 := hXb.trans (hb.mono (by omega))
      have hb4 := hb3.setCell (p := ⟨w.heap.size, 4, none⟩) (Nat.le_refl _) (.slice (some ⟨w.heap.size + 1, 0, none⟩) m m)
      have k0 : (w3.setCell ⟨w.heap.size, 4, none⟩ (.slice (some ⟨w.heap.size + 1, 0, none⟩) m m)).cell? ⟨w.heap.size, 0, none⟩ = some (.int .i64 2) := (World.cell?_setCell_other _ _ _ _ (by simp)).trans b0
      have k1 : (w3.setCell ⟨w.heap.size, 4, none⟩ (.slice (some ⟨w.heap.size + 1, 0, none⟩) m m)).cell? ⟨w.heap.size, 1, none⟩ = some (.int .i64 0) := (World.cell?_setCell_other _ _ _ _ (by simp)).trans b1
      have k2 : (w3.setCell ⟨w.heap.size, 4, none⟩ (.slice (some ⟨w.heap.size + 1, 0, none⟩) m m)).cell? ⟨w.heap.size, 2, none⟩ = some (.int .i64 0) := (World.cell?_setCell_other _ _ _ _ (by simp)).trans b2
      have k3 : (w3.setCell ⟨w.heap.size, 4, none⟩ (.slice (some ⟨w.heap.size + 1, 0, none⟩) m m)).cell? ⟨w.heap.size, 3, none⟩ = some (.int .i64 0) := (World.cell?_setCell_other _ _ _ _ (by simp)).trans b3
      have k4 : (w3.setCell ⟨w.heap.size, 4, none⟩ (.slice (some ⟨w.heap.size + 1, 0, none⟩) m m)).cell? ⟨w.heap.size, 4, none⟩ = some (.slice (some ⟨w.heap.size + 1, 0, none⟩) m m) := World.cell?_setCell_same _ _ _ b4
      have hz3 : w.heap.size < (w3.setCell ⟨w.heap.size, 4, none⟩ (.slice (some ⟨w.heap.size + 1, 0, none⟩) m m)).heap.size := by have := hb.size; simp [World.setCell]; omega
      have ho3 := Lib.hid ho2
      clear ho ho' ho2 hb hc x0 x1 x2 x3 x4 hXf hXb hz hX hXs
      have hrep : ∀ x ∈ List.replicate m (0 : Int), 0 ≤ x ∧ x < 256 := fun x hx => by rw [List.eq_of_mem_replicate hx]; decide
      go_wp2_with fail
      generalize w3.setCell ⟨w.heap.size, 4, none⟩ (.slice (some ⟨w.heap.size + 1, 0, none⟩) m m) = w4 at *
      have b4' : w4.cell? ⟨w.heap.size, 4, none⟩ = some (.slice (some ⟨w.heap.size + 1, 0, none⟩) m m) := k4
      have R1 := encode_dev ⟨2, ⟨0, 0, 0⟩, List.replicate m 0⟩ (.slice (some ⟨w.heap.size + 1, 0, none⟩) m m) w4 ho3.out.sees hrep
      have hsl := ho3.out.sees
      have R2 := fun W (hb : Below w4.heap.size w4 W) => is_dev ⟨2, ⟨0, 0, 0⟩, List.replicate m 0⟩ (.slice (some ⟨w.heap.size + 1, 0, none⟩) m m) W w4.heap.size (hsl.below hb)
      unfold Enc encE at R1
      rw [hI] at R2
      simp only [hI, if_true] at R1
      unfold frV at R1 R2
      simp only at R1 R2
      have Q1 := Lib.hid R1
      have Q2 := fun W hb => Lib.hid (R2 W hb)
      clear R1 R2 hI hsl ho3 hrep
      refine Q1.out.mono ?_
      rintro e w5 ⟨v1, rfl, -, hb⟩
      have hc := bcell hb
      have d0 := (hc w.heap.size 0 (by omega)).trans k0
      have d1 := (hc w.heap.size 1 (by omega)).trans k1
      have d2 := (hc w.heap.size 2 (by omega)).trans k2
      have d3 := (hc w.heap.size 3 (by omega)).trans k3
      have d4 := (hc w.heap.size 4 (by omega)).trans b4'
      have hb5 := hb4.trans (hb.mono (by omega))
      clear Q1 hc k0 k1 k2 k3 k4 b4'
      go_wp2_with fail
      refine (Q2 _ hb).out.mono ?_
      rintro e w6 ⟨rfl, hb'⟩
      have hb6 := hb5.trans (hb'.mono hb5.size)
      clear Q2 hb hb' d0 d1 d2 d3 d4
      go_wp2_with (go_at_call 22; refine (knownFr_any _).mono ?_; rintro e wf ⟨rfl, hb7⟩)
      go_ret
      exact ⟨by simp <;> omega, hb6.trans (hb7.mono hb6.size)⟩
    · have hI : F.is ⟨2, ⟨0, 0, 0⟩, List.replicate m 0⟩ = false := by simp [F.is, St.may]; omega
      go_enter Try.func9, Try.ntmps9
      go_wp2_with (at_make; go_loud (refine wpList_zeros _ rfl _ _ 24 rfl (w.heap.size + 1) (w.alloc (.cells #[.int .i64 2, .int .i64 0, .int .i64 0, .int .i64 0, .slice none 0 0] 26)) (Below.refl _ _) (by simp) 5 (.int .u8 0) 1 infoU8 rfl Try.underlying24 _ _ _ _ m rfl rfl rfl rfl (by omega) (by unfold maxLen; omega) ?_))
      intro w3 ho hb hz _
      rw [← hX] at hb
      have hc := bcell hb
      obtain ⟨-, x0, x1, x2, x3, x4⟩ := hXc
      have b0 := (hc w.heap.size 0 (by omega)).trans x0
      have b1 := (hc w.heap.size 1 (by omega)).trans x1
      have b2 := (hc w.heap.size 2 (by omega)).trans x2
      have b3 := (hc w.heap.size 3 (by omega)).trans x3
      have b4 := (hc w.heap.size 4 (by omega)).trans x4
      have bz : w3.frozen? ⟨w.heap.size, 4, none⟩ = false := (hb.frozen (p := ⟨w.heap.size, 4, none⟩) (by simp)).trans (hXf 4)
      have ho' : OwnsL w3 (w.heap.size + 1) (.slice (some ⟨w.heap.size + 1, 0, none⟩) m m) (List.replicate m 0) := by
        unfold OwnsL
        rw [List.length_replicate]
        try simp only [World.size_alloc] at ho
        exact ho.alike fun k hk => by simp [bv, List.getD_eq_getElem?_getD, hk]
      have ho2 := ho'.other (g := w.heap.size) (by omega) 4 (.slice (some ⟨w.heap.size + 1, 0, none⟩) m m)
      have hb3 : Below w.heap.size w w3 := hXb.trans (hb.mono (by omega))
      have hb4 := hb3.setCell (p := ⟨w.heap.size, 4, none⟩) (Nat.le_refl _) (.slice (some ⟨w.heap.size + 1, 0, none⟩) m m)
      have k0 : (w3.setCell ⟨w.heap.size, 4, none⟩ (.slice (some ⟨w.heap.size + 1, 0, none⟩) m m)).cell? ⟨w.heap.size, 0, none⟩ = some (.int .i64 2) := (World.cell?_setCell_other _ _ _ _ (by simp)).trans b0
      have k1 : (w3.setCell ⟨w.heap.size, 4, none⟩ (.slice (some ⟨w.heap.size + 1, 0, none⟩) m m)).cell? ⟨w.heap.size, 1, none⟩ = some (.int .i64 0) := (World.cell?_setCell_other _ _ _ _ (by simp)).trans b1
      have k2 : (w3.setCell ⟨w.heap.size, 4, none⟩ (.slice (some ⟨w.heap.size + 1, 0, none⟩) m m)).cell? ⟨w.heap.size, 2, none⟩ = some (.int .i64 0) := (World.cell?_setCell_other _ _ _ _ (by simp)).trans b2
      have k3 : (w3.setCell ⟨w.heap.size, 4, none⟩ (.slice (some ⟨w.heap.size + 1, 0, none⟩) m m)).cell? ⟨w.heap.size, 3, none⟩ = some (.int .i64 0) := (World.cell?_setCell_other _ _ _ _ (by simp)).trans b3
      have k4 : (w3.setCell ⟨w.heap.size, 4, none⟩ (.slice (some ⟨w.heap.size + 1, 0, none⟩) m m)).cell? ⟨w.heap.size, 4, none⟩ = some (.slice (some ⟨w.heap.size + 1, 0, none⟩) m m) := World.cell?_setCell_same _ _ _ b4
      have hz3 : w.heap.size < (w3.setCell ⟨w.heap.size, 4, none⟩ (.slice (some ⟨w.heap.size + 1, 0, none⟩) m m)).heap.size := by have := hb.size; simp [World.setCell]; omega
      have ho3 := Lib.hid ho2
      clear ho ho' ho2 hb hc x0 x1 x2 x3 x4 hXf hXb hz hX hXs
      have hrep : ∀ x ∈ List.replicate m (0 : Int), 0 ≤ x ∧ x < 256 := fun x hx => by rw [List.eq_of_mem_replicate hx]; decide
      go_wp2_with fail
      generalize w3.setCell ⟨w.heap.size, 4, none⟩ (.slice (some ⟨w.heap.size + 1, 0, none⟩) m m) = w4 at *
      have b4' : w4.cell? ⟨w.heap.size, 4, none⟩ = some (.slice (some ⟨w.heap.size + 1, 0, none⟩) m m) := k4
      have R1 := encode_dev ⟨2, ⟨0, 0, 0⟩, List.replicate m 0⟩ (.slice (some ⟨w.heap.size + 1, 0, none⟩) m m) w4 ho3.out.sees hrep
      have hsl := ho3.out.sees
      have R2 := fun W (hb : Below w4.heap.size w4 W) => is_dev ⟨2, ⟨0, 0, 0⟩, List.replicate m 0⟩ (.slice (some ⟨w.heap.size + 1, 0, none⟩) m m) W w4.heap.size (hsl.below hb)
      unfold Enc encE at R1
      rw [hI] at R2
      simp only [hI, if_false, Bool.false_eq_true] at R1
      unfold frV at R1 R2
      simp only at R1 R2
      have Q1 := Lib.hid R1
      have Q2 := fun W hb => Lib.hid (R2 W hb)
      clear R1 R2 hI hsl ho3 hrep
      refine Q1.out.mono ?_
      rintro e w5 ⟨v1, rfl, -, hb⟩
      have hc := bcell hb
      have d0 := (hc w.heap.size 0 (by omega)).trans k0
      have d1 := (hc w.heap.size 1 (by omega)).trans k1
      have d2 := (hc w.heap.size 2 (by omega)).trans k2
      have d3 := (hc w.heap.size 3 (by omega)).trans k3
      have d4 := (hc w.heap.size 4 (by omega)).trans b4'
      have hb5 := hb4.trans (hb.mono (by omega))
      clear Q1 hc k0 k1 k2 k3 k4 b4'
      go_wp2_with fail
      refine (Q2 _ hb).out.mono ?_
      rintro e w6 ⟨rfl, hb'⟩
      have hb6 := hb5.trans (hb'.mono hb5.size)
      clear Q2 hb hb' d0 d1 d2 d3 d4
      go_wp2_with (go_at_call 22; refine (knownFr_any _).mono ?_; rintro e wf ⟨rfl, hb7⟩)
      go_ret
      exact ⟨by simp <;> omega, hb6.trans (hb7.mono hb6.size)⟩



/-! ### THE ROW's STEP around the walk. -/
theorem own_frameOdd : ownKnob Try.prog.godebug = none := by kernel_rfl
theorem laidOut_frameOdd : laidOutB Try.prog = true := by kernel_rfl
set_option maxRecDepth 100000 in
theorem lifted_frameOdd (os : Os) (started : os.Started) (H : Type) (enc : TypeId × Value → H) :
    ReturnsInHanded {} Try.checked os 9 .any (Rows.frameOddSpec.pre6 enc Try.prog Try.f9 Rows.frameOddRow.domain false) (Rows.frameOddSpec.post enc Try.prog Try.f9 false true false false) := by
  refine returnsInHanded_of_change (C := Try.checked) own_frameOdd started (by kernel_rfl) Try.func9
    (ChangeSpec.witness6 (enc := enc) (C := Try.checked) false ⟨#[], #[.int .i64 0, .int .i64 0], []⟩ 8 (by kernel_rfl) (by kernel_rfl) (by kernel_rfl) (by kernel_rfl)) ?_
  intro W base args ds gs before hval0 hW hcnd _
  have hval : ∀ (j : Nat) t v, Try.f9.params[j]? = some t → args[j]? = some v → Value.okWide Try.prog W .any base t v := hval0
  have hW' := hW
  obtain ⟨p, q, hA0, hV, rfl, hfz, hnd⟩ := hW
  have hA : DataW.TrodAll enc Try.prog W 0 (fun _ => true) true Try.f9.params.toList args.toList ds p := hA0
  rw [Try.params9] at hA hval
  obtain ⟨v0, vs0, d0, ds0, p0, q0, hargs, rfl, rfl, h0, r0⟩ := trodAll_cons hA
  obtain ⟨v1, vs1, d1, ds1, p1, q1, rfl, rfl, rfl, h1, r1⟩ := trodAll_cons r0
  obtain ⟨rfl, rfl, rfl⟩ := trodAll_nil r1
  obtain rfl : args = #[v0, v1] := by cases args; simp_all
  obtain ⟨rfl, rfl⟩ := trodVars_none hV
  obtain ⟨a0, rfl, rfl, rfl, w0⟩ := open_int Try.underlying3 (hval 0 3 v0 rfl rfl) h0
  obtain ⟨a1, rfl, rfl, rfl, w1⟩ := open_int Try.underlying3 (hval 1 3 v1 rfl rfl) h1
  clear hA0 hval0
  refine (walk_frameOdd a0 a1 W (bounds_i64 w0) (bounds_i64 w1)).mono fun e W' ⟨he, bel⟩ => ?_
  subst he
  exact ⟨_, rfl, _, _, _, [], _, [], hW', trodAll_mk1 (shut_bool Try.underlying4 _), (trodAll_cons_mk (shut_int Try.underlying3 w0) (trodAll_cons_mk (shut_int Try.underlying3 w1) trodAll_mk0)), rfl, bel.frame _, fun h => by cases h⟩

theorem over_frameOdd : Rows.frameOddRow.holds Try.pinned (OpenSpec.ofChange Rows.frameOddSpec) :=
  OpenClaim.holds_of_wide 9 Try.f9 rfl rfl rfl rfl rfl rfl rfl ⟨rfl, rfl, rfl, rfl, rfl⟩ rfl rfl rfl rfl rfl (by kernel_rfl) Try.func9 (by kernel_rfl)
    (of_decide_eq_true (by kernel_rfl)) (by unfold Func.isWrapper; first | (rw [if_pos (by decide +kernel)]; kernel_rfl) | (rw [if_neg (by decide +kernel)]; exact ⟨rfl, rfl⟩))
    (fun os started H enc _ => lifted_frameOdd os started H enc)

theorem proved_frameOdd : Rows.FrameOddSaid := over_frameOdd
end Go.Proofs.Ythlanmomgpcbcaa
