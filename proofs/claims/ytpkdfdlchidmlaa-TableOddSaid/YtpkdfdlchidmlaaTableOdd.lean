/- TableOdd holds: tables with one thing that may not be. For all ways. -/
import Derived.Test.YtpkdfdlchidmlaaTbK
import Derived.Test.YtpkdfdlchidmlaaTbO
namespace Go.Proofs.Ytpkdfdlchidmlaa
open Go.ChangeShapes Go.WideShapes Go.ChangeAt Go.RowKit
open Go.ChangeMaps (open_string shut_string)
open Tb (D T)

theorem dcs_set (l : List D) (k j : Nat) (hk : k < l.length) (hj : j < 4) (d' : D) (x : Value) (hd : dc d' = (dc (l.getD k default)).set j x) : (l.set k d').flatMap dc = (l.flatMap dc).set (k * 4 + j) x := by
  induction l generalizing k with
  | nil => simp at hk
  | cons d l ih =>
    have h4 : (dc d).length = 4 := rfl
    cases k with
    | zero =>
      rw [List.set_cons_zero, List.flatMap_cons, List.flatMap_cons, List.set_append_left _ _ (by omega)]
      simp only [List.getD_cons_zero] at hd
      rw [hd, Nat.zero_mul, Nat.zero_add]
    | succ k =>
      rw [List.set_cons_succ, List.flatMap_cons, List.flatMap_cons, List.set_append_right _ _ (by omega), h4, show (k + 1) * 4 + j - 4 = k * 4 + j by omega]
      rw [ih k (by simpa using hk) (by simpa using hd)]
theorem OwnsD.store {w : World} {B g n c : Nat} {l : List D} (h : OwnsD w B (.slice (some ⟨g, 0, none⟩) n c) l) (hn : n = l.length) (k j : Nat) (hk : k < l.length) (hj : j < 4) (d' : D) (x : Value) (hd : dc d' = (dc (l.getD k default)).set j x) :
    OwnsD (w.setCell ⟨g, k * 4 + j, none⟩ x) B (.slice (some ⟨g, 0, none⟩) n c) (l.set k d') := by
  subst hn
  have := (World.ownsRow.stored h (k * 4 + j) x).1
  unfold OwnsD
  rw [List.length_set, dcs_set l k j hk hj d' x hd]
  exact this
theorem five_two : (someL 5).getD 2 default = ⟨true, true, 22, 3⟩ := by decide +kernel

set_option maxRecDepth 100000 in
set_option maxHeartbeats 16000000 in
theorem walk_tableOdd (n : Int) (w : World) (_h0 : -9223372036854775808 ≤ n ∧ n ≤ 9223372036854775807) :
    Calls Try.prog 7 #[.int .i64 n] w fun e w' => e = .returned (.bool true) ∧ Below w.heap.size w w' := by
  by_cases h1 : n < 0
  · go_enter Try.func7, Try.ntmps7
    go_wp2
    go_ret
    exact ⟨rfl, Below.refl _ _⟩
  by_cases h2 : 12 < n
  · go_enter Try.func7, Try.ntmps7
    go_wp2
    go_ret
    exact ⟨rfl, Below.refl _ _⟩
  have hi := fun (t : T) u W (h : SeesT W W.heap.size u t.ns) => is_tb t u W W.heap.size (Nat.le_refl _) h
  have hcase : n = 0 ∨ n = 1 ∨ n = 2 ∨ n = 3 ∨ n = 4 ∨ n = 5 ∨ n = 6 ∨ n = 7 ∨ n = 8 ∨ n = 9 ∨ n = 10 ∨ n = 11 ∨ n = 12 := by omega
  clear h1 h2
  rcases hcase with rfl | rfl | rfl | rfl | rfl | rfl | rfl | rfl | rfl | rfl | rfl | rfl | rfl
  · have hI : T.is ⟨(someL 5), 1, 10, 20⟩ = true := by decide +kernel
    have hi := fun u W h => hi ⟨(someL 5), 1, 10, 20⟩ u W h
    rw [hI] at hi
    unfold tabV at hi
    simp only at hi
    have hi := fun u W h => Lib.hid (hi u W h)
    have hs5 := fun W => some_tb 5 (by omega) W
    unfold tabV someT at hs5
    simp only at hs5
    have hs5 := fun W => Lib.hid (hs5 W)
    have hl5 := Lib.hid (someL_length 5)
    clear hI
    go_enter Try.func7, Try.ntmps7
    go_wp2_with fail
    refine (hs5 w).out.mono ?_
    rintro e w1 ⟨v1, rfl, ho1, hb1⟩
    obtain ⟨g, c, rfl⟩ : ∃ g c, v1 = .slice (some ⟨g, 0, none⟩) 5 c := by
      rcases ho1.form with ⟨-, h0⟩ | ⟨g, c, h, -⟩
      · rw [hl5.out] at h0; omega
      · exact ⟨g, c, by rw [h, hl5.out]⟩
    have hT := Blk.new w1 _ rfl #[.slice (some ⟨g, 0, none⟩) 5 c, .int .i64 1, .int .i64 10, .int .i64 20] 24
    have hbx := hb1.alloc hb1.size (.cells #[.slice (some ⟨g, 0, none⟩) 5 c, .int .i64 1, .int .i64 10, .int .i64 20] 24)
    have ho2 := ho1.alloc (.cells #[.slice (some ⟨g, 0, none⟩) 5 c, .int .i64 1, .int .i64 10, .int .i64 20] 24)
    have hgl := ho1.lt g (by simp [Value.ownBlock])
    have hzw := hb1.size
    have hs1 := ho2.sees
    clear ho1 ho2 hT hs5
    go_wp2_with fail
    refine (hi _ _ hs1).out.mono ?_
    rintro e wb ⟨rfl, hb2'⟩
    have hbb := hbx.trans (hb2'.mono hbx.size)
    go_wp2_with (go_at_call 18; refine (known_tb _).mono ?_; rintro e wf ⟨rfl, hb6⟩)
    go_ret
    exact ⟨by simp, hbb.trans (hb6.mono hbb.size)⟩
  · have hI : T.is ⟨(someL 3), 1, 10, 20⟩ = false := by decide +kernel
    have hi := fun u W h => hi ⟨(someL 3), 1, 10, 20⟩ u W h
    rw [hI] at hi
    unfold tabV at hi
    simp only at hi
    have hi := fun u W h => Lib.hid (hi u W h)
    have hs5 := fun W => some_tb 5 (by omega) W
    unfold tabV someT at hs5
    simp only at hs5
    have hs5 := fun W => Lib.hid (hs5 W)
    have hs2 := fun W => some_tb 3 (by omega) W
    unfold tabV someT at hs2
    simp only at hs2
    have hs2 := fun W => Lib.hid (hs2 W)
    have hl2 := Lib.hid (someL_length 3)
    have hl5 := Lib.hid (someL_length 5)
    clear hI
    go_enter Try.func7, Try.ntmps7
    go_wp2_with fail
    refine (hs5 w).out.mono ?_
    rintro e w1 ⟨v1, rfl, ho1, hb1⟩
    obtain ⟨g, c, rfl⟩ : ∃ g c, v1 = .slice (some ⟨g, 0, none⟩) 5 c := by
      rcases ho1.form with ⟨-, h0⟩ | ⟨g, c, h, -⟩
      · rw [hl5.out] at h0; omega
      · exact ⟨g, c, by rw [h, hl5.out]⟩
    have hT := Blk.new w1 _ rfl #[.slice (some ⟨g, 0, none⟩) 5 c, .int .i64 1, .int .i64 10, .int .i64 20] 24
    have hbx := hb1.alloc hb1.size (.cells #[.slice (some ⟨g, 0, none⟩) 5 c, .int .i64 1, .int .i64 10, .int .i64 20] 24)
    have ho2 := ho1.alloc (.cells #[.slice (some ⟨g, 0, none⟩) 5 c, .int .i64 1, .int .i64 10, .int .i64 20] 24)
    have hgl := ho1.lt g (by simp [Value.ownBlock])
    have hzw := hb1.size
    go_wp2_with fail
    generalize w1.alloc (.cells #[.slice (some ⟨g, 0, none⟩) 5 c, .int .i64 1, .int .i64 10, .int .i64 20] 24) = wx at *
    refine (hs2 wx).out.mono ?_
    rintro e w2 ⟨v2, rfl, ho3, hb2⟩
    obtain ⟨g2, c2, rfl⟩ : ∃ g c, v2 = .slice (some ⟨g, 0, none⟩) 3 c := by
      rcases ho3.form with ⟨-, h0⟩ | ⟨g, c, h, -⟩
      · rw [hl2.out] at h0; omega
      · exact ⟨g, c, by rw [h, hl2.out]⟩
    have hT2 := hT.below hb2 hT.lt
    have hb3 := hbx.trans (hb2.mono hbx.size)
    have t0 := hT2.cell 0 rfl
    have t1 := hT2.cell 1 rfl
    have t2 := hT2.cell 2 rfl
    have t3 := hT2.cell 3 rfl
    have f0 := hT2.frozen 0
    have f1 := hT2.frozen 1
    have f2 := hT2.frozen 2
    have f3 := hT2.frozen 3
    have hgg := ho3.lt g2 (by simp [Value.ownBlock])
    have hTl := hT.lt
    have hne : (Value.slice (some ⟨g2, 0, none⟩) 3 c2).ownBlock ≠ some w1.heap.size := by simp [Value.ownBlock]; omega
    have ho4 := (((ho3.setOther ⟨w1.heap.size, 0, none⟩ (.slice (some ⟨g2, 0, none⟩) 3 c2) hne).setOther ⟨w1.heap.size, 1, none⟩ (.int .i64 1) hne).setOther ⟨w1.heap.size, 2, none⟩ (.int .i64 10) hne).setOther ⟨w1.heap.size, 3, none⟩ (.int .i64 20) hne
    have hb4 := (((hb3.setCell (p := ⟨w1.heap.size, 0, none⟩) hzw (.slice (some ⟨g2, 0, none⟩) 3 c2)).setCell (p := ⟨w1.heap.size, 1, none⟩) hzw (.int .i64 1)).setCell (p := ⟨w1.heap.size, 2, none⟩) hzw (.int .i64 10)).setCell (p := ⟨w1.heap.size, 3, none⟩) hzw (.int .i64 20)
    have hT4 := blk4 w2 w1.heap.size _ _ _ _ (.slice (some ⟨g2, 0, none⟩) 3 c2) (.int .i64 1) (.int .i64 10) (.int .i64 20) _ hT2
    clear hs2 hs5 ho1 ho2 ho3 hT hT2
    have u0 := hT4.cell 0 rfl
    have u1 := hT4.cell 1 rfl
    have u2 := hT4.cell 2 rfl
    have u3 := hT4.cell 3 rfl
    go_wp2_with fail
    refine (hi _ _ ho4.sees).out.mono ?_
    rintro e wb ⟨rfl, hb2'⟩
    have hbb := hb4.trans (hb2'.mono hb4.size)
    go_wp2_with (go_at_call 18; refine (known_tb _).mono ?_; rintro e wf ⟨rfl, hb6⟩)
    go_ret
    exact ⟨by simp, hbb.trans (hb6.mono hbb.size)⟩
  · have hI : T.is ⟨(someL 9), 1, 10, 20⟩ = false := by decide +kernel
    have hi := fun u W h => hi ⟨(someL 9), 1, 10, 20⟩ u W h
    rw [hI] at hi
    unfold tabV at hi
    simp only at hi
    have hi := fun u W h => Lib.hid (hi u W h)
    have hs5 := fun W => some_tb 5 (by omega) W
    unfold tabV someT at hs5
    simp only at hs5
    have hs5 := fun W => Lib.hid (hs5 W)
    have hs2 := fun W => some_tb 9 (by omega) W
    unfold tabV someT at hs2
    simp only at hs2
    have hs2 := fun W => Lib.hid (hs2 W)
    have hl2 := Lib.hid (someL_length 9)
    have hl5 := Lib.hid (someL_length 5)
    clear hI
    go_enter Try.func7, Try.ntmps7
    go_wp2_with fail
    refine (hs5 w).out.mono ?_
    rintro e w1 ⟨v1, rfl, ho1, hb1⟩
    obtain ⟨g, c, rfl⟩ : ∃ g c, v1 = .slice (some ⟨g, 0, none⟩) 5 c := by
      rcases ho1.form with ⟨-, h0⟩ | ⟨g, c, h, -⟩
      · rw [hl5.out] at h0; omega
      · exact ⟨g, c, by rw [h, hl5.out]⟩
    have hT := Blk.new w1 _ rfl #[.slice (some ⟨g, 0, none⟩) 5 c, .int .i64 1, .int .i64 10, .int .i64 20] 24
    have hbx := hb1.alloc hb1.size (.cells #[.slice (some ⟨g, 0, none⟩) 5 c, .int .i64 1, .int .i64 10, .int .i64 20] 24)
    have ho2 := ho1.alloc (.cells #[.slice (some ⟨g, 0, none⟩) 5 c, .int .i64 1, .int .i64 10, .int .i64 20] 24)
    have hgl := ho1.lt g (by simp [Value.ownBlock])
    have hzw := hb1.size
    go_wp2_with fail
    generalize w1.alloc (.cells #[.slice (some ⟨g, 0, none⟩) 5 c, .int .i64 1, .int .i64 10, .int .i64 20] 24) = wx at *
    refine (hs2 wx).out.mono ?_
    rintro e w2 ⟨v2, rfl, ho3, hb2⟩
    obtain ⟨g2, c2, rfl⟩ : ∃ g c, v2 = .slice (some ⟨g, 0, none⟩) 9 c := by
      rcases ho3.form with ⟨-, h0⟩ | ⟨g, c, h, -⟩
      · rw [hl2.out] at h0; omega
      · exact ⟨g, c, by rw [h, hl2.out]⟩
    have hT2 := hT.below hb2 hT.lt
    have hb3 := hbx.trans (hb2.mono hbx.size)
    have t0 := hT2.cell 0 rfl
    have t1 := hT2.cell 1 rfl
    have t2 := hT2.cell 2 rfl
    have t3 := hT2.cell 3 rfl
    have f0 := hT2.frozen 0
    have f1 := hT2.frozen 1
    have f2 := hT2.frozen 2
    have f3 := hT2.frozen 3
    have hgg := ho3.lt g2 (by simp [Value.ownBlock])
    have hTl := hT.lt
    have hne : (Value.slice (some ⟨g2, 0, none⟩) 9 c2).ownBlock ≠ some w1.heap.size := by simp [Value.ownBlock]; omega
    have ho4 := (((ho3.setOther ⟨w1.heap.size, 0, none⟩ (.slice (some ⟨g2, 0, none⟩) 9 c2) hne).setOther ⟨w1.heap.size, 1, none⟩ (.int .i64 1) hne).setOther ⟨w1.heap.size, 2, none⟩ (.int .i64 10) hne).setOther ⟨w1.heap.size, 3, none⟩ (.int .i64 20) hne
    have hb4 := (((hb3.setCell (p := ⟨w1.heap.size, 0, none⟩) hzw (.slice (some ⟨g2, 0, none⟩) 9 c2)).setCell (p := ⟨w1.heap.size, 1, none⟩) hzw (.int .i64 1)).setCell (p := ⟨w1.heap.size, 2, none⟩) hzw (.int .i64 10)).setCell (p := ⟨w1.heap.size, 3, none⟩) hzw (.int .i64 20)
    have hT4 := blk4 w2 w1.heap.size _ _ _ _ (.slice (some ⟨g2, 0, none⟩) 9 c2) (.int .i64 1) (.int .i64 10) (.int .i64 20) _ hT2
    clear hs2 hs5 ho1 ho2 ho3 hT hT2
    have u0 := hT4.cell 0 rfl
    have u1 := hT4.cell 1 rfl
    have u2 := hT4.cell 2 rfl
    have u3 := hT4.cell 3 rfl
    go_wp2_with fail
    refine (hi _ _ ho4.sees).out.mono ?_
    rintro e wb ⟨rfl, hb2'⟩
    have hbb := hb4.trans (hb2'.mono hb4.size)
    go_wp2_with (go_at_call 18; refine (known_tb _).mono ?_; rintro e wf ⟨rfl, hb6⟩)
    go_ret
    exact ⟨by simp, hbb.trans (hb6.mono hbb.size)⟩
  · have hI : T.is ⟨((someL 5).set 2 ⟨false, true, 22, 3⟩), 1, 10, 20⟩ = false := by decide +kernel
    have hi := fun u W h => hi ⟨((someL 5).set 2 ⟨false, true, 22, 3⟩), 1, 10, 20⟩ u W h
    rw [hI] at hi
    unfold tabV at hi
    simp only at hi
    have hi := fun u W h => Lib.hid (hi u W h)
    have hs5 := fun W => some_tb 5 (by omega) W
    unfold tabV someT at hs5
    simp only at hs5
    have hs5 := fun W => Lib.hid (hs5 W)
    have hl5 := Lib.hid (someL_length 5)
    clear hI
    go_enter Try.func7, Try.ntmps7
    go_wp2_with fail
    refine (hs5 w).out.mono ?_
    rintro e w1 ⟨v1, rfl, ho1, hb1⟩
    obtain ⟨g, c, rfl⟩ : ∃ g c, v1 = .slice (some ⟨g, 0, none⟩) 5 c := by
      rcases ho1.form with ⟨-, h0⟩ | ⟨g, c, h, -⟩
      · rw [hl5.out] at h0; omega
      · exact ⟨g, c, by rw [h, hl5.out]⟩
    have hT := Blk.new w1 _ rfl #[.slice (some ⟨g, 0, none⟩) 5 c, .int .i64 1, .int .i64 10, .int .i64 20] 24
    have hbx := hb1.alloc hb1.size (.cells #[.slice (some ⟨g, 0, none⟩) 5 c, .int .i64 1, .int .i64 10, .int .i64 20] 24)
    have ho2 := ho1.alloc (.cells #[.slice (some ⟨g, 0, none⟩) 5 c, .int .i64 1, .int .i64 10, .int .i64 20] 24)
    have hgl := ho1.lt g (by simp [Value.ownBlock])
    have hzw := hb1.size
    have hTs := hT.other ⟨g, 8, none⟩ (by show w1.heap.size ≠ g; omega) (.bool false)
    have ho4 : OwnsD ((w1.setCell ⟨g, 8, none⟩ (.bool false)).alloc (.cells #[.slice (some ⟨g, 0, none⟩) 5 c, .int .i64 1, .int .i64 10, .int .i64 20] 24)) w.heap.size (.slice (some ⟨g, 0, none⟩) 5 c) ((someL 5).set 2 ⟨false, true, 22, 3⟩) := OwnsD.alloc (ho1.store hl5.out.symm 2 0 (by rw [hl5.out]; omega) (by omega) ⟨false, true, 22, 3⟩ (.bool false) (by rw [five_two]; rfl)) _
    have hb4a := hb1.setCell (p := ⟨g, 8, none⟩) hgl.1 (.bool false)
    have hb4 := hb4a.alloc hb4a.size (.cells #[.slice (some ⟨g, 0, none⟩) 5 c, .int .i64 1, .int .i64 10, .int .i64 20] 24)
    have hAt := ho2.atD hl5.out.symm 2 (by rw [hl5.out]; omega)
    rw [five_two] at hAt
    obtain ⟨a0, a1, a2, a3⟩ := hAt
    have hfz := World.ownsRow.frozenAt (show World.ownsRow _ _ _ _ (.slice (some ⟨g, 0, none⟩) (someL 5).length c) _ _ from by rw [hl5.out]; exact ho2) 8
    clear ho1 ho2 hT hTs hs5
    go_wp2_with fail
    refine (hi _ _ ho4.sees).out.mono ?_
    rintro e wb ⟨rfl, hb2'⟩
    have hbb := hb4.trans (hb2'.mono hb4.size)
    go_wp2_with (go_at_call 18; refine (known_tb _).mono ?_; rintro e wf ⟨rfl, hb6⟩)
    go_ret
    exact ⟨by simp, hbb.trans (hb6.mono hbb.size)⟩
  · have hI : T.is ⟨((someL 5).set 2 ⟨true, true, 9, 3⟩), 1, 10, 20⟩ = false := by decide +kernel
    have hi := fun u W h => hi ⟨((someL 5).set 2 ⟨true, true, 9, 3⟩), 1, 10, 20⟩ u W h
    rw [hI] at hi
    unfold tabV at hi
    simp only at hi
    have hi := fun u W h => Lib.hid (hi u W h)
    have hs5 := fun W => some_tb 5 (by omega) W
    unfold tabV someT at hs5
    simp only at hs5
    have hs5 := fun W => Lib.hid (hs5 W)
    have hl5 := Lib.hid (someL_length 5)
    clear hI
    go_enter Try.func7, Try.ntmps7
    go_wp2_with fail
    refine (hs5 w).out.mono ?_
    rintro e w1 ⟨v1, rfl, ho1, hb1⟩
    obtain ⟨g, c, rfl⟩ : ∃ g c, v1 = .slice (some ⟨g, 0, none⟩) 5 c := by
      rcases ho1.form with ⟨-, h0⟩ | ⟨g, c, h, -⟩
      · rw [hl5.out] at h0; omega
      · exact ⟨g, c, by rw [h, hl5.out]⟩
    have hT := Blk.new w1 _ rfl #[.slice (some ⟨g, 0, none⟩) 5 c, .int .i64 1, .int .i64 10, .int .i64 20] 24
    have hbx := hb1.alloc hb1.size (.cells #[.slice (some ⟨g, 0, none⟩) 5 c, .int .i64 1, .int .i64 10, .int .i64 20] 24)
    have ho2 := ho1.alloc (.cells #[.slice (some ⟨g, 0, none⟩) 5 c, .int .i64 1, .int .i64 10, .int .i64 20] 24)
    have hgl := ho1.lt g (by simp [Value.ownBlock])
    have hzw := hb1.size
    have hTs := hT.other ⟨g, 10, none⟩ (by show w1.heap.size ≠ g; omega) (.int .i64 9)
    have ho4 : OwnsD ((w1.setCell ⟨g, 10, none⟩ (.int .i64 9)).alloc (.cells #[.slice (some ⟨g, 0, none⟩) 5 c, .int .i64 1, .int .i64 10, .int .i64 20] 24)) w.heap.size (.slice (some ⟨g, 0, none⟩) 5 c) ((someL 5).set 2 ⟨true, true, 9, 3⟩) := OwnsD.alloc (ho1.store hl5.out.symm 2 2 (by rw [hl5.out]; omega) (by omega) ⟨true, true, 9, 3⟩ (.int .i64 9) (by rw [five_two]; rfl)) _
    have hb4a := hb1.setCell (p := ⟨g, 10, none⟩) hgl.1 (.int .i64 9)
    have hb4 := hb4a.alloc hb4a.size (.cells #[.slice (some ⟨g, 0, none⟩) 5 c, .int .i64 1, .int .i64 10, .int .i64 20] 24)
    have hAt := ho2.atD hl5.out.symm 2 (by rw [hl5.out]; omega)
    rw [five_two] at hAt
    obtain ⟨a0, a1, a2, a3⟩ := hAt
    have hfz := World.ownsRow.frozenAt (show World.ownsRow _ _ _ _ (.slice (some ⟨g, 0, none⟩) (someL 5).length c) _ _ from by rw [hl5.out]; exact ho2) 10
    clear ho1 ho2 hT hTs hs5
    go_wp2_with fail
    refine (hi _ _ ho4.sees).out.mono ?_
    rintro e wb ⟨rfl, hb2'⟩
    have hbb := hb4.trans (hb2'.mono hb4.size)
    go_wp2_with (go_at_call 18; refine (known_tb _).mono ?_; rintro e wf ⟨rfl, hb6⟩)
    go_ret
    exact ⟨by simp, hbb.trans (hb6.mono hbb.size)⟩
  · have hI : T.is ⟨((someL 5).set 2 ⟨true, true, 201, 3⟩), 1, 10, 20⟩ = false := by decide +kernel
    have hi := fun u W h => hi ⟨((someL 5).set 2 ⟨true, true, 201, 3⟩), 1, 10, 20⟩ u W h
    rw [hI] at hi
    unfold tabV at hi
    simp only at hi
    have hi := fun u W h => Lib.hid (hi u W h)
    have hs5 := fun W => some_tb 5 (by omega) W
    unfold tabV someT at hs5
    simp only at hs5
    have hs5 := fun W => Lib.hid (hs5 W)
    have hl5 := Lib.hid (someL_length 5)
    clear hI
    go_enter Try.func7, Try.ntmps7
    go_wp2_with fail
    refine (hs5 w).out.mono ?_
    rintro e w1 ⟨v1, rfl, ho1, hb1⟩
    obtain ⟨g, c, rfl⟩ : ∃ g c, v1 = .slice (some ⟨g, 0, none⟩) 5 c := by
      rcases ho1.form with ⟨-, h0⟩ | ⟨g, c, h, -⟩
      · rw [hl5.out] at h0; omega
      · exact ⟨g, c, by rw [h, hl5.out]⟩
    have hT := Blk.new w1 _ rfl #[.slice (some ⟨g, 0, none⟩) 5 c, .int .i64 1, .int .i64 10, .int .i64 20] 24
    have hbx := hb1.alloc hb1.size (.cells #[.slice (some ⟨g, 0, none⟩) 5 c, .int .i64 1, .int .i64 10, .int .i64 20] 24)
    have ho2 := ho1.alloc (.cells #[.slice (some ⟨g, 0, none⟩) 5 c, .int .i64 1, .int .i64 10, .int .i64 20] 24)
    have hgl := ho1.lt g (by simp [Value.ownBlock])
    have hzw := hb1.size
    have hTs := hT.other ⟨g, 10, none⟩ (by show w1.heap.size ≠ g; omega) (.int .i64 201)
    have ho4 : OwnsD ((w1.setCell ⟨g, 10, none⟩ (.int .i64 201)).alloc (.cells #[.slice (some ⟨g, 0, none⟩) 5 c, .int .i64 1, .int .i64 10, .int .i64 20] 24)) w.heap.size (.slice (some ⟨g, 0, none⟩) 5 c) ((someL 5).set 2 ⟨true, true, 201, 3⟩) := OwnsD.alloc (ho1.store hl5.out.symm 2 2 (by rw [hl5.out]; omega) (by omega) ⟨true, true, 201, 3⟩ (.int .i64 201) (by rw [five_two]; rfl)) _
    have hb4a := hb1.setCell (p := ⟨g, 10, none⟩) hgl.1 (.int .i64 201)
    have hb4 := hb4a.alloc hb4a.size (.cells #[.slice (some ⟨g, 0, none⟩) 5 c, .int .i64 1, .int .i64 10, .int .i64 20] 24)
    have hAt := ho2.atD hl5.out.symm 2 (by rw [hl5.out]; omega)
    rw [five_two] at hAt
    obtain ⟨a0, a1, a2, a3⟩ := hAt
    have hfz := World.ownsRow.frozenAt (show World.ownsRow _ _ _ _ (.slice (some ⟨g, 0, none⟩) (someL 5).length c) _ _ from by rw [hl5.out]; exact ho2) 10
    clear ho1 ho2 hT hTs hs5
    go_wp2_with fail
    refine (hi _ _ ho4.sees).out.mono ?_
    rintro e wb ⟨rfl, hb2'⟩
    have hbb := hb4.trans (hb2'.mono hb4.size)
    go_wp2_with (go_at_call 18; refine (known_tb _).mono ?_; rintro e wf ⟨rfl, hb6⟩)
    go_ret
    exact ⟨by simp, hbb.trans (hb6.mono hbb.size)⟩
  · have hI : T.is ⟨((someL 5).set 2 ⟨true, true, 20, 3⟩), 1, 10, 20⟩ = false := by decide +kernel
    have hi := fun u W h => hi ⟨((someL 5).set 2 ⟨true, true, 20, 3⟩), 1, 10, 20⟩ u W h
    rw [hI] at hi
    unfold tabV at hi
    simp only at hi
    have hi := fun u W h => Lib.hid (hi u W h)
    have hs5 := fun W => some_tb 5 (by omega) W
    unfold tabV someT at hs5
    simp only at hs5
    have hs5 := fun W => Lib.hid (hs5 W)
    have hl5 := Lib.hid (someL_length 5)
    clear hI
    go_enter Try.func7, Try.ntmps7
    go_wp2_with fail
    refine (hs5 w).out.mono ?_
    rintro e w1 ⟨v1, rfl, ho1, hb1⟩
    obtain ⟨g, c, rfl⟩ : ∃ g c, v1 = .slice (some ⟨g, 0, none⟩) 5 c := by
      rcases ho1.form with ⟨-, h0⟩ | ⟨g, c, h, -⟩
      · rw [hl5.out] at h0; omega
      · exact ⟨g, c, by rw [h, hl5.out]⟩
    have hT := Blk.new w1 _ rfl #[.slice (some ⟨g, 0, none⟩) 5 c, .int .i64 1, .int .i64 10, .int .i64 20] 24
    have hbx := hb1.alloc hb1.size (.cells #[.slice (some ⟨g, 0, none⟩) 5 c, .int .i64 1, .int .i64 10, .int .i64 20] 24)
    have ho2 := ho1.alloc (.cells #[.slice (some ⟨g, 0, none⟩) 5 c, .int .i64 1, .int .i64 10, .int .i64 20] 24)
    have hgl := ho1.lt g (by simp [Value.ownBlock])
    have hzw := hb1.size
    have hTs := hT.other ⟨g, 10, none⟩ (by show w1.heap.size ≠ g; omega) (.int .i64 20)
    have ho4 : OwnsD ((w1.setCell ⟨g, 10, none⟩ (.int .i64 20)).alloc (.cells #[.slice (some ⟨g, 0, none⟩) 5 c, .int .i64 1, .int .i64 10, .int .i64 20] 24)) w.heap.size (.slice (some ⟨g, 0, none⟩) 5 c) ((someL 5).set 2 ⟨true, true, 20, 3⟩) := OwnsD.alloc (ho1.store hl5.out.symm 2 2 (by rw [hl5.out]; omega) (by omega) ⟨true, true, 20, 3⟩ (.int .i64 20) (by rw [five_two]; rfl)) _
    have hb4a := hb1.setCell (p := ⟨g, 10, none⟩) hgl.1 (.int .i64 20)
    have hb4 := hb4a.alloc hb4a.size (.cells #[.slice (some ⟨g, 0, none⟩) 5 c, .int .i64 1, .int .i64 10, .int .i64 20] 24)
    have hAt := ho2.atD hl5.out.symm 2 (by rw [hl5.out]; omega)
    rw [five_two] at hAt
    obtain ⟨a0, a1, a2, a3⟩ := hAt
    have hfz := World.ownsRow.frozenAt (show World.ownsRow _ _ _ _ (.slice (some ⟨g, 0, none⟩) (someL 5).length c) _ _ from by rw [hl5.out]; exact ho2) 10
    clear ho1 ho2 hT hTs hs5
    go_wp2_with fail
    refine (hi _ _ ho4.sees).out.mono ?_
    rintro e wb ⟨rfl, hb2'⟩
    have hbb := hb4.trans (hb2'.mono hb4.size)
    go_wp2_with (go_at_call 18; refine (known_tb _).mono ?_; rintro e wf ⟨rfl, hb6⟩)
    go_ret
    exact ⟨by simp, hbb.trans (hb6.mono hbb.size)⟩
  · have hI : T.is ⟨((someL 5).set 2 ⟨true, true, 22, 0⟩), 1, 10, 20⟩ = false := by decide +kernel
    have hi := fun u W h => hi ⟨((someL 5).set 2 ⟨true, true, 22, 0⟩), 1, 10, 20⟩ u W h
    rw [hI] at hi
    unfold tabV at hi
    simp only at hi
    have hi := fun u W h => Lib.hid (hi u W h)
    have hs5 := fun W => some_tb 5 (by omega) W
    unfold tabV someT at hs5
    simp only at hs5
    have hs5 := fun W => Lib.hid (hs5 W)
    have hl5 := Lib.hid (someL_length 5)
    clear hI
    go_enter Try.func7, Try.ntmps7
    go_wp2_with fail
    refine (hs5 w).out.mono ?_
    rintro e w1 ⟨v1, rfl, ho1, hb1⟩
    obtain ⟨g, c, rfl⟩ : ∃ g c, v1 = .slice (some ⟨g, 0, none⟩) 5 c := by
      rcases ho1.form with ⟨-, h0⟩ | ⟨g, c, h, -⟩
      · rw [hl5.out] at h0; omega
      · exact ⟨g, c, by rw [h, hl5.out]⟩
    have hT := Blk.new w1 _ rfl #[.slice (some ⟨g, 0, none⟩) 5 c, .int .i64 1, .int .i64 10, .int .i64 20] 24
    have hbx := hb1.alloc hb1.size (.cells #[.slice (some ⟨g, 0, none⟩) 5 c, .int .i64 1, .int .i64 10, .int .i64 20] 24)
    have ho2 := ho1.alloc (.cells #[.slice (some ⟨g, 0, none⟩) 5 c, .int .i64 1, .int .i64 10, .int .i64 20] 24)
    have hgl := ho1.lt g (by simp [Value.ownBlock])
    have hzw := hb1.size
    have hTs := hT.other ⟨g, 11, none⟩ (by show w1.heap.size ≠ g; omega) (.int .i64 0)
    have ho4 : OwnsD ((w1.setCell ⟨g, 11, none⟩ (.int .i64 0)).alloc (.cells #[.slice (some ⟨g, 0, none⟩) 5 c, .int .i64 1, .int .i64 10, .int .i64 20] 24)) w.heap.size (.slice (some ⟨g, 0, none⟩) 5 c) ((someL 5).set 2 ⟨true, true, 22, 0⟩) := OwnsD.alloc (ho1.store hl5.out.symm 2 3 (by rw [hl5.out]; omega) (by omega) ⟨true, true, 22, 0⟩ (.int .i64 0) (by rw [five_two]; rfl)) _
    have hb4a := hb1.setCell (p := ⟨g, 11, none⟩) hgl.1 (.int .i64 0)
    have hb4 := hb4a.alloc hb4a.size (.cells #[.slice (some ⟨g, 0, none⟩) 5 c, .int .i64 1, .int .i64 10, .int .i64 20] 24)
    have hAt := ho2.atD hl5.out.symm 2 (by rw [hl5.out]; omega)
    rw [five_two] at hAt
    obtain ⟨a0, a1, a2, a3⟩ := hAt
    have hfz := World.ownsRow.frozenAt (show World.ownsRow _ _ _ _ (.slice (some ⟨g, 0, none⟩) (someL 5).length c) _ _ from by rw [hl5.out]; exact ho2) 11
    clear ho1 ho2 hT hTs hs5
    go_wp2_with fail
    refine (hi _ _ ho4.sees).out.mono ?_
    rintro e wb ⟨rfl, hb2'⟩
    have hbb := hb4.trans (hb2'.mono hb4.size)
    go_wp2_with (go_at_call 18; refine (known_tb _).mono ?_; rintro e wf ⟨rfl, hb6⟩)
    go_ret
    exact ⟨by simp, hbb.trans (hb6.mono hbb.size)⟩
  · have hI : T.is ⟨((someL 5).set 2 ⟨true, true, 22, 9⟩), 1, 10, 20⟩ = false := by decide +kernel
    have hi := fun u W h => hi ⟨((someL 5).set 2 ⟨true, true, 22, 9⟩), 1, 10, 20⟩ u W h
    rw [hI] at hi
    unfold tabV at hi
    simp only at hi
    have hi := fun u W h => Lib.hid (hi u W h)
    have hs5 := fun W => some_tb 5 (by omega) W
    unfold tabV someT at hs5
    simp only at hs5
    have hs5 := fun W => Lib.hid (hs5 W)
    have hl5 := Lib.hid (someL_length 5)
    clear hI
    go_enter Try.func7, Try.ntmps7
    go_wp2_with fail
    refine (hs5 w).out.mono ?_
    rintro e w1 ⟨v1, rfl, ho1, hb1⟩
    obtain ⟨g, c, rfl⟩ : ∃ g c, v1 = .slice (some ⟨g, 0, none⟩) 5 c := by
      rcases ho1.form with ⟨-, h0⟩ | ⟨g, c, h, -⟩
      · rw [hl5.out] at h0; omega
      · exact ⟨g, c, by rw [h, hl5.out]⟩
    have hT := Blk.new w1 _ rfl #[.slice (some ⟨g, 0, none⟩) 5 c, .int .i64 1, .int .i64 10, .int .i64 20] 24
    have hbx := hb1.alloc hb1.size (.cells #[.slice (some ⟨g, 0, none⟩) 5 c, .int .i64 1, .int .i64 10, .int .i64 20] 24)
    have ho2 := ho1.alloc (.cells #[.slice (some ⟨g, 0, none⟩) 5 c, .int .i64 1, .int .i64 10, .int .i64 20] 24)
    have hgl := ho1.lt g (by simp [Value.ownBlock])
    have hzw := hb1.size
    have hTs := hT.other ⟨g, 11, none⟩ (by show w1.heap.size ≠ g; omega) (.int .i64 9)
    have ho4 : OwnsD ((w1.setCell ⟨g, 11, none⟩ (.int .i64 9)).alloc (.cells #[.slice (some ⟨g, 0, none⟩) 5 c, .int .i64 1, .int .i64 10, .int .i64 20] 24)) w.heap.size (.slice (some ⟨g, 0, none⟩) 5 c) ((someL 5).set 2 ⟨true, true, 22, 9⟩) := OwnsD.alloc (ho1.store hl5.out.symm 2 3 (by rw [hl5.out]; omega) (by omega) ⟨true, true, 22, 9⟩ (.int .i64 9) (by rw [five_two]; rfl)) _
    have hb4a := hb1.setCell (p := ⟨g, 11, none⟩) hgl.1 (.int .i64 9)
    have hb4 := hb4a.alloc hb4a.size (.cells #[.slice (some ⟨g, 0, none⟩) 5 c, .int .i64 1, .int .i64 10, .int .i64 20] 24)
    have hAt := ho2.atD hl5.out.symm 2 (by rw [hl5.out]; omega)
    rw [five_two] at hAt
    obtain ⟨a0, a1, a2, a3⟩ := hAt
    have hfz := World.ownsRow.frozenAt (show World.ownsRow _ _ _ _ (.slice (some ⟨g, 0, none⟩) (someL 5).length c) _ _ from by rw [hl5.out]; exact ho2) 11
    clear ho1 ho2 hT hTs hs5
    go_wp2_with fail
    refine (hi _ _ ho4.sees).out.mono ?_
    rintro e wb ⟨rfl, hb2'⟩
    have hbb := hb4.trans (hb2'.mono hb4.size)
    go_wp2_with (go_at_call 18; refine (known_tb _).mono ?_; rintro e wf ⟨rfl, hb6⟩)
    go_ret
    exact ⟨by simp, hbb.trans (hb6.mono hbb.size)⟩
  · have hI : T.is ⟨(someL 5), 1, 5, 20⟩ = false := by decide +kernel
    have hi := fun u W h => hi ⟨(someL 5), 1, 5, 20⟩ u W h
    rw [hI] at hi
    unfold tabV at hi
    simp only at hi
    have hi := fun u W h => Lib.hid (hi u W h)
    have hs5 := fun W => some_tb 5 (by omega) W
    unfold tabV someT at hs5
    simp only at hs5
    have hs5 := fun W => Lib.hid (hs5 W)
    have hl5 := Lib.hid (someL_length 5)
    clear hI
    go_enter Try.func7, Try.ntmps7
    go_wp2_with fail
    refine (hs5 w).out.mono ?_
    rintro e w1 ⟨v1, rfl, ho1, hb1⟩
    obtain ⟨g, c, rfl⟩ : ∃ g c, v1 = .slice (some ⟨g, 0, none⟩) 5 c := by
      rcases ho1.form with ⟨-, h0⟩ | ⟨g, c, h, -⟩
      · rw [hl5.out] at h0; omega
      · exact ⟨g, c, by rw [h, hl5.out]⟩
    have hT := Blk.new w1 _ rfl #[.slice (some ⟨g, 0, none⟩) 5 c, .int .i64 1, .int .i64 10, .int .i64 20] 24
    have hbx := hb1.alloc hb1.size (.cells #[.slice (some ⟨g, 0, none⟩) 5 c, .int .i64 1, .int .i64 10, .int .i64 20] 24)
    have ho2 := ho1.alloc (.cells #[.slice (some ⟨g, 0, none⟩) 5 c, .int .i64 1, .int .i64 10, .int .i64 20] 24)
    have hgl := ho1.lt g (by simp [Value.ownBlock])
    have hzw := hb1.size
    have hs1 := (ho1.sees.below ((Below.refl _ _).alloc (Nat.le_refl _) (.cells #[.slice (some ⟨g, 0, none⟩) 5 c, .int .i64 1, .int .i64 5, .int .i64 20] 24))).more (B' := (w1.alloc (.cells #[.slice (some ⟨g, 0, none⟩) 5 c, .int .i64 1, .int .i64 5, .int .i64 20] 24)).heap.size) (by simp)
    have hb4 := hb1.alloc hb1.size (.cells #[.slice (some ⟨g, 0, none⟩) 5 c, .int .i64 1, .int .i64 5, .int .i64 20] 24)
    clear ho1 ho2 hT hs5
    go_wp2_with fail
    refine (hi _ _ hs1).out.mono ?_
    rintro e wb ⟨rfl, hb2'⟩
    have hbb := hb4.trans (hb2'.mono hb4.size)
    go_wp2_with (go_at_call 18; refine (known_tb _).mono ?_; rintro e wf ⟨rfl, hb6⟩)
    go_ret
    exact ⟨by simp, hbb.trans (hb6.mono hbb.size)⟩
  · have hI : T.is ⟨(someL 5), 1, 10, 9⟩ = false := by decide +kernel
    have hi := fun u W h => hi ⟨(someL 5), 1, 10, 9⟩ u W h
    rw [hI] at hi
    unfold tabV at hi
    simp only at hi
    have hi := fun u W h => Lib.hid (hi u W h)
    have hs5 := fun W => some_tb 5 (by omega) W
    unfold tabV someT at hs5
    simp only at hs5
    have hs5 := fun W => Lib.hid (hs5 W)
    have hl5 := Lib.hid (someL_length 5)
    clear hI
    go_enter Try.func7, Try.ntmps7
    go_wp2_with fail
    refine (hs5 w).out.mono ?_
    rintro e w1 ⟨v1, rfl, ho1, hb1⟩
    obtain ⟨g, c, rfl⟩ : ∃ g c, v1 = .slice (some ⟨g, 0, none⟩) 5 c := by
      rcases ho1.form with ⟨-, h0⟩ | ⟨g, c, h, -⟩
      · rw [hl5.out] at h0; omega
      · exact ⟨g, c, by rw [h, hl5.out]⟩
    have hT := Blk.new w1 _ rfl #[.slice (some ⟨g, 0, none⟩) 5 c, .int .i64 1, .int .i64 10, .int .i64 20] 24
    have hbx := hb1.alloc hb1.size (.cells #[.slice (some ⟨g, 0, none⟩) 5 c, .int .i64 1, .int .i64 10, .int .i64 20] 24)
    have ho2 := ho1.alloc (.cells #[.slice (some ⟨g, 0, none⟩) 5 c, .int .i64 1, .int .i64 10, .int .i64 20] 24)
    have hgl := ho1.lt g (by simp [Value.ownBlock])
    have hzw := hb1.size
    have hs1 := (ho1.sees.below ((Below.refl _ _).alloc (Nat.le_refl _) (.cells #[.slice (some ⟨g, 0, none⟩) 5 c, .int .i64 1, .int .i64 10, .int .i64 9] 24))).more (B' := (w1.alloc (.cells #[.slice (some ⟨g, 0, none⟩) 5 c, .int .i64 1, .int .i64 10, .int .i64 9] 24)).heap.size) (by simp)
    have hb4 := hb1.alloc hb1.size (.cells #[.slice (some ⟨g, 0, none⟩) 5 c, .int .i64 1, .int .i64 10, .int .i64 9] 24)
    clear ho1 ho2 hT hs5
    go_wp2_with fail
    refine (hi _ _ hs1).out.mono ?_
    rintro e wb ⟨rfl, hb2'⟩
    have hbb := hb4.trans (hb2'.mono hb4.size)
    go_wp2_with (go_at_call 18; refine (known_tb _).mono ?_; rintro e wf ⟨rfl, hb6⟩)
    go_ret
    exact ⟨by simp, hbb.trans (hb6.mono hbb.size)⟩
  · have hI : T.is ⟨(someL 5), 1, 10, 1001⟩ = false := by decide +kernel
    have hi := fun u W h => hi ⟨(someL 5), 1, 10, 1001⟩ u W h
    rw [hI] at hi
    unfold tabV at hi
    simp only at hi
    have hi := fun u W h => Lib.hid (hi u W h)
    have hs5 := fun W => some_tb 5 (by omega) W
    unfold tabV someT at hs5
    simp only at hs5
    have hs5 := fun W => Lib.hid (hs5 W)
    have hl5 := Lib.hid (someL_length 5)
    clear hI
    go_enter Try.func7, Try.ntmps7
    go_wp2_with fail
    refine (hs5 w).out.mono ?_
    rintro e w1 ⟨v1, rfl, ho1, hb1⟩
    obtain ⟨g, c, rfl⟩ : ∃ g c, v1 = .slice (some ⟨g, 0, none⟩) 5 c := by
      rcases ho1.form with ⟨-, h0⟩ | ⟨g, c, h, -⟩
      · rw [hl5.out] at h0; omega
      · exact ⟨g, c, by rw [h, hl5.out]⟩
    have hT := Blk.new w1 _ rfl #[.slice (some ⟨g, 0, none⟩) 5 c, .int .i64 1, .int .i64 10, .int .i64 20] 24
    have hbx := hb1.alloc hb1.size (.cells #[.slice (some ⟨g, 0, none⟩) 5 c, .int .i64 1, .int .i64 10, .int .i64 20] 24)
    have ho2 := ho1.alloc (.cells #[.slice (some ⟨g, 0, none⟩) 5 c, .int .i64 1, .int .i64 10, .int .i64 20] 24)
    have hgl := ho1.lt g (by simp [Value.ownBlock])
    have hzw := hb1.size
    have hs1 := (ho1.sees.below ((Below.refl _ _).alloc (Nat.le_refl _) (.cells #[.slice (some ⟨g, 0, none⟩) 5 c, .int .i64 1, .int .i64 10, .int .i64 1001] 24))).more (B' := (w1.alloc (.cells #[.slice (some ⟨g, 0, none⟩) 5 c, .int .i64 1, .int .i64 10, .int .i64 1001] 24)).heap.size) (by simp)
    have hb4 := hb1.alloc hb1.size (.cells #[.slice (some ⟨g, 0, none⟩) 5 c, .int .i64 1, .int .i64 10, .int .i64 1001] 24)
    clear ho1 ho2 hT hs5
    go_wp2_with fail
    refine (hi _ _ hs1).out.mono ?_
    rintro e wb ⟨rfl, hb2'⟩
    have hbb := hb4.trans (hb2'.mono hb4.size)
    go_wp2_with (go_at_call 18; refine (known_tb _).mono ?_; rintro e wf ⟨rfl, hb6⟩)
    go_ret
    exact ⟨by simp, hbb.trans (hb6.mono hbb.size)⟩
  · have hI : T.is ⟨(someL 5), -1, 10, 20⟩ = false := by decide +kernel
    have hi := fun u W h => hi ⟨(someL 5), -1, 10, 20⟩ u W h
    rw [hI] at hi
    unfold tabV at hi
    simp only at hi
    have hi := fun u W h => Lib.hid (hi u W h)
    have hs5 := fun W => some_tb 5 (by omega) W
    unfold tabV someT at hs5
    simp only at hs5
    have hs5 := fun W => Lib.hid (hs5 W)
    have hl5 := Lib.hid (someL_length 5)
    clear hI
    go_enter Try.func7, Try.ntmps7
    go_wp2_with fail
    refine (hs5 w).out.mono ?_
    rintro e w1 ⟨v1, rfl, ho1, hb1⟩
    obtain ⟨g, c, rfl⟩ : ∃ g c, v1 = .slice (some ⟨g, 0, none⟩) 5 c := by
      rcases ho1.form with ⟨-, h0⟩ | ⟨g, c, h, -⟩
      · rw [hl5.out] at h0; omega
      · exact ⟨g, c, by rw [h, hl5.out]⟩
    have hT := Blk.new w1 _ rfl #[.slice (some ⟨g, 0, none⟩) 5 c, .int .i64 1, .int .i64 10, .int .i64 20] 24
    have hbx := hb1.alloc hb1.size (.cells #[.slice (some ⟨g, 0, none⟩) 5 c, .int .i64 1, .int .i64 10, .int .i64 20] 24)
    have ho2 := ho1.alloc (.cells #[.slice (some ⟨g, 0, none⟩) 5 c, .int .i64 1, .int .i64 10, .int .i64 20] 24)
    have hgl := ho1.lt g (by simp [Value.ownBlock])
    have hzw := hb1.size
    have hs1 := (ho1.sees.below ((Below.refl _ _).alloc (Nat.le_refl _) (.cells #[.slice (some ⟨g, 0, none⟩) 5 c, .int .i64 (-1), .int .i64 10, .int .i64 20] 24))).more (B' := (w1.alloc (.cells #[.slice (some ⟨g, 0, none⟩) 5 c, .int .i64 (-1), .int .i64 10, .int .i64 20] 24)).heap.size) (by simp)
    have hb4 := hb1.alloc hb1.size (.cells #[.slice (some ⟨g, 0, none⟩) 5 c, .int .i64 (-1), .int .i64 10, .int .i64 20] 24)
    clear ho1 ho2 hT hs5
    go_wp2_with fail
    refine (hi _ _ hs1).out.mono ?_
    rintro e wb ⟨rfl, hb2'⟩
    have hbb := hb4.trans (hb2'.mono hb4.size)
    go_wp2_with (go_at_call 18; refine (known_tb _).mono ?_; rintro e wf ⟨rfl, hb6⟩)
    go_ret
    exact ⟨by simp, hbb.trans (hb6.mono hbb.size)⟩

/-! ### THE ROW's STEP around the walk. -/
theorem own_tableOdd : ownKnob Try.prog.godebug = none := by kernel_rfl
theorem laidOut_tableOdd : laidOutB Try.prog = true := by kernel_rfl
set_option maxRecDepth 100000 in
theorem lifted_tableOdd (os : Os) (started : os.Started) (H : Type) (enc : TypeId × Value → H) :
    ReturnsInHanded {} Try.checked os 7 .any (Rows.tableOddSpec.pre6 enc Try.prog Try.f7 Rows.tableOddRow.domain false) (Rows.tableOddSpec.post enc Try.prog Try.f7 false true false false) := by
  refine returnsInHanded_of_change (C := Try.checked) own_tableOdd started (by kernel_rfl) Try.func7
    (ChangeSpec.witness6 (enc := enc) (C := Try.checked) false ⟨#[], #[.int .i64 0], []⟩ 8 (by kernel_rfl) (by kernel_rfl) (by kernel_rfl) (by kernel_rfl)) ?_
  intro W base args ds gs before hval0 hW hcnd _
  have hval : ∀ (j : Nat) t v, Try.f7.params[j]? = some t → args[j]? = some v → Value.okWide Try.prog W .any base t v := hval0
  have hW' := hW
  obtain ⟨p, q, hA0, hV, rfl, hfz, hnd⟩ := hW
  have hA : DataW.TrodAll enc Try.prog W 0 (fun _ => true) true Try.f7.params.toList args.toList ds p := hA0
  rw [Try.params7] at hA hval
  obtain ⟨v0, vs0, d0, ds0, p0, q0, hargs, rfl, rfl, h0, r0⟩ := trodAll_cons hA
  obtain ⟨rfl, rfl, rfl⟩ := trodAll_nil r0
  obtain rfl : args = #[v0] := by cases args; simp_all
  obtain ⟨rfl, rfl⟩ := trodVars_none hV
  obtain ⟨a0, rfl, rfl, rfl, w0⟩ := open_int Try.underlying3 (hval 0 3 v0 rfl rfl) h0
  clear hA0 hval0
  refine (walk_tableOdd a0 W (bounds_i64 w0)).mono fun e W' ⟨he, bel⟩ => ?_
  subst he
  exact ⟨_, rfl, _, _, _, [], _, [], hW', trodAll_mk1 (shut_bool Try.underlying4 _), (trodAll_cons_mk (shut_int Try.underlying3 w0) trodAll_mk0), rfl, bel.frame _, fun h => by cases h⟩

theorem over_tableOdd : Rows.tableOddRow.holds Try.pinned (OpenSpec.ofChange Rows.tableOddSpec) :=
  OpenClaim.holds_of_wide 7 Try.f7 rfl rfl rfl rfl rfl rfl rfl ⟨rfl, rfl, rfl, rfl, rfl⟩ rfl rfl rfl rfl rfl (by kernel_rfl) Try.func7 (by kernel_rfl)
    (of_decide_eq_true (by kernel_rfl)) (by unfold Func.isWrapper; first | (rw [if_pos (by decide +kernel)]; kernel_rfl) | (rw [if_neg (by decide +kernel)]; exact ⟨rfl, rfl⟩))
    (fun os started H enc _ => lifted_tableOdd os started H enc)

theorem proved_tableOdd : Rows.TableOddSaid := over_tableOdd
end Go.Proofs.Ytpkdfdlchidmlaa
