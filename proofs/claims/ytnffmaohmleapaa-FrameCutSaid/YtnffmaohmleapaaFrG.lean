/- The contract of frame.Encode. -/
import Derived.Test.YtnffmaohmleapaaFrF
import Derived.Deep.CutBlock
namespace Go.Proofs.Ytnffmaohmleapaa
open Go.RowKit
open Fr (St F)

set_option maxRecDepth 100000 in
set_option maxHeartbeats 2000000 in
theorem encode_dev (f : F) (v : Value) (w : World) (hv : SeesL w w.heap.size v f.d) (hd : bytesL f.d) :
    Calls Try.prog 8 #[frV f v] w (Enc w f) := by
  have his := fun W (hb : Below w.heap.size w W) => is_dev f v W w.heap.size (hv.below hb)
  obtain ⟨A, c, rfl, c1, c2, -, -⟩ := hv.at_
  cases hi : f.is
  · rw [hi] at his
    have his := fun W hb => Lib.hid (his W hb)
    have hE : encE f = 1 := by simp [encE, hi]
    have hR : encR f = [] := by simp [encR, hi]
    unfold Enc
    rw [hE, hR]
    clear hi hE hR hv
    unfold frV at his ⊢
    go_enter Try.func8, Try.ntmps8
    go_wp2_with fail
    refine (his _ ((Below.refl _ _).alloc (Nat.le_refl _) _)).out.mono ?_
    rintro e w1 ⟨rfl, hb⟩
    have hb := ((Below.refl w.heap.size w).alloc (Nat.le_refl _) _).trans (hb.mono (by simp))
    go_wp2
    go_ret2
    exact ⟨_, rfl, OwnsL.nil, hb⟩
  · rw [hi] at his
    have his := fun W hb => Lib.hid (his W hb)
    obtain ⟨⟨k1, k3⟩, hmay, hlen⟩ := f.is_iff.1 hi
    have hE : encE f = 0 := by simp [encE, hi]
    have hR : encR f = f.body ++ Fr.two (Fr.sumL f.seed f.body) := by simp [encR, hi, F.bytes]
    have hbody := Lib.hid (F.body_ok hi hd)
    have hbl := f.body_length
    have hsl := f.seed_lt
    have hspell := fun W => Lib.hid (spell_any f.st hmay W)
    have hhl : f.hl ≤ 6 := by unfold F.hl; split <;> omega
    have hS := Fr.sumL_lt hsl f.body
    unfold Enc
    rw [hE, hR]
    have hsum := fun (V : Value) (W : World) (h : SeesL W W.heap.size V f.body) => sumf_any f.k f.st V f.body W h hbody.out
    have hss : (if f.k = 1 then f.st.seed else 0) = f.seed := rfl
    simp only [hss] at hsum
    have hblen : f.body.length ≤ 100000 := by omega
    have hbd : f.body = (if f.k = 1 then [f.k] else [f.k] ++ f.st.bytes) ++ [(f.d.length : Int)] ++ f.d := by
      unfold F.body F.head
      split <;> simp
    clear hss hbl hhl hbody hi hE hR hd
    generalize hSS : Fr.sumL f.seed f.body = S at *
    have wS : IntKind.u8.wrap ((S : Nat) / 256 : Int) = ((S / 256 : Nat) : Int) := by rw [IntKind.wrap_u8]; omega
    have wS2 : IntKind.u8.wrap ((S : Nat) : Int) = ((S % 256 : Nat) : Int) := by rw [IntKind.wrap_u8]; omega
    clear hSS hS hsl
    generalize f.body = body at *
    obtain ⟨k, st, d⟩ := f
    simp only at hv k1 k3 hmay hlen his hspell hbd hsum
    have hwr : IntKind.u8.wrap ((d.length : Nat) : Int) = d.length := by rw [IntKind.wrap_u8]; omega
    have hwk : IntKind.u8.wrap k = k := by rw [IntKind.wrap_u8]; omega
    have hvd := Lib.hid hv
    have hH := fun V W h => Lib.hid (hsum V W h)
    clear hsum hv
    have hsb : st.bytes.length = 4 := rfl
    unfold frV at his ⊢
    unfold stV at hspell hH
    generalize st.bytes = sb at *
    have hsb1 : sb.length ≤ 4 := by omega
    clear hsb
    by_cases hk : k = 1
    case' pos =>
      rw [if_pos hk] at hbd
      subst hk
    case' neg =>
      rw [if_neg hk] at hbd
      have hk' : (k != 1) = true := by simpa using hk
    case pos =>
      go_enter Try.func8, Try.ntmps8
      go_wp2_with fail
      have hbox := Lib.hid (box5 w (.int .i64 1) (.int .i64 st.r) (.int .i64 st.s) (.int .i64 st.m) (.slice A d.length c) 26)
      generalize w.alloc (.cells #[.int .i64 1, .int .i64 st.r, .int .i64 st.s, .int .i64 st.m, .slice A d.length c] 26) = w0 at *
      have hz0 : w0.heap.size ≤ w.heap.size + 1 ∧ w.heap.size + 1 ≤ w0.heap.size := by have := hbox.out.size; omega
      refine (his _ hbox.out.below).out.mono ?_
      rintro e w1 ⟨rfl, hb1⟩
      obtain ⟨z1, c10, c11, c12, c13, c14⟩ := hbox.out.cell w1 hb1
      clear his
      have hba := hb1.alloc hb1.size (.cells #[.int .u8 1] 5)
      have hoB := (owns_lit w1 5 rfl #[.int .u8 1] [1] rfl w0.heap.size hb1.size (by simp [maxLen]) w1.heap.size 1 1 rfl rfl rfl)
      obtain ⟨za, a0, a1, a2, a3, a4⟩ := hbox.out.cell _ hba
      clear hspell
      go_upto_region 6 with fail
      clear c10 c11 c12 c13 c14 z1
      generalize w1.alloc (.cells #[.int .u8 1] 5) = wb at *
      generalize w1.heap.size = g at *
      have hoX := hoB.alloc (.cells #[.int .u8 (d.length : Int)] 5)
      have hbX := hba.alloc hba.size (.cells #[.int .u8 (d.length : Int)] 5)
      have hsX := sees_lit wb 5 #[.int .u8 (d.length : Int)] [(d.length : Int)] rfl _ (Nat.lt_succ_self _) (by simp [maxLen]) wb.heap.size 1 1 rfl rfl rfl
      go_wp2_with (at_builtin; go_loud (refine wpList_appendL _ rfl (.tmp 21) (.tmp 26) 24 rfl w0.heap.size infoU8 Try.underlying24 _ [1] w0 hoX hbX rfl _ _ [(d.length : Int)] rfl hsX hbX.size (by simp <;> omega) ?_))
      intro v3 w3 ho3 hb3
      obtain ⟨z3, b0, b1, b2, b3, b4⟩ := hbox.out.cell w3 hb3
      clear hoX hbX hsX hoB a0 a1 a2 a3 a4
      go_wp2_with (at_builtin; go_loud (refine wpList_appendL _ rfl (.tmp 28) (.tmp 30) 24 rfl w0.heap.size infoU8 Try.underlying24 v3 ([1] ++ [(d.length : Int)]) w0 ho3 hb3 rfl w.heap.size (.slice A d.length c) d rfl (hvd.out.below (hbox.out.below.trans (hb3.mono (by omega)))) hb3.size (by simp <;> omega) ?_))
      intro v4 w4 ho4 hb4
      have ho4 : OwnsL w4 w0.heap.size v4 body := by rw [hbd]; simpa using ho4
      obtain ⟨z4, d0, d1, d2, d3, d4⟩ := hbox.out.cell w4 hb4
      have ho4S := ho4.sees
      clear ho3 hb3 b0 b1 b2 b3 b4
      go_wp2_with fail
      refine (hH v4 w4 ho4S).out.mono ?_
      rintro e w5 ⟨rfl, hb⟩
      have ho5 := ho4.below hb (Nat.le_refl _)
      have hb5 := hb4.trans (hb.mono hb4.size)
      clear hH ho4S ho4 hb hb4 d0 d1 d2 d3 d4
      go_wp2_with (at_builtin; go_loud (refine wpList_appendL _ rfl (.tmp 38) (.tmp 44) 24 rfl w0.heap.size infoU8 Try.underlying24 v4 body w0 (ho5.alloc _) (hb5.alloc hb5.size _) rfl _ _ (Fr.two S) rfl (sees_lit w5 _ _ _ (by simp [Fr.two]) _ (Nat.lt_succ_self _) (by simp [Fr.two, maxLen]) _ _ _ rfl rfl rfl) (by simp; have := hb5.size; omega) (by simp [Fr.two]; omega) ?_))
      intro v6 w6 ho6 hb6
      have hfin : OwnsL w6 w.heap.size v6 (body ++ Fr.two S) := by
        rw [hbd]
        simpa using ho6.base (B := w.heap.size) (by omega)
      have hbf := hbox.out.below.trans (hb6.mono (by omega))
      clear hwr ho6
      go_wp2
      go_ret2
      exact ⟨_, rfl, hfin, hbf⟩
    case neg =>
      go_enter Try.func8, Try.ntmps8
      go_wp2_with fail
      have hbox := Lib.hid (box5 w (.int .i64 k) (.int .i64 st.r) (.int .i64 st.s) (.int .i64 st.m) (.slice A d.length c) 26)
      generalize w.alloc (.cells #[.int .i64 k, .int .i64 st.r, .int .i64 st.s, .int .i64 st.m, .slice A d.length c] 26) = w0 at *
      have hz0 : w0.heap.size ≤ w.heap.size + 1 ∧ w.heap.size + 1 ≤ w0.heap.size := by have := hbox.out.size; omega
      refine (his _ hbox.out.below).out.mono ?_
      rintro e w1 ⟨rfl, hb1⟩
      obtain ⟨z1, c10, c11, c12, c13, c14⟩ := hbox.out.cell w1 hb1
      clear his
      go_wp2_with fail
      refine (hspell _).out.mono ?_
      rintro e wa ⟨va, rfl, hoa, hba⟩
      have hba2 := (hb1.alloc hb1.size (.cells #[.int .u8 k] 5)).trans (hba.mono (by simp; have := hb1.size; omega))
      have hob := (owns_lit w1 5 rfl #[.int .u8 k] [k] rfl w0.heap.size hb1.size (by simp [maxLen]) w1.heap.size 1 1 rfl rfl rfl).below hba (Nat.le_refl _)
      have hoaS := hoa.sees
      clear c10 c11 c12 c13 c14 hba hspell hb1 hoa
      go_wp2_with (at_builtin; go_loud (refine wpList_appendL _ rfl (.tmp 16) (.tmp 19) 24 rfl w0.heap.size infoU8 Try.underlying24 _ [k] w0 hob hba2 rfl wa.heap.size va sb rfl hoaS hba2.size (by simp <;> omega) ?_))
      intro vb wb hoB hbb
      obtain ⟨za, a0, a1, a2, a3, a4⟩ := hbox.out.cell wb hbb
      have hoX := hoB.alloc (.cells #[.int .u8 (d.length : Int)] 5)
      have hbX := hbb.alloc hbb.size (.cells #[.int .u8 (d.length : Int)] 5)
      have hsX := sees_lit wb 5 #[.int .u8 (d.length : Int)] [(d.length : Int)] rfl _ (Nat.lt_succ_self _) (by simp [maxLen]) wb.heap.size 1 1 rfl rfl rfl
      clear hob hoaS hba2
      go_wp2_with (at_builtin; go_loud (refine wpList_appendL _ rfl (.tmp 21) (.tmp 26) 24 rfl w0.heap.size infoU8 Try.underlying24 _ ([k] ++ sb) w0 hoX hbX rfl _ _ [(d.length : Int)] rfl hsX hbX.size (by simp <;> omega) ?_))
      intro v3 w3 ho3 hb3
      obtain ⟨z3, b0, b1, b2, b3, b4⟩ := hbox.out.cell w3 hb3
      clear hoX hbX hsX hoB a0 a1 a2 a3 a4
      go_wp2_with (at_builtin; go_loud (refine wpList_appendL _ rfl (.tmp 28) (.tmp 30) 24 rfl w0.heap.size infoU8 Try.underlying24 v3 (([k] ++ sb) ++ [(d.length : Int)]) w0 ho3 hb3 rfl w.heap.size (.slice A d.length c) d rfl (hvd.out.below (hbox.out.below.trans (hb3.mono (by omega)))) hb3.size (by simp <;> omega) ?_))
      intro v4 w4 ho4 hb4
      have ho4 : OwnsL w4 w0.heap.size v4 body := by rw [hbd]; simpa using ho4
      obtain ⟨z4, d0, d1, d2, d3, d4⟩ := hbox.out.cell w4 hb4
      have ho4S := ho4.sees
      clear ho3 hb3 b0 b1 b2 b3 b4
      go_wp2_with fail
      refine (hH v4 w4 ho4S).out.mono ?_
      rintro e w5 ⟨rfl, hb⟩
      have ho5 := ho4.below hb (Nat.le_refl _)
      have hb5 := hb4.trans (hb.mono hb4.size)
      clear hH ho4S ho4 hb hb4 d0 d1 d2 d3 d4
      go_wp2_with (at_builtin; go_loud (refine wpList_appendL _ rfl (.tmp 38) (.tmp 44) 24 rfl w0.heap.size infoU8 Try.underlying24 v4 body w0 (ho5.alloc _) (hb5.alloc hb5.size _) rfl _ _ (Fr.two S) rfl (sees_lit w5 _ _ _ (by simp [Fr.two]) _ (Nat.lt_succ_self _) (by simp [Fr.two, maxLen]) _ _ _ rfl rfl rfl) (by simp; have := hb5.size; omega) (by simp [Fr.two]; omega) ?_))
      intro v6 w6 ho6 hb6
      have hfin : OwnsL w6 w.heap.size v6 (body ++ Fr.two S) := by
        rw [hbd]
        simpa using ho6.base (B := w.heap.size) (by omega)
      have hbf := hbox.out.below.trans (hb6.mono (by omega))
      clear hwr ho6
      go_wp2
      go_ret2
      exact ⟨_, rfl, hfin, hbf⟩
end Go.Proofs.Ytnffmaohmleapaa
