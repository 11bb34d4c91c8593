/- The contract of matronref3.Encode. -/
import Derived.Test.YthigojakapgllaaFrB
namespace Go.Proofs.Ythigojakapgllaa
open Go.RowKit
open Fr (St F)

set_option maxRecDepth 100000 in
set_option maxHeartbeats 2000000 in
theorem encode_ref (f : F) (v : Value) (w : World) (hv : SeesL w w.heap.size v f.d) (hd : bytesL f.d) :
    Calls Try.prog 13 #[frV f v] w (Enc w f) := by
  have his := fun W (hb : Below w.heap.size w W) => is_ref f v W w.heap.size (hv.below hb)
  obtain ⟨A, c, rfl, c1, c2, -, -⟩ := hv.at_
  cases hi : f.is
  · rw [hi] at his
    have his := fun W hb => Lib.hid (his W hb)
    have hE : encE f = 1 := by simp [encE, hi]
    have hR : encR f = [] := by simp [encR, hi]
    unfold Enc
    rw [hE, hR]
    clear hi hE hR hv
    unfold frV at his ⊢
    go_enter Try.func13, Try.ntmps13
    go_wp2_with fail
    refine (his _ ((Below.refl _ _).alloc (Nat.le_refl _) _)).out.mono ?_
    rintro e w1 ⟨rfl, hb⟩
    have hb := ((Below.refl w.heap.size w).alloc (Nat.le_refl _) _).trans (hb.mono (by simp))
    go_wp2
    go_ret2
    exact ⟨_, rfl, OwnsL.nil, hb⟩
  · rw [hi] at his
    have his := fun W hb => Lib.hid (his W hb)
    obtain ⟨⟨k1, k3⟩, hmay, hlen⟩ := f.is_iff.1 hi
    have hE : encE f = 0 := by simp [encE, hi]
    have hR : encR f = f.body ++ Fr.two (Fr.sumL f.seed f.body) := by simp [encR, hi, F.bytes]
    have hbody := Lib.hid (F.body_ok hi hd)
    have hbl := f.body_length
    have hsl := f.seed_lt
    have hseed := fun W => Lib.hid (seed_ref f.st W)
    have hstate := fun W => Lib.hid (state_ref f.st hmay W)
    have hhl : f.hl ≤ 6 := by unfold F.hl; split <;> omega
    unfold Enc
    rw [hE, hR]
    have hsealed := fun (V : Value) (W : World) (h : SeesL W W.heap.size V f.body) => Lib.hid (sealed_ref V f.body f.seed W h hbody.out (by omega) hsl)
    obtain ⟨k, st, d⟩ := f
    by_cases hk : k = 1
    · have hB1 : F.body ⟨k, st, d⟩ = [1] ++ [(d.length : Int)] ++ d := by simp [F.body, F.head, hk]
      have hS1 : F.seed ⟨k, st, d⟩ = st.seed := by simp [F.seed, hk]
      rw [hB1, hS1] at hsealed ⊢
      subst hk
      simp only at hv k1 k3 hmay hlen his hseed hstate hsl
      have hvd := Lib.hid hv
      have hH := fun V W h => Lib.hid (hsealed V W h)
      clear hsealed hE hR hB1 hS1 hbody hbl hi hd hv hhl hstate hmay
      unfold frV at his ⊢
      unfold stV at hseed
      go_enter Try.func13, Try.ntmps13
      go_wp2_with fail
      have hbox := Lib.hid (box5 w (.int .i64 1) (.int .i64 st.r) (.int .i64 st.s) (.int .i64 st.m) (.slice A d.length c) 38)
      generalize w.alloc (.cells #[.int .i64 1, .int .i64 st.r, .int .i64 st.s, .int .i64 st.m, .slice A d.length c] 38) = w0 at *
      have hz0 : w0.heap.size ≤ w.heap.size + 1 ∧ w.heap.size + 1 ≤ w0.heap.size := by have := hbox.out.size; omega
      refine (his _ hbox.out.below).out.mono ?_
      rintro e w1 ⟨rfl, hb1⟩
      obtain ⟨z1, c10, c11, c12, c13, c14⟩ := hbox.out.cell w1 hb1
      clear his
      go_wp2_with fail
      refine (hseed _).out.mono ?_
      rintro e w2 ⟨rfl, hb⟩
      have ho2 := (owns_lit w1 5 rfl #[.int .u8 1] [1] rfl w0.heap.size hb1.size (by simp [maxLen]) w1.heap.size 1 1 rfl rfl rfl).below hb (Nat.le_refl _)
      have hb2 := (hb1.alloc hb1.size (.cells #[.int .u8 1] 5)).trans (hb.mono (by simp; have := hb1.size; omega))
      obtain ⟨z2, c20, c21, c22, c23, c24⟩ := hbox.out.cell w2 hb2
      have hwr : IntKind.u8.wrap ((d.length : Nat) : Int) = d.length := by rw [IntKind.wrap_u8]; omega
      have hb2x := hb2.alloc hb2.size (.cells #[.int .u8 (d.length : Int)] 5)
      have x2 := (hbox.out.cell _ hb2x).2.2.2.2.2
      clear c10 c11 c12 c13 c14 hb hb1 hseed c21 c22 c23
      go_wp2_with fail
      go_region_held3 (fun w' => w'.cell? ⟨w.heap.size, 4, none⟩ = some (.slice A d.length c)) (first | exact c24 | exact x2 | exact x3 | exact x5 | exact x6) (first
        | ((refine step_appendL _ rfl (.tmp 24) (.tmp 29) 32 rfl w0.heap.size infoU8 Try.underlying32 (.slice (some ⟨w1.heap.size, 0, none⟩) 1 1) [1] w0 ?_ ?_ rfl (w2.heap.size + 1) (.slice (some ⟨w2.heap.size, 0, none⟩) 1 1) [(d.length : Int)] rfl ?_ ?_ ?_ ?_); exact (ho2.alloc _).drew; exact hb2x.drew; exact (sees_lit w2 5 _ [(d.length : Int)] rfl _ (Nat.lt_succ_self _) (by simp [maxLen]) _ _ _ rfl rfl rfl).drew; exact hb2x.size; (focus simp); intro v3 w3 ho3 hb3 _; have x3 := (hbox.out.cell _ hb3).2.2.2.2.2)
        | ((refine step_appendL _ rfl (.tmp 30) (.tmp 32) 32 rfl w0.heap.size infoU8 Try.underlying32 v3 ([1] ++ [(d.length : Int)]) w0 ho3 hb3 rfl w.heap.size (.slice A d.length c) d rfl ?_ ?_ ?_ ?_); exact hvd.out.below (hbox.out.below.trans (hb3.mono (by omega))); exact hb3.size; (focus (simp; omega)); intro v5 w5 ho5 hb5 _; have x5 := (hbox.out.cell _ hb5).2.2.2.2.2)
        | ((go_at_call 24; refine (hH v5 _ ?_).out.mono ?_); exact ho5.sees; rintro e w6 ⟨v6, rfl, ho6, hb6⟩; have hb6 := hb5.trans (hb6.mono hb5.size); have x6 := (hbox.out.cell _ hb6).2.2.2.2.2))
      have hfin := ho6.base (B := w.heap.size) (by have := hb5.size; omega)
      have hbf := hbox.out.below.trans (hb6.mono (by omega))
      clear hwr ho6
      go_wp2
      go_ret2
      exact ⟨_, rfl, hfin, hbf⟩
    · have hB1 : F.body ⟨k, st, d⟩ = [k] ++ st.bytes ++ [(d.length : Int)] ++ d := by simp [F.body, F.head, hk]
      have hS1 : F.seed ⟨k, st, d⟩ = 0 := by simp [F.seed, hk]
      rw [hB1, hS1] at hsealed ⊢
      simp only at hv k1 k3 hmay hlen his hseed hstate hsl
      have hk' : (k != 1) = true := by simpa using hk
      have hvd := Lib.hid hv
      have hH := fun V W h => Lib.hid (hsealed V W h)
      have hsb : st.bytes.length = 4 := rfl
      clear hsealed hE hR hB1 hS1 hbody hbl hi hd hv hhl hmay hk
      unfold frV at his ⊢
      unfold stV at hseed hstate
      generalize st.bytes = sb at *
      have hsb1 : sb.length ≤ 4 := by omega
      clear hsb
      go_enter Try.func13, Try.ntmps13
      go_wp2_with fail
      have hbox := Lib.hid (box5 w (.int .i64 k) (.int .i64 st.r) (.int .i64 st.s) (.int .i64 st.m) (.slice A d.length c) 38)
      generalize w.alloc (.cells #[.int .i64 k, .int .i64 st.r, .int .i64 st.s, .int .i64 st.m, .slice A d.length c] 38) = w0 at *
      have hz0 : w0.heap.size ≤ w.heap.size + 1 ∧ w.heap.size + 1 ≤ w0.heap.size := by have := hbox.out.size; omega
      refine (his _ hbox.out.below).out.mono ?_
      rintro e w1 ⟨rfl, hb1⟩
      obtain ⟨z1, c10, c11, c12, c13, c14⟩ := hbox.out.cell w1 hb1
      clear his
      go_wp2_with fail
      refine (hseed _).out.mono ?_
      rintro e w2 ⟨rfl, hb⟩
      have ho2 := (owns_lit w1 5 rfl #[.int .u8 k] [k] rfl w0.heap.size hb1.size (by simp [maxLen]) w1.heap.size 1 1 rfl rfl rfl).below hb (Nat.le_refl _)
      have hb2 := (hb1.alloc hb1.size (.cells #[.int .u8 k] 5)).trans (hb.mono (by simp; have := hb1.size; omega))
      obtain ⟨z2, c20, c21, c22, c23, c24⟩ := hbox.out.cell w2 hb2
      clear c10 c11 c12 c13 c14 hb hseed
      go_wp2_with fail
      refine (hstate _).out.mono ?_
      rintro e wa ⟨va, rfl, hoa, hba⟩
      have hba2 := hb2.trans (hba.mono hb2.size)
      have hob := ho2.below hba (Nat.le_refl _)
      have hoaS := hoa.sees
      clear c20 c21 c22 c23 c24 hba hb2 ho2 hstate hb1 hoa
      go_wp2_with (at_builtin; go_loud (refine wpList_appendL _ rfl (.tmp 19) (.tmp 22) 32 rfl w0.heap.size infoU8 Try.underlying32 _ [k] w0 hob hba2 rfl wa.heap.size va sb rfl hoaS hba2.size (by simp; omega) ?_))
      intro vb wb hobb hbb
      obtain ⟨zb, c20, c21, c22, c23, c24⟩ := hbox.out.cell wb hbb
      obtain ⟨Ab, cb, rfl, -, -, -, -⟩ := hobb.sees.at_
      have hwr : IntKind.u8.wrap ((d.length : Nat) : Int) = d.length := by rw [IntKind.wrap_u8]; omega
      have hb2x := hbb.alloc hbb.size (.cells #[.int .u8 (d.length : Int)] 5)
      have x2 := (hbox.out.cell _ hb2x).2.2.2.2.2
      clear c20 c21 c22 c23 hba2 hob hoaS
      go_wp2_with fail
      go_region_held3 (fun w' => w'.cell? ⟨w.heap.size, 4, none⟩ = some (.slice A d.length c)) (first | exact c24 | exact x2 | exact x3 | exact x5 | exact x6) (first
        | ((refine step_appendL _ rfl (.tmp 24) (.tmp 29) 32 rfl w0.heap.size infoU8 Try.underlying32 _ ([k] ++ sb) w0 ?_ ?_ rfl (wb.heap.size + 1) (.slice (some ⟨wb.heap.size, 0, none⟩) 1 1) [(d.length : Int)] rfl ?_ ?_ ?_ ?_); exact (hobb.alloc _).drew; exact hb2x.drew; exact (sees_lit wb 5 _ [(d.length : Int)] rfl _ (Nat.lt_succ_self _) (by simp [maxLen]) _ _ _ rfl rfl rfl).drew; exact hb2x.size; (focus (simp; omega)); intro v3 w3 ho3 hb3 _; have x3 := (hbox.out.cell _ hb3).2.2.2.2.2)
        | ((refine step_appendL _ rfl (.tmp 30) (.tmp 32) 32 rfl w0.heap.size infoU8 Try.underlying32 v3 ([k] ++ sb ++ [(d.length : Int)]) w0 ho3 hb3 rfl w.heap.size (.slice A d.length c) d rfl ?_ ?_ ?_ ?_); exact hvd.out.below (hbox.out.below.trans (hb3.mono (by omega))); exact hb3.size; (focus (simp; omega)); intro v5 w5 ho5 hb5 _; have x5 := (hbox.out.cell _ hb5).2.2.2.2.2)
        | ((go_at_call 24; refine (hH v5 _ ?_).out.mono ?_); exact ho5.sees; rintro e w6 ⟨v6, rfl, ho6, hb6⟩; have hb6 := hb5.trans (hb6.mono hb5.size); have x6 := (hbox.out.cell _ hb6).2.2.2.2.2))
      have hfin := ho6.base (B := w.heap.size) (by have := hb5.size; omega)
      have hbf := hbox.out.below.trans (hb6.mono (by omega))
      clear hwr ho6
      go_wp2
      go_ret2
      exact ⟨_, rfl, hfin, hbf⟩
end Go.Proofs.Ythigojakapgllaa
