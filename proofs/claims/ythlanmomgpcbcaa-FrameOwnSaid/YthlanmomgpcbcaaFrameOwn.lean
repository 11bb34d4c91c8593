/- FrameOwn holds: a frame that is read hangs no more on the bytes. For all frames. -/
import Derived.Test.YthlanmomgpcbcaaFrP
namespace Go.Proofs.Ythlanmomgpcbcaa
open Go.ChangeShapes Go.WideShapes Go.ChangeAt Go.RowKit
open Go.ChangeMaps (open_string shut_string)
open Fr (St F)

theorem OwnsL.past {w : World} {B : Nat} {v : Value} {l : List Int} (h : OwnsL w B v l) {g : Nat} (hg : g < B) {W X : World} (hX : Below w.heap.size w X) (hW : ∀ b o, b ≠ g → W.cell? ⟨b, o, none⟩ = X.cell? ⟨b, o, none⟩) (hz : X.heap.size ≤ W.heap.size) : SeesL W W.heap.size v l := by
  by_cases h0 : l.length = 0
  · obtain ⟨A, c, rfl, c1, c2, -, hn⟩ := h.sees.at_
    exact ⟨A, c, rfl, c1, c2, fun h => absurd h (by omega), hn⟩
  obtain ⟨g2, c2, hv, hg2⟩ := h.block (by omega)
  obtain ⟨A, c, hv', c1, c2', hs, hn⟩ := (h.sees.below hX).at_
  refine ⟨A, c, hv', c1, c2', fun hp => ?_, hn⟩
  obtain ⟨b, off, hA, hb, hc⟩ := hs hp
  have hz2 := hX.size
  have e := hv.symm.trans hv'
  rw [hA] at e
  injection e with e1
  injection e1 with e2
  injection e2 with e3
  refine ⟨b, off, hA, by omega, fun k hk => ?_⟩
  rw [hW _ _ (by omega)]
  exact hc k hk

set_option maxRecDepth 100000 in
set_option maxHeartbeats 4000000 in
theorem walk_frameOwn (f : F) (v : Value) (w : World) (h : InFrame w f v) :
    Calls Try.prog 11 #[frV f v] w fun e w' => e = .returned (.bool true) ∧ Below w.heap.size w w' := by
  obtain ⟨hv, hd, -, -, hreach⟩ := h
  obtain ⟨A, c, rfl, c1, c2, -, -⟩ := hv.at_
  have R4 := fun W (hb : Below w.heap.size w W) => Lib.hid (is_ref f _ W w.heap.size (hv.below hb))
  cases hi : f.is
  · rw [hi] at R4
    unfold frV at R4 ⊢
    clear hi
    go_enter Try.func11, Try.ntmps11
    go_wp2_with fail
    refine (R4 _ ((Below.refl _ _).alloc (Nat.le_refl _) _)).out.mono ?_
    rintro e w1 ⟨rfl, hb⟩
    have hb := ((Below.refl w.heap.size w).alloc (Nat.le_refl _) _).trans (hb.mono (by simp))
    go_wp2
    go_ret
    exact ⟨rfl, hb⟩
  rw [hi] at R4
  have R1 := fun W (hb : Below w.heap.size w W) => encode_dev f _ W ((hv.below hb).more hb.size) hd
  obtain ⟨⟨k1, k3⟩, hmay, hlen⟩ := f.is_iff.1 hi
  have hLl := f.bytes_length
  have hLb : bytesL f.bytes := F.bytes_ok hi hd
  unfold Enc at R1
  rw [(encR_is hi).1, (encR_is hi).2] at R1
  obtain ⟨a, b, s⟩ := Fr.back hi f.st hmay
  have s := s.2 fun _ => rfl
  have b : Fr.rd f.bytes f.st = f := by rw [b]; split <;> rfl
  have E1 : Fr.err f.bytes f.st = 0 := by rw [Fr.err, a, s]; rfl
  have Z1 : Fr.res f.bytes f.st = f := by rw [Fr.res, a, s]; exact b
  have R2 := fun V W (hs : SeesL W W.heap.size V f.bytes) => decode_dev V f.bytes f.st W hs hLb
  unfold Dec at R2
  rw [E1, Z1] at R2
  have R3 := fun V W (hb : Below w.heap.size w W) (hs : SeesL W W.heap.size V f.d) => same_ref f f (.slice A f.d.length c) V W ((hv.below hb).more hb.size) hs hd hd
  rw [sameB_self] at R3
  obtain ⟨N, hN⟩ : ∃ N, N = f.bytes.length := ⟨_, rfl⟩
  have hhl : 2 ≤ f.hl ∧ f.hl ≤ 6 := by unfold F.hl; split <;> omega
  have hN1 : 0 < N ∧ N ≤ 16 := by omega
  clear hi a b s E1 Z1 hLl hhl k1 k3 hmay
  generalize f.bytes = L at *
  have Q1 := fun W hb => Lib.hid (R1 W hb)
  have Q2 := fun V W hs => Lib.hid (R2 V W hs)
  have Q3 := fun V W hb hs => Lib.hid (R3 V W hb hs)
  clear R1 R2 R3
  unfold frV at Q1 Q2 Q3 R4 ⊢
  unfold stV at Q2
  go_enter Try.func11, Try.ntmps11
  go_wp2_with fail
  have hbox := Lib.hid (box5 w (.int .i64 f.k) (.int .i64 f.st.r) (.int .i64 f.st.s) (.int .i64 f.st.m) (.slice A f.d.length c) 26)
  generalize w.alloc (.cells #[.int .i64 f.k, .int .i64 f.st.r, .int .i64 f.st.s, .int .i64 f.st.m, .slice A f.d.length c] 26) = w0 at *
  have hz0 : w0.heap.size ≤ w.heap.size + 1 ∧ w.heap.size + 1 ≤ w0.heap.size := by have := hbox.out.size; omega
  refine (R4 _ hbox.out.below).out.mono ?_
  rintro e wa ⟨rfl, hb0⟩
  obtain ⟨z0, c00, c01, c02, c03, c04⟩ := hbox.out.cell wa hb0
  go_wp2_with fail
  refine (Q1 _ (hbox.out.below.trans (hb0.mono (by omega)))).out.mono ?_
  rintro e w1 ⟨v1, rfl, ho1, hb⟩
  have hb1 := hb0.trans (hb.mono hb0.size)
  obtain ⟨z1, c10, c11, c12, c13, c14⟩ := hbox.out.cell w1 hb1
  obtain ⟨g, d1, rfl, hg⟩ := ho1.block (by omega)
  have hg0 : w0.heap.size ≤ g := by have := hb0.size; omega
  have hg1 : g < w1.heap.size := by
    obtain ⟨A', c', h1, -, -, hs, -⟩ := ho1.sees.at_
    obtain ⟨b, off, h2, h3, -⟩ := hs (by omega)
    rw [h2] at h1
    cases h1
    exact h3
  have hs1 := ho1.sees
  clear Q1 R4 hb hb0 c00 c01 c02 c03 c04 z0
  go_wp2_with fail
  refine (Q2 _ _ hs1).out.mono ?_
  rintro e w2 ⟨v2, rfl, ho2, hb⟩
  obtain ⟨A2, d2, rfl, -⟩ := ho2.sees.at_
  have hb2 := hb1.trans (hb.mono hb1.size)
  have hbg := Lib.hid (box5 w2 (.int .i64 f.k) (.int .i64 f.st.r) (.int .i64 f.st.s) (.int .i64 f.st.m) (.slice A2 f.d.length d2) 26)
  have hoX := (ho1.below hb (Nat.le_refl _)).alloc (.cells #[.int .i64 f.k, .int .i64 f.st.r, .int .i64 f.st.s, .int .i64 f.st.m, .slice A2 f.d.length d2] 26)
  have hbX := hb2.alloc hb2.size (.cells #[.int .i64 f.k, .int .i64 f.st.r, .int .i64 f.st.s, .int .i64 f.st.m, .slice A2 f.d.length d2] 26)
  have hX2 := (Below.refl w2.heap.size w2).alloc (Nat.le_refl _) (.cells #[.int .i64 f.k, .int .i64 f.st.r, .int .i64 f.st.s, .int .i64 f.st.m, .slice A2 f.d.length d2] 26)
  have hz2 : g < w2.heap.size := Nat.lt_of_lt_of_le hg1 hb.size
  have hz3 : w.heap.size < w2.heap.size := by omega
  obtain ⟨-, c10, c11, c12, c13, c14⟩ := hbox.out.cell w2 hb2
  clear Q2 hs1 ho1 hb hb2 hb1
  go_wp2_with fail
  generalize w2.alloc (.cells #[.int .i64 f.k, .int .i64 f.st.r, .int .i64 f.st.s, .int .i64 f.st.m, .slice A2 f.d.length d2] 26) = X at *
  have KS := fun (W : World) (h1 : ∀ b o, b ≠ g → W.cell? ⟨b, o, none⟩ = X.cell? ⟨b, o, none⟩) (h2 : X.heap.size ≤ W.heap.size) => ho2.past hg1 hX2 h1 h2
  have hNX : ((L.length : Nat) : Int) = N := by omega
  go_loopw [7] (fun i wr => ∃ k : Nat, k ≤ N ∧ i = .int .i64 k ∧ ∃ l' : List Int, l'.length = L.length ∧ OwnsL wr wa.heap.size (.slice (some ⟨g, 0, none⟩) L.length d1) l' ∧ Below w0.heap.size w0 wr ∧ wr.heap.size = X.heap.size ∧ ∀ b o, b ≠ g → wr.cell? ⟨b, o, none⟩ = X.cell? ⟨b, o, none⟩) (fun i _ => N - (intOf i).toNat)
  case atStart => exact ⟨0, by omega, rfl, L, rfl, hoX, hbX, rfl, fun _ _ _ => rfl⟩
  case round =>
    obtain ⟨k, hk, rfl, l', hl', hown, hbel, hsz, hoth⟩ := hrel
    clear hoX hbX
    by_cases hlt : k < N
    · have hold := hown.cell hl'.symm (i := k) (by omega)
      have hfr := hown.frozen hl'.symm k
      have ho2' := hown.set hl'.symm k (bits BinOp.xor IntKind.u8 (l'.getD k 0) 255) (by omega)
      have hb2 := hbel.setCell (p := ⟨g, k, none⟩) hg0 (.int .u8 (bits BinOp.xor IntKind.u8 (l'.getD k 0) 255))
      have q1 : decide ((k : Int) < (L.length : Nat)) = true := by simp; omega
      have hoth2 : ∀ b o, b ≠ g → (wr.setCell ⟨g, k, none⟩ (.int .u8 (bits BinOp.xor IntKind.u8 (l'.getD k 0) 255))).cell? ⟨b, o, none⟩ = X.cell? ⟨b, o, none⟩ := fun b o h =>
        (World.cell?_setCell_far wr ⟨g, k, none⟩ ⟨b, o, none⟩ _ fun e => h e.symm).trans (hoth b o h)
      have hk2 : (k : Nat) < L.length := by omega
      generalize l'.getD k 0 = x at *
      go_wp2
      go_roundw
      case rel => exact ⟨k + 1, by omega, by go_num, l'.set k (bits BinOp.xor IntKind.u8 x 255), by rw [List.length_set]; exact hl', ho2', hb2, by simp [hsz], hoth2⟩
      case measure => simp [intOf]; omega
    · obtain rfl : k = N := by omega
      have q1 : decide ((k : Int) < (L.length : Nat)) = false := by simp; omega
      obtain ⟨-, x0, x1, x2, x3, x4⟩ := hbox.out.cell wr hbel
      obtain ⟨-, y0, y1, y2, y3, y4⟩ := hbg.out.cell X (Below.refl _ _)
      rw [← hoth _ _ (by omega)] at y0 y1 y2 y3 y4
      have hs2 := KS wr hoth (by omega)
      clear hown hoth KS
      go_wp2_with fail
      refine (Q3 _ _ (hbox.out.below.trans (hbel.mono (by omega))) hs2).out.mono ?_
      rintro e w4 ⟨rfl, hb4⟩
      have hb5 := hbel.trans (hb4.mono hbel.size)
      go_wp2_with (go_at_call 22; refine (knownFr_any _).mono ?_; rintro e wf ⟨rfl, hb6⟩)
      go_ret
      have hb7 := hbox.out.below.trans (hb5.mono (by omega))
      exact ⟨by simp, hb7.trans (hb6.mono hb7.size)⟩

/-! ### THE ROW's STEP around the walk. -/
theorem own_frameOwn : ownKnob Try.prog.godebug = none := by kernel_rfl
theorem laidOut_frameOwn : laidOutB Try.prog = true := by kernel_rfl
set_option maxRecDepth 100000 in
theorem lifted_frameOwn (os : Os) (started : os.Started) (H : Type) (enc : TypeId × Value → H) :
    ReturnsInHanded {} Try.checked os 11 .any (Rows.frameOwnSpec.pre6 enc Try.prog Try.f11 Rows.frameOwnRow.domain false) (Rows.frameOwnSpec.post enc Try.prog Try.f11 false true false false) := by
  refine returnsInHanded_of_change_sized (C := Try.checked) own_frameOwn started (by kernel_rfl) Try.func11
    (ChangeSpec.witness6 (enc := enc) (C := Try.checked) false ⟨#[], #[.agg #[.int .i64 0, .int .i64 0, .int .i64 0, .int .i64 0, .slice none 0 0]], []⟩ 8 (by kernel_rfl) (by kernel_rfl) (by kernel_rfl) (by kernel_rfl)) ?_
  intro W base args ds gs before hval0 hW hcnd hsz0 _
  have hval : ∀ (j : Nat) t v, Try.f11.params[j]? = some t → args[j]? = some v → Value.okWide Try.prog W .any base t v := hval0
  have hW' := hW
  obtain ⟨p, q, hA0, hV, rfl, hfz, hnd⟩ := hW
  have hA : DataW.TrodAll enc Try.prog W 0 (fun _ => true) true Try.f11.params.toList args.toList ds p := hA0
  have hsz : (DataW.weightsEach Try.prog (Try.f11.params.toList ++ Rows.frameOwnSpec.plain.varTypes Try.prog) (ds ++ gs)).all (· ≤ reachBytes) = true := hsz0
  rw [Try.params11] at hA hval hsz
  obtain ⟨v0, vs0, d0, ds0, p0, q0, hargs, rfl, rfl, h0, r0⟩ := trodAll_cons hA
  obtain ⟨rfl, rfl, rfl⟩ := trodAll_nil r0
  obtain rfl : args = #[v0] := by cases args; simp_all
  obtain ⟨rfl, rfl⟩ := trodVars_none hV
  obtain ⟨y0, x0, rfl, s0⟩ := sees_frame Try.underlying26 (by kernel_rfl) ⟨rfl, rfl⟩ ⟨rfl, rfl⟩ ⟨rfl, rfl⟩ Try.underlying23 (by kernel_rfl) ⟨rfl, rfl⟩ ⟨rfl, rfl⟩ ⟨rfl, rfl⟩ Try.underlying3 (by kernel_rfl) Try.underlying24 Try.underlying5 (by kernel_rfl) (by kernel_rfl) (by kernel_rfl) (hval 0 26 v0 rfl rfl) (fun n hn => of_decide_eq_true (List.all_eq_true.1 hsz _ (DataW.weights_mem_each (j := 0) rfl rfl n hn))) h0
  have k0 := h0
  have lt0 : ∀ x ∈ p0, x.block < W.heap.size := by obtain ⟨m, hm⟩ := k0; exact DataW.trod_lt m _ _ _ hm
  clear hA0 hval0
  refine (walk_frameOwn y0 x0 W s0).mono fun e W' ⟨he, bel⟩ => ?_
  subst he
  exact ⟨_, rfl, _, _, _, [], _, [], hW', trodAll_mk1 (shut_bool Try.underlying4 _), (trodAll_cons_mk (Below.trod laidOut_frameOwn (by kernel_rfl) (of_decide_eq_true (by kernel_rfl)) k0 bel lt0) trodAll_mk0), rfl, bel.frame _, fun h => by cases h⟩

theorem over_frameOwn : Rows.frameOwnRow.holds Try.pinned (OpenSpec.ofChange Rows.frameOwnSpec) :=
  OpenClaim.holds_of_wide 11 Try.f11 rfl rfl rfl rfl rfl rfl rfl ⟨rfl, rfl, rfl, rfl, rfl⟩ rfl rfl rfl rfl rfl (by kernel_rfl) Try.func11 (by kernel_rfl)
    (of_decide_eq_true (by kernel_rfl)) (by unfold Func.isWrapper; first | (rw [if_pos (by decide +kernel)]; kernel_rfl) | (rw [if_neg (by decide +kernel)]; exact ⟨rfl, rfl⟩))
    (fun os started H enc _ => lifted_frameOwn os started H enc)

theorem proved_frameOwn : Rows.FrameOwnSaid := over_frameOwn
end Go.Proofs.Ythlanmomgpcbcaa
