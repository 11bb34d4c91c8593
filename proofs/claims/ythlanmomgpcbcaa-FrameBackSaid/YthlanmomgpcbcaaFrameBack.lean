/- FrameBack holds: a frame comes back as it was; a Normal one by its own state, the others by any. For all frames and states. -/
import Derived.Test.YthlanmomgpcbcaaFrP
namespace Go.Proofs.Ythlanmomgpcbcaa
open Go.ChangeShapes Go.WideShapes Go.ChangeAt Go.RowKit
open Go.ChangeMaps (open_string shut_string)
open Fr (St F)

set_option maxRecDepth 100000 in
set_option maxHeartbeats 4000000 in
theorem walk_frameBack (f : F) (v : Value) (o : St) (w : World) (h : InFrame w f v) (_ho : InState o) :
    Calls Try.prog 5 #[frV f v, stV o] w fun e w' => e = .returned (.bool true) ∧ Below w.heap.size w w' := by
  obtain ⟨hv, hd, -, -, hreach⟩ := h
  obtain ⟨A, c, rfl, c1, c2, -, -⟩ := hv.at_
  have R4 := fun W (hb : Below w.heap.size w W) => Lib.hid (is_ref f _ W w.heap.size (hv.below hb))
  have R5 := fun W => Lib.hid (may_ref o W)
  have hbox := Lib.hid (box53 w (.int .i64 f.k) (.int .i64 f.st.r) (.int .i64 f.st.s) (.int .i64 f.st.m) (.slice A f.d.length c) (.int .i64 o.r) (.int .i64 o.s) (.int .i64 o.m) 26 23)
  cases hi : f.is
  · rw [hi] at R4
    unfold frV at R4 ⊢
    unfold stV at R5 ⊢
    clear hi
    go_enter Try.func5, Try.ntmps5
    go_wp2_with fail
    refine (R4 _ hbox.out.below).out.mono ?_
    rintro e w1 ⟨rfl, hb⟩
    have hb := hbox.out.below.trans (hb.mono hbox.out.below.size)
    go_wp2
    go_ret
    exact ⟨rfl, hb⟩
  rw [hi] at R4
  cases hm : o.may
  · rw [hm] at R5
    unfold frV at R4 ⊢
    unfold stV at R5 ⊢
    clear hi hm
    go_enter Try.func5, Try.ntmps5
    go_wp2_with fail
    generalize (w.alloc (.cells #[.int .i64 f.k, .int .i64 f.st.r, .int .i64 f.st.s, .int .i64 f.st.m, .slice A f.d.length c] 26)).alloc (.cells #[.int .i64 o.r, .int .i64 o.s, .int .i64 o.m] 23) = w0 at *
    refine (R4 _ hbox.out.below).out.mono ?_
    rintro e w1 ⟨rfl, hb1⟩
    obtain ⟨z1, -, y0, y1, y2⟩ := hbox.out.cell w1 hb1
    go_wp2_with fail
    refine (R5 _).out.mono ?_
    rintro e w2 ⟨rfl, hb2⟩
    have hb := hbox.out.below.trans ((hb1.trans (hb2.mono hb1.size)).mono hbox.out.below.size)
    go_wp2
    go_ret
    exact ⟨rfl, hb⟩
  rw [hm] at R5
  have R1 := fun W (hb : Below w.heap.size w W) => encode_dev f _ W ((hv.below hb).more hb.size) hd
  obtain ⟨⟨k1, k3⟩, hmay, hlen⟩ := f.is_iff.1 hi
  have hLb : bytesL f.bytes := F.bytes_ok hi hd
  unfold Enc at R1
  rw [(encR_is hi).1, (encR_is hi).2] at R1
  have key : ∀ p : St, (f.k = 1 → p = f.st) → p.may = true → Fr.err f.bytes p = 0 ∧ Fr.res f.bytes p = f := fun p h1 h2 => by
    obtain ⟨a, b, s⟩ := Fr.back hi p h2
    have hs : Fr.sumB f.bytes p = true := s.2 fun e => by rw [h1 e]
    refine ⟨by rw [Fr.err, a, hs]; rfl, ?_⟩
    rw [Fr.res, a, hs]
    show Fr.rd f.bytes p = f
    rw [b]
    by_cases e : f.k = 1
    · rw [if_pos e, h1 e]
    · rw [if_neg e]
  have R2 : ∀ p : St, (f.k = 1 → p = f.st) → p.may = true → ∀ V W, SeesL W W.heap.size V f.bytes → Hid (Calls Try.prog 23 #[V, stV p] W fun e w' => ∃ v, e = .returned (.tuple #[frV f v, .int .i64 0]) ∧ OwnsL w' W.heap.size v f.d ∧ Below W.heap.size W w') := fun p h1 h2 V W hs => by
    have := decode_dev V f.bytes p W hs hLb
    unfold Dec at this
    rw [(key p h1 h2).1, (key p h1 h2).2] at this
    exact Lib.hid this
  have R3 := fun V W (hb : Below w.heap.size w W) (hs : SeesL W W.heap.size V f.d) => Lib.hid (same_ref f f (.slice A f.d.length c) V W ((hv.below hb).more hb.size) hs hd hd)
  rw [sameB_self] at R3
  have R1 := fun W hb => Lib.hid (R1 W hb)
  clear key hLb
  by_cases hk : f.k = 1
  case' pos =>
    have hk' : (f.k != 1) = false := by simpa using hk
    have Q2 := R2 f.st (fun _ => rfl) hmay
  case' neg =>
    have hk' : (f.k != 1) = true := by simpa using hk
    have Q2 := R2 o (fun e => absurd e hk) hm
  all_goals
    clear hi hmay hm hk R2 hv hd
    unfold frV at R1 R3 R4 Q2 ⊢
    unfold stV at R5 Q2 ⊢
    generalize f.bytes = L at *
    go_enter Try.func5, Try.ntmps5
    go_wp2_with fail
    generalize (w.alloc (.cells #[.int .i64 f.k, .int .i64 f.st.r, .int .i64 f.st.s, .int .i64 f.st.m, .slice A f.d.length c] 26)).alloc (.cells #[.int .i64 o.r, .int .i64 o.s, .int .i64 o.m] 23) = w0 at *
    have hz0 : w0.heap.size ≤ w.heap.size + 2 ∧ w.heap.size + 2 ≤ w0.heap.size := by have := hbox.out.size; omega
    refine (R4 _ hbox.out.below).out.mono ?_
    rintro e wa ⟨rfl, hba⟩
    obtain ⟨z1, ⟨x0, x1, x2, x3, x4⟩, y0, y1, y2⟩ := hbox.out.cell wa hba
    go_wp2_with fail
    refine (R5 _).out.mono ?_
    rintro e wb ⟨rfl, hb⟩
    have hbb := hba.trans (hb.mono hba.size)
    clear x0 x1 x2 x3 x4 y0 y1 y2 hb hba z1
    obtain ⟨z1, ⟨x0, x1, x2, x3, x4⟩, y0, y1, y2⟩ := hbox.out.cell wb hbb
    go_wp2_with fail
    refine (R1 _ (hbox.out.below.trans (hbb.mono (by omega)))).out.mono ?_
    rintro e wc ⟨v1, rfl, ho1, hb⟩
    have hbc := hbb.trans (hb.mono hbb.size)
    obtain ⟨A1, d1, rfl, -⟩ := ho1.sees.at_
    clear x0 x1 x2 x3 x4 y0 y1 y2 hb hbb z1 R1 R4 R5
    obtain ⟨z1, ⟨x0, x1, x2, x3, x4⟩, y0, y1, y2⟩ := hbox.out.cell wc hbc
    have hzc := hbc.size
    have z2 : w.heap.size < wc.heap.size := by omega
    have hs1 := ho1.sees
    clear ho1
    go_wp2_with fail
    refine (Q2 _ _ ((hs1.below ((Below.refl _ _).alloc (Nat.le_refl _) _)).more (by simp))).out.mono ?_
    rintro e wd ⟨v3, rfl, ho3, hb⟩
    have hbd := (hbc.alloc hzc _).trans (hb.mono (by simp; omega))
    obtain ⟨A3, d3, rfl, -⟩ := ho3.sees.at_
    clear x0 x1 x2 x3 x4 y0 y1 y2 hb hbc z1 z2 hs1 Q2 hzc
    obtain ⟨z1, ⟨x0, x1, x2, x3, x4⟩, y0, y1, y2⟩ := hbox.out.cell wd hbd
    have z2 : w.heap.size < wd.heap.size := by omega
    have hs3 := (ho3.sees.below ((Below.refl _ _).alloc (Nat.le_refl _) (.cells #[.int .i64 f.k, .int .i64 f.st.r, .int .i64 f.st.s, .int .i64 f.st.m, .slice A3 f.d.length d3] 26))).more (show _ ≤ (wd.alloc (.cells #[.int .i64 f.k, .int .i64 f.st.r, .int .i64 f.st.s, .int .i64 f.st.m, .slice A3 f.d.length d3] 26)).heap.size by simp)
    have hb4 := (hbox.out.below.trans (hbd.mono (by omega))).alloc (show _ ≤ wd.heap.size by omega) (.cells #[.int .i64 f.k, .int .i64 f.st.r, .int .i64 f.st.s, .int .i64 f.st.m, .slice A3 f.d.length d3] 26)
    clear ho3 hbd
    go_wp2_with fail
    refine (R3 _ _ hb4 hs3).out.mono ?_
    rintro e we ⟨rfl, hb⟩
    have hb5 := hb4.trans (hb.mono hb4.size)
    clear R3 hs3 hb hb4 x0 x1 x2 x3 x4 y0 y1 y2
    go_wp2_with (go_at_call 22; refine (knownFr_any _).mono ?_; rintro e wf ⟨rfl, hb6⟩)
    go_ret
    exact ⟨by simp, hb5.trans (hb6.mono hb5.size)⟩

/-! ### THE ROW's STEP around the walk. -/
theorem own_frameBack : ownKnob Try.prog.godebug = none := by kernel_rfl
theorem laidOut_frameBack : laidOutB Try.prog = true := by kernel_rfl
set_option maxRecDepth 100000 in
theorem lifted_frameBack (os : Os) (started : os.Started) (H : Type) (enc : TypeId × Value → H) :
    ReturnsInHanded {} Try.checked os 5 .any (Rows.frameBackSpec.pre6 enc Try.prog Try.f5 Rows.frameBackRow.domain false) (Rows.frameBackSpec.post enc Try.prog Try.f5 false true false false) := by
  refine returnsInHanded_of_change_sized (C := Try.checked) own_frameBack started (by kernel_rfl) Try.func5
    (ChangeSpec.witness6 (enc := enc) (C := Try.checked) false ⟨#[], #[.agg #[.int .i64 0, .int .i64 0, .int .i64 0, .int .i64 0, .slice none 0 0], .agg #[.int .i64 0, .int .i64 0, .int .i64 0]], []⟩ 8 (by kernel_rfl) (by kernel_rfl) (by kernel_rfl) (by kernel_rfl)) ?_
  intro W base args ds gs before hval0 hW hcnd hsz0 _
  have hval : ∀ (j : Nat) t v, Try.f5.params[j]? = some t → args[j]? = some v → Value.okWide Try.prog W .any base t v := hval0
  have hW' := hW
  obtain ⟨p, q, hA0, hV, rfl, hfz, hnd⟩ := hW
  have hA : DataW.TrodAll enc Try.prog W 0 (fun _ => true) true Try.f5.params.toList args.toList ds p := hA0
  have hsz : (DataW.weightsEach Try.prog (Try.f5.params.toList ++ Rows.frameBackSpec.plain.varTypes Try.prog) (ds ++ gs)).all (· ≤ reachBytes) = true := hsz0
  rw [Try.params5] at hA hval hsz
  obtain ⟨v0, vs0, d0, ds0, p0, q0, hargs, rfl, rfl, h0, r0⟩ := trodAll_cons hA
  obtain ⟨v1, vs1, d1, ds1, p1, q1, rfl, rfl, rfl, h1, r1⟩ := trodAll_cons r0
  obtain ⟨rfl, rfl, rfl⟩ := trodAll_nil r1
  obtain rfl : args = #[v0, v1] := by cases args; simp_all
  obtain ⟨rfl, rfl⟩ := trodVars_none hV
  obtain ⟨y0, x0, rfl, s0⟩ := sees_frame Try.underlying26 (by kernel_rfl) ⟨rfl, rfl⟩ ⟨rfl, rfl⟩ ⟨rfl, rfl⟩ Try.underlying23 (by kernel_rfl) ⟨rfl, rfl⟩ ⟨rfl, rfl⟩ ⟨rfl, rfl⟩ Try.underlying3 (by kernel_rfl) Try.underlying24 Try.underlying5 (by kernel_rfl) (by kernel_rfl) (by kernel_rfl) (hval 0 26 v0 rfl rfl) (fun n hn => of_decide_eq_true (List.all_eq_true.1 hsz _ (DataW.weights_mem_each (j := 0) rfl rfl n hn))) h0
  have k0 := h0
  have lt0 : ∀ x ∈ p0, x.block < W.heap.size := by obtain ⟨m, hm⟩ := k0; exact DataW.trod_lt m _ _ _ hm
  obtain ⟨y1, rfl, s1⟩ := sees_state Try.underlying23 (by kernel_rfl) ⟨rfl, rfl⟩ ⟨rfl, rfl⟩ ⟨rfl, rfl⟩ Try.underlying3 (by kernel_rfl) (hval 1 23 v1 rfl rfl) h1
  have k1 := h1
  have lt1 : ∀ x ∈ p1, x.block < W.heap.size := by obtain ⟨m, hm⟩ := k1; exact DataW.trod_lt m _ _ _ hm
  clear hA0 hval0
  refine (walk_frameBack y0 x0 y1 W s0 s1).mono fun e W' ⟨he, bel⟩ => ?_
  subst he
  exact ⟨_, rfl, _, _, _, [], _, [], hW', trodAll_mk1 (shut_bool Try.underlying4 _), (trodAll_cons_mk (Below.trod laidOut_frameBack (by kernel_rfl) (of_decide_eq_true (by kernel_rfl)) k0 bel lt0) (trodAll_cons_mk (Below.trod laidOut_frameBack (by kernel_rfl) (of_decide_eq_true (by kernel_rfl)) k1 bel lt1) trodAll_mk0)), rfl, bel.frame _, fun h => by cases h⟩

theorem over_frameBack : Rows.frameBackRow.holds Try.pinned (OpenSpec.ofChange Rows.frameBackSpec) :=
  OpenClaim.holds_of_wide 5 Try.f5 rfl rfl rfl rfl rfl rfl rfl ⟨rfl, rfl, rfl, rfl, rfl⟩ rfl rfl rfl rfl rfl (by kernel_rfl) Try.func5 (by kernel_rfl)
    (of_decide_eq_true (by kernel_rfl)) (by unfold Func.isWrapper; first | (rw [if_pos (by decide +kernel)]; kernel_rfl) | (rw [if_neg (by decide +kernel)]; exact ⟨rfl, rfl⟩))
    (fun os started H enc _ => lifted_frameBack os started H enc)

theorem proved_frameBack : Rows.FrameBackSaid := over_frameBack
end Go.Proofs.Ythlanmomgpcbcaa
