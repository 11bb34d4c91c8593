/- FrameOnce holds: bytes that are read are written as they were. For all bytes and states. -/
import Derived.Test.YthlanmomgpcbcaaFrP
namespace Go.Proofs.Ythlanmomgpcbcaa
open Go.ChangeShapes Go.WideShapes Go.ChangeAt Go.RowKit
open Go.ChangeMaps (open_string shut_string)
open Fr (St F)

set_option maxRecDepth 100000 in
set_option maxHeartbeats 4000000 in
theorem walk_frameOnce0 (v : Value) (l : List Int) (o : St) (w : World) (hv : SeesL w w.heap.size v l) (hl : bytesL l) :
    Calls Try.prog 15 #[v, stV o] w fun e w' => e = .returned (.bool true) ∧ Below w.heap.size w w' := by
  obtain ⟨A, c, rfl, c1, c2, -, -⟩ := hv.at_
  by_cases h0 : 60 < l.length
  · have q1 : decide ((60 : Int) < (l.length : Nat)) = true := by simp; omega
    unfold stV
    go_enter Try.func15, Try.ntmps15
    go_wp2
    go_ret
    exact ⟨rfl, (Below.refl _ _).alloc (Nat.le_refl _) _⟩
  have q1 : decide ((60 : Int) < (l.length : Nat)) = false := by simp; omega
  have R1 := fun W (hb : Below w.heap.size w W) => decode_dev (.slice A l.length c) l o W ((hv.below hb).more hb.size) hl
  unfold Dec at R1
  by_cases hE : Fr.formB l o = true ∧ Fr.sumB l o = true
  rotate_left
  · have hZ : Fr.res l o = Fr.zero := by
      rw [Fr.res]
      cases hf : Fr.formB l o <;> cases hs : Fr.sumB l o <;> simp_all
    have hE2 : Fr.err l o = 2 ∨ Fr.err l o = 3 := by
      rw [Fr.err]
      cases hf : Fr.formB l o <;> cases hs : Fr.sumB l o <;> simp_all
    rw [hZ] at R1
    generalize Fr.err l o = E at *
    have q0 : (E != 0) = true := by rcases hE2 with rfl | rfl <;> rfl
    have hE2 : E = 2 ∨ (E == 2) = false ∧ E = 3 := by rcases hE2 with rfl | rfl <;> simp
    clear hv hl hZ hE
    unfold frV Fr.zero at R1
    unfold stV at R1 ⊢
    have R2 := fun W hb => Lib.hid (R1 W hb)
    clear R1
    rcases hE2 with rfl | ⟨q2, rfl⟩
    all_goals
      go_enter Try.func15, Try.ntmps15
      go_wp2_with fail
      have hb0 := (Below.refl w.heap.size w).alloc (Nat.le_refl _) (.cells #[.int .i64 o.r, .int .i64 o.s, .int .i64 o.m] 23)
      generalize w.alloc (.cells #[.int .i64 o.r, .int .i64 o.s, .int .i64 o.m] 23) = w0 at *
      refine (R2 _ hb0).out.mono ?_
      rintro e w1 ⟨v1, rfl, ho1, hb⟩
      obtain ⟨A1, d1, rfl⟩ : ∃ A d, v1 = .slice A 0 d := by
        obtain ⟨A, d, h, -⟩ := ho1.sees.at_
        exact ⟨A, d, h⟩
      have hb1 := hb0.trans (hb.mono hb0.size)
      have hb2 := hb1.alloc hb1.size (.cells #[.int .i64 0, .int .i64 0, .int .i64 0, .int .i64 0, .slice A1 0 d1] 26)
      clear R2 ho1 hb
      go_wp2_with (go_at_call 22; refine (knownFr_any _).mono ?_; rintro e wf ⟨rfl, hb6⟩)
      go_ret
      exact ⟨by simp, hb2.trans (hb6.mono hb2.size)⟩
  obtain ⟨hf, hs⟩ := hE
  have hZ : Fr.res l o = Fr.rd l o := by simp [Fr.res, hf, hs]
  have hE : Fr.err l o = 0 := by simp [Fr.err, hf, hs]
  obtain ⟨hi, hbs, hd⟩ := Fr.once hl hf hs
  rw [hZ, hE] at R1
  generalize Fr.rd l o = f at *
  have R3 := fun V W (h : SeesL W W.heap.size V f.d) => encode_dev f V W h hd
  unfold Enc at R3
  rw [(encR_is hi).1, (encR_is hi).2, hbs] at R3
  clear hZ hE hi hbs hd hf hs hl
  unfold frV at R1 R3
  unfold stV at R1 ⊢
  have Q1 := fun W hb => Lib.hid (R1 W hb)
  have Q3 := fun V W h => Lib.hid (R3 V W h)
  clear R1 R3
  go_enter Try.func15, Try.ntmps15
  go_wp2_with fail
  have hb0 := (Below.refl w.heap.size w).alloc (Nat.le_refl _) (.cells #[.int .i64 o.r, .int .i64 o.s, .int .i64 o.m] 23)
  generalize w.alloc (.cells #[.int .i64 o.r, .int .i64 o.s, .int .i64 o.m] 23) = w0 at *
  refine (Q1 _ hb0).out.mono ?_
  rintro e w1 ⟨v1, rfl, ho1, hb⟩
  have hb1 := hb0.trans (hb.mono hb0.size)
  obtain ⟨A1, d1, rfl, -⟩ := ho1.sees.at_
  have hs1 := (ho1.sees.below ((Below.refl _ _).alloc (Nat.le_refl _) (.cells #[.int .i64 f.k, .int .i64 f.st.r, .int .i64 f.st.s, .int .i64 f.st.m, .slice A1 f.d.length d1] 26))).more (show _ ≤ (w1.alloc (.cells #[.int .i64 f.k, .int .i64 f.st.r, .int .i64 f.st.s, .int .i64 f.st.m, .slice A1 f.d.length d1] 26)).heap.size by simp)
  have hb2 := hb1.alloc hb1.size (.cells #[.int .i64 f.k, .int .i64 f.st.r, .int .i64 f.st.s, .int .i64 f.st.m, .slice A1 f.d.length d1] 26)
  clear Q1 ho1 hb
  go_wp2_with fail
  refine (Q3 _ _ hs1).out.mono ?_
  rintro e w3 ⟨v3, rfl, ho3, hb⟩
  have hb3 := hb2.trans (hb.mono hb2.size)
  have k1 := run_textL ((hv.below hb3).more hb3.size)
  have k2 := run_textL ho3.sees
  obtain ⟨A3, d3, rfl, -⟩ := ho3.sees.at_
  clear Q3 hs1 ho3 hb hv
  go_wp2_with (go_at_call 22; refine (knownFr_any _).mono ?_; rintro e wf ⟨rfl, hb6⟩)
  go_ret
  exact ⟨by simp, hb3.trans (hb6.mono hb3.size)⟩
theorem walk_frameOnce (A : Option Addr) (n c : Nat) (z : Nat → Int) (o : St) (w : World) (h : InBytesN w A n c z) (_ho : InState o) :
    Calls Try.prog 15 #[.slice A n c, stV o] w fun e w' => e = .returned (.bool true) ∧ Below w.heap.size w w' :=
  walk_frameOnce0 _ _ o w h.list.1 h.list.2

/-! ### THE ROW's STEP around the walk. -/
theorem own_frameOnce : ownKnob Try.prog.godebug = none := by kernel_rfl
theorem laidOut_frameOnce : laidOutB Try.prog = true := by kernel_rfl
set_option maxRecDepth 100000 in
theorem lifted_frameOnce (os : Os) (started : os.Started) (H : Type) (enc : TypeId × Value → H) :
    ReturnsInHanded {} Try.checked os 15 .any (Rows.frameOnceSpec.pre6 enc Try.prog Try.f15 Rows.frameOnceRow.domain false) (Rows.frameOnceSpec.post enc Try.prog Try.f15 false true false false) := by
  refine returnsInHanded_of_change_sized (C := Try.checked) own_frameOnce started (by kernel_rfl) Try.func15
    (ChangeSpec.witness6 (enc := enc) (C := Try.checked) false ⟨#[], #[.slice none 0 0, .agg #[.int .i64 0, .int .i64 0, .int .i64 0]], []⟩ 8 (by kernel_rfl) (by kernel_rfl) (by kernel_rfl) (by kernel_rfl)) ?_
  intro W base args ds gs before hval0 hW hcnd hsz0 _
  have hval : ∀ (j : Nat) t v, Try.f15.params[j]? = some t → args[j]? = some v → Value.okWide Try.prog W .any base t v := hval0
  have hW' := hW
  obtain ⟨p, q, hA0, hV, rfl, hfz, hnd⟩ := hW
  have hA : DataW.TrodAll enc Try.prog W 0 (fun _ => true) true Try.f15.params.toList args.toList ds p := hA0
  have hsz : (DataW.weightsEach Try.prog (Try.f15.params.toList ++ Rows.frameOnceSpec.plain.varTypes Try.prog) (ds ++ gs)).all (· ≤ reachBytes) = true := hsz0
  rw [Try.params15] at hA hval hsz
  obtain ⟨v0, vs0, d0, ds0, p0, q0, hargs, rfl, rfl, h0, r0⟩ := trodAll_cons hA
  obtain ⟨v1, vs1, d1, ds1, p1, q1, rfl, rfl, rfl, h1, r1⟩ := trodAll_cons r0
  obtain ⟨rfl, rfl, rfl⟩ := trodAll_nil r1
  obtain rfl : args = #[v0, v1] := by cases args; simp_all
  obtain ⟨rfl, rfl⟩ := trodVars_none hV
  obtain ⟨A0, n0, c0, rfl⟩ := okWide_slice Try.underlying24 (hval 0 24 v0 rfl rfl)
  have k0 := h0
  have lt0 : ∀ x ∈ p0, x.block < W.heap.size := by obtain ⟨m, hm⟩ := k0; exact DataW.trod_lt m _ _ _ hm
  obtain ⟨z0, s0⟩ := sees_bytesn Try.underlying24 Try.underlying5 (by kernel_rfl) h0 (by kernel_rfl) (fun _ _ hd => sized_slice hsz (j := 0) (t := 24) (e := 5) rfl (congrArg some hd) Try.underlying24)
  obtain ⟨y1, rfl, s1⟩ := sees_state Try.underlying23 (by kernel_rfl) ⟨rfl, rfl⟩ ⟨rfl, rfl⟩ ⟨rfl, rfl⟩ Try.underlying3 (by kernel_rfl) (hval 1 23 v1 rfl rfl) h1
  have k1 := h1
  have lt1 : ∀ x ∈ p1, x.block < W.heap.size := by obtain ⟨m, hm⟩ := k1; exact DataW.trod_lt m _ _ _ hm
  clear hA0 hval0
  refine (walk_frameOnce A0 n0 c0 z0 y1 W s0 s1).mono fun e W' ⟨he, bel⟩ => ?_
  subst he
  exact ⟨_, rfl, _, _, _, [], _, [], hW', trodAll_mk1 (shut_bool Try.underlying4 _), (trodAll_cons_mk (Below.trod laidOut_frameOnce (by kernel_rfl) (of_decide_eq_true (by kernel_rfl)) k0 bel lt0) (trodAll_cons_mk (Below.trod laidOut_frameOnce (by kernel_rfl) (of_decide_eq_true (by kernel_rfl)) k1 bel lt1) trodAll_mk0)), rfl, bel.frame _, fun h => by cases h⟩

theorem over_frameOnce : Rows.frameOnceRow.holds Try.pinned (OpenSpec.ofChange Rows.frameOnceSpec) :=
  OpenClaim.holds_of_wide 15 Try.f15 rfl rfl rfl rfl rfl rfl rfl ⟨rfl, rfl, rfl, rfl, rfl⟩ rfl rfl rfl rfl rfl (by kernel_rfl) Try.func15 (by kernel_rfl)
    (of_decide_eq_true (by kernel_rfl)) (by unfold Func.isWrapper; first | (rw [if_pos (by decide +kernel)]; kernel_rfl) | (rw [if_neg (by decide +kernel)]; exact ⟨rfl, rfl⟩))
    (fun os started H enc _ => lifted_frameOnce os started H enc)

theorem proved_frameOnce : Rows.FrameOnceSaid := over_frameOnce
end Go.Proofs.Ythlanmomgpcbcaa
