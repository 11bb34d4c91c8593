/- FrameSame holds: of any two frames whether they are one. For all frames. -/
import Derived.Test.YthlanmomgpcbcaaFrP
namespace Go.Proofs.Ythlanmomgpcbcaa
open Go.ChangeShapes Go.WideShapes Go.ChangeAt Go.RowKit
open Go.ChangeMaps (open_string shut_string)
open Fr (St F)

set_option maxRecDepth 100000 in
set_option maxHeartbeats 8000000 in
theorem walk_frameSame (f : F) (v : Value) (f' : F) (v' : Value) (w : World) (h : InFrame w f v) (h' : InFrame w f' v') :
    Calls Try.prog 10 #[frV f v, frV f' v'] w fun e w' => e = .returned (.bool true) ∧ Below w.heap.size w w' := by
  obtain ⟨hv, hd, -, -, hr⟩ := h
  obtain ⟨A, c, rfl, c1, c2, -, -⟩ := hv.at_
  obtain ⟨hv', hd', -, -, hr'⟩ := h'
  obtain ⟨A', c', rfl, c1', c2', -, -⟩ := hv'.at_
  have hbox := Lib.hid (box55 w (.int .i64 f.k) (.int .i64 f.st.r) (.int .i64 f.st.s) (.int .i64 f.st.m) (.slice A f.d.length c) (.int .i64 f'.k) (.int .i64 f'.st.r) (.int .i64 f'.st.s) (.int .i64 f'.st.m) (.slice A' f'.d.length c') 26 26)
  by_cases h0 : 200 < f.d.length + f'.d.length
  · have q1 : decide ((200 : Int) < (f.d.length : Nat) + (f'.d.length : Nat)) = true := by simp; omega
    unfold frV
    go_enter Try.func10, Try.ntmps10
    go_wp2
    go_ret
    exact ⟨rfl, hbox.out.below⟩
  have q1 : decide ((200 : Int) < (f.d.length : Nat) + (f'.d.length : Nat)) = false := by simp; omega
  have R1 := fun W (hb : Below w.heap.size w W) => Lib.hid (same_dev f f' _ _ W ((hv.below hb).more hb.size) ((hv'.below hb).more hb.size) hd hd')
  have R2 := fun W (hb : Below w.heap.size w W) => Lib.hid (same_ref f f' _ _ W ((hv.below hb).more hb.size) ((hv'.below hb).more hb.size) hd hd')
  have R3 := fun W (hb : Below w.heap.size w W) => same_dev f f _ _ W ((hv.below hb).more hb.size) ((hv.below hb).more hb.size) hd hd
  rw [sameB_self] at R3
  have R3 := fun W hb => Lib.hid (R3 W hb)
  generalize sameB f f' = I at *
  clear hv hd hv' hd'
  unfold frV at R1 R2 R3 ⊢
  go_enter Try.func10, Try.ntmps10
  go_wp2_with fail
  generalize (w.alloc (.cells #[.int .i64 f.k, .int .i64 f.st.r, .int .i64 f.st.s, .int .i64 f.st.m, .slice A f.d.length c] 26)).alloc (.cells #[.int .i64 f'.k, .int .i64 f'.st.r, .int .i64 f'.st.s, .int .i64 f'.st.m, .slice A' f'.d.length c'] 26) = w0 at *
  have hz0 : w0.heap.size ≤ w.heap.size + 2 ∧ w.heap.size + 2 ≤ w0.heap.size := by have := hbox.out.size; omega
  have hbw := hbox.out.below
  have hb2' := Below.refl w0.heap.size w0
  go_region_held3 (fun w' => (w'.cell? ⟨w.heap.size, 0, none⟩ = some (.int .i64 f.k) ∧ w'.cell? ⟨w.heap.size, 1, none⟩ = some (.int .i64 f.st.r) ∧ w'.cell? ⟨w.heap.size, 2, none⟩ = some (.int .i64 f.st.s) ∧ w'.cell? ⟨w.heap.size, 3, none⟩ = some (.int .i64 f.st.m) ∧ w'.cell? ⟨w.heap.size, 4, none⟩ = some (.slice A f.d.length c)) ∧ w'.cell? ⟨w.heap.size + 1, 0, none⟩ = some (.int .i64 f'.k) ∧ w'.cell? ⟨w.heap.size + 1, 1, none⟩ = some (.int .i64 f'.st.r) ∧ w'.cell? ⟨w.heap.size + 1, 2, none⟩ = some (.int .i64 f'.st.s) ∧ w'.cell? ⟨w.heap.size + 1, 3, none⟩ = some (.int .i64 f'.st.m) ∧ w'.cell? ⟨w.heap.size + 1, 4, none⟩ = some (.slice A' f'.d.length c'))
    (first | exact (hbox.out.cell _ hb2').2 | exact (hbox.out.cell _ hb2'.drew).2 | exact (hbox.out.cell _ hb3).2 | exact (hbox.out.cell _ hb4).2 | exact (hbox.out.cell _ hb5).2 | exact (hbox.out.cell _ hb6).2)
    (first
      | ((go_at_call_of 27 (Value.agg #[Value.int IntKind.i64 f'.k, Value.int IntKind.i64 f'.st.r, Value.int IntKind.i64 f'.st.s, Value.int IntKind.i64 f'.st.m, Value.slice A' f'.d.length c']); refine (R1 _ ?_).out.mono ?_); (first | exact hbw | exact hbw.drew); rintro e w3 ⟨rfl, hb⟩; have hb3 := hb2'.drew.trans (hb.mono hb2'.size))
      | ((go_at_call 25; refine (R2 _ ?_).out.mono ?_); exact hbw.trans (hb3.mono hbw.size); rintro e w4 ⟨rfl, hb⟩; have hb4 := hb3.trans (hb.mono hb3.size))
      | ((go_at_call 27; refine (R3 _ ?_).out.mono ?_); exact hbw.trans (hb4.mono hbw.size); rintro e w5 ⟨rfl, hb⟩; have hb5 := hb4.trans (hb.mono hb4.size))
      | ((go_at_call 22; refine (knownFr_any _).mono ?_); rintro e w6 ⟨rfl, hb⟩; have hb6 := hb5.trans (hb.mono hb5.size)))
  all_goals
    go_wp2
    go_ret
    exact ⟨by simp, hbw.trans (hb6.mono hbw.size)⟩

/-! ### THE ROW's STEP around the walk. -/
theorem own_frameSame : ownKnob Try.prog.godebug = none := by kernel_rfl
theorem laidOut_frameSame : laidOutB Try.prog = true := by kernel_rfl
set_option maxRecDepth 100000 in
theorem lifted_frameSame (os : Os) (started : os.Started) (H : Type) (enc : TypeId × Value → H) :
    ReturnsInHanded {} Try.checked os 10 .any (Rows.frameSameSpec.pre6 enc Try.prog Try.f10 Rows.frameSameRow.domain false) (Rows.frameSameSpec.post enc Try.prog Try.f10 false true false false) := by
  refine returnsInHanded_of_change_sized (C := Try.checked) own_frameSame started (by kernel_rfl) Try.func10
    (ChangeSpec.witness6 (enc := enc) (C := Try.checked) false ⟨#[], #[.agg #[.int .i64 0, .int .i64 0, .int .i64 0, .int .i64 0, .slice none 0 0], .agg #[.int .i64 0, .int .i64 0, .int .i64 0, .int .i64 0, .slice none 0 0]], []⟩ 8 (by kernel_rfl) (by kernel_rfl) (by kernel_rfl) (by kernel_rfl)) ?_
  intro W base args ds gs before hval0 hW hcnd hsz0 _
  have hval : ∀ (j : Nat) t v, Try.f10.params[j]? = some t → args[j]? = some v → Value.okWide Try.prog W .any base t v := hval0
  have hW' := hW
  obtain ⟨p, q, hA0, hV, rfl, hfz, hnd⟩ := hW
  have hA : DataW.TrodAll enc Try.prog W 0 (fun _ => true) true Try.f10.params.toList args.toList ds p := hA0
  have hsz : (DataW.weightsEach Try.prog (Try.f10.params.toList ++ Rows.frameSameSpec.plain.varTypes Try.prog) (ds ++ gs)).all (· ≤ reachBytes) = true := hsz0
  rw [Try.params10] at hA hval hsz
  obtain ⟨v0, vs0, d0, ds0, p0, q0, hargs, rfl, rfl, h0, r0⟩ := trodAll_cons hA
  obtain ⟨v1, vs1, d1, ds1, p1, q1, rfl, rfl, rfl, h1, r1⟩ := trodAll_cons r0
  obtain ⟨rfl, rfl, rfl⟩ := trodAll_nil r1
  obtain rfl : args = #[v0, v1] := by cases args; simp_all
  obtain ⟨rfl, rfl⟩ := trodVars_none hV
  obtain ⟨y0, x0, rfl, s0⟩ := sees_frame Try.underlying26 (by kernel_rfl) ⟨rfl, rfl⟩ ⟨rfl, rfl⟩ ⟨rfl, rfl⟩ Try.underlying23 (by kernel_rfl) ⟨rfl, rfl⟩ ⟨rfl, rfl⟩ ⟨rfl, rfl⟩ Try.underlying3 (by kernel_rfl) Try.underlying24 Try.underlying5 (by kernel_rfl) (by kernel_rfl) (by kernel_rfl) (hval 0 26 v0 rfl rfl) (fun n hn => of_decide_eq_true (List.all_eq_true.1 hsz _ (DataW.weights_mem_each (j := 0) rfl rfl n hn))) h0
  have k0 := h0
  have lt0 : ∀ x ∈ p0, x.block < W.heap.size := by obtain ⟨m, hm⟩ := k0; exact DataW.trod_lt m _ _ _ hm
  obtain ⟨y1, x1, rfl, s1⟩ := sees_frame Try.underlying26 (by kernel_rfl) ⟨rfl, rfl⟩ ⟨rfl, rfl⟩ ⟨rfl, rfl⟩ Try.underlying23 (by kernel_rfl) ⟨rfl, rfl⟩ ⟨rfl, rfl⟩ ⟨rfl, rfl⟩ Try.underlying3 (by kernel_rfl) Try.underlying24 Try.underlying5 (by kernel_rfl) (by kernel_rfl) (by kernel_rfl) (hval 1 26 v1 rfl rfl) (fun n hn => of_decide_eq_true (List.all_eq_true.1 hsz _ (DataW.weights_mem_each (j := 1) rfl rfl n hn))) h1
  have k1 := h1
  have lt1 : ∀ x ∈ p1, x.block < W.heap.size := by obtain ⟨m, hm⟩ := k1; exact DataW.trod_lt m _ _ _ hm
  clear hA0 hval0
  refine (walk_frameSame y0 x0 y1 x1 W s0 s1).mono fun e W' ⟨he, bel⟩ => ?_
  subst he
  exact ⟨_, rfl, _, _, _, [], _, [], hW', trodAll_mk1 (shut_bool Try.underlying4 _), (trodAll_cons_mk (Below.trod laidOut_frameSame (by kernel_rfl) (of_decide_eq_true (by kernel_rfl)) k0 bel lt0) (trodAll_cons_mk (Below.trod laidOut_frameSame (by kernel_rfl) (of_decide_eq_true (by kernel_rfl)) k1 bel lt1) trodAll_mk0)), rfl, bel.frame _, fun h => by cases h⟩

theorem over_frameSame : Rows.frameSameRow.holds Try.pinned (OpenSpec.ofChange Rows.frameSameSpec) :=
  OpenClaim.holds_of_wide 10 Try.f10 rfl rfl rfl rfl rfl rfl rfl ⟨rfl, rfl, rfl, rfl, rfl⟩ rfl rfl rfl rfl rfl (by kernel_rfl) Try.func10 (by kernel_rfl)
    (of_decide_eq_true (by kernel_rfl)) (by unfold Func.isWrapper; first | (rw [if_pos (by decide +kernel)]; kernel_rfl) | (rw [if_neg (by decide +kernel)]; exact ⟨rfl, rfl⟩))
    (fun os started H enc _ => lifted_frameSame os started H enc)

theorem proved_frameSame : Rows.FrameSameSaid := over_frameSame
end Go.Proofs.Ythlanmomgpcbcaa
