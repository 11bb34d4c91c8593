/- FrameEncodes holds: any frame as bytes, or refused, is the document's; any state's seed. For all frames. -/
import Derived.Test.YthlanmomgpcbcaaFrK
import Derived.Test.YthlanmomgpcbcaaFrO
namespace Go.Proofs.Ythlanmomgpcbcaa
open Go.ChangeShapes Go.WideShapes Go.ChangeAt Go.RowKit
open Go.ChangeMaps (open_string shut_string)
open Fr (St F)

set_option maxRecDepth 100000 in
set_option maxHeartbeats 4000000 in
theorem walk_frameEncodes (f : F) (v : Value) (w : World) (h : InFrame w f v) :
    Calls Try.prog 3 #[frV f v] w fun e w' => e = .returned (.bool true) ∧ Below w.heap.size w w' := by
  obtain ⟨hv, hd, -, -, hreach⟩ := h
  obtain ⟨A, c, rfl, c1, c2, -, -⟩ := hv.at_
  by_cases h0 : 50 < f.d.length
  · have q1 : decide ((50 : Int) < (f.d.length : Nat)) = true := by simp; omega
    unfold frV
    go_enter Try.func3, Try.ntmps3
    go_wp2
    go_ret
    exact ⟨rfl, (Below.refl _ _).alloc (Nat.le_refl _) _⟩
  have q1 : decide ((50 : Int) < (f.d.length : Nat)) = false := by simp; omega
  have R1 := fun W (hb : Below w.heap.size w W) => Lib.hid (encode_dev f _ W ((hv.below hb).more hb.size) hd)
  have R2 := fun W (hb : Below w.heap.size w W) => Lib.hid (encode_ref f _ W ((hv.below hb).more hb.size) hd)
  have R3 := fun W (hb : Below w.heap.size w W) => Lib.hid (is_dev f _ W w.heap.size (hv.below hb))
  have R4 := fun W (hb : Below w.heap.size w W) => Lib.hid (is_ref f _ W w.heap.size (hv.below hb))
  have R5 := fun W => Lib.hid (seed_dev f.st W)
  have R6 := fun W => Lib.hid (seed_ref f.st W)
  unfold Enc at R1 R2
  generalize encR f = L at *
  generalize encE f = E at *
  generalize f.is = I at *
  generalize f.st.seed = S at *
  unfold frV at R1 R2 R3 R4 ⊢
  unfold stV at R5 R6
  clear hv hd
  go_enter Try.func3, Try.ntmps3
  go_wp2_with fail
  have hbox := Lib.hid (box5 w (.int .i64 f.k) (.int .i64 f.st.r) (.int .i64 f.st.s) (.int .i64 f.st.m) (.slice A f.d.length c) 26)
  generalize w.alloc (.cells #[.int .i64 f.k, .int .i64 f.st.r, .int .i64 f.st.s, .int .i64 f.st.m, .slice A f.d.length c] 26) = w0 at *
  have hz0 : w0.heap.size ≤ w.heap.size + 1 ∧ w.heap.size + 1 ≤ w0.heap.size := by have := hbox.out.size; omega
  refine (R1 _ hbox.out.below).out.mono ?_
  rintro e w1 ⟨v1, rfl, ho1, hb1⟩
  obtain ⟨z1, c10, c11, c12, c13, c14⟩ := hbox.out.cell w1 hb1
  obtain ⟨A1, d1, rfl, -⟩ := ho1.sees.at_
  go_wp2_with fail
  refine (R2 _ (hbox.out.below.trans (hb1.mono (by omega)))).out.mono ?_
  rintro e w2 ⟨v2, rfl, ho2, hb⟩
  have hb2 := hb1.trans (hb.mono hb1.size)
  obtain ⟨z2, c20, c21, c22, c23, c24⟩ := hbox.out.cell w2 hb2
  obtain ⟨A2, d2, rfl, -⟩ := ho2.sees.at_
  have s1 := (ho1.sees.below hb).more hb.size
  have s2 := ho2.sees
  have K := Lib.hid (show ∀ W, Below w2.heap.size w2 W → (W.cell? ⟨w.heap.size, 0, none⟩ = some (.int .i64 f.k) ∧ W.cell? ⟨w.heap.size, 1, none⟩ = some (.int .i64 f.st.r) ∧ W.cell? ⟨w.heap.size, 2, none⟩ = some (.int .i64 f.st.s) ∧ W.cell? ⟨w.heap.size, 3, none⟩ = some (.int .i64 f.st.m) ∧ W.cell? ⟨w.heap.size, 4, none⟩ = some (.slice A f.d.length c)) ∧ (convert 24 9 (.slice A1 L.length d1)).run Try.prog W = .ok (.string (textL L)) W ∧ (convert 24 9 (.slice A2 L.length d2)).run Try.prog W = .ok (.string (textL L)) W from
    fun W h => ⟨(hbox.out.cell W (hb2.trans (h.mono hb2.size))).2, run_textL (s1.below h), run_textL (s2.below h)⟩)
  have hb2' := Below.refl w2.heap.size w2
  have hbw := hbox.out.below.trans (hb2.mono (by omega))
  clear c10 c11 c12 c13 c14 c20 c21 c22 c23 c24 hb hb1 ho1 ho2 R1 R2 s1 s2
  go_wp2_with fail
  go_region_held3 (fun w' => (w'.cell? ⟨w.heap.size, 0, none⟩ = some (.int .i64 f.k) ∧ w'.cell? ⟨w.heap.size, 1, none⟩ = some (.int .i64 f.st.r) ∧ w'.cell? ⟨w.heap.size, 2, none⟩ = some (.int .i64 f.st.s) ∧ w'.cell? ⟨w.heap.size, 3, none⟩ = some (.int .i64 f.st.m) ∧ w'.cell? ⟨w.heap.size, 4, none⟩ = some (.slice A f.d.length c)) ∧ (convert 24 9 (.slice A1 L.length d1)).run Try.prog w' = .ok (.string (textL L)) w' ∧ (convert 24 9 (.slice A2 L.length d2)).run Try.prog w' = .ok (.string (textL L)) w')
    (first | exact K.out _ hb2' | exact K.out _ hb2'.drew | exact K.out _ hb3 | exact K.out _ hb4 | exact K.out _ hb5 | exact K.out _ hb6 | exact K.out _ hb7)
    (first
      | ((go_at_call 18; refine (R3 _ ?_).out.mono ?_); (first | exact hbw | exact hbw.drew); rintro e w3 ⟨rfl, hb⟩; have hb3 := hb2'.drew.trans (hb.mono hb2'.size))
      | ((go_at_call 19; refine (R4 _ ?_).out.mono ?_); exact hbw.trans (hb3.mono hbw.size); rintro e w4 ⟨rfl, hb⟩; have hb4 := hb3.trans (hb.mono hb3.size))
      | ((go_at_call 20; refine (R5 _).out.mono ?_); rintro e w5 ⟨rfl, hb⟩; have hb5 := hb4.trans (hb.mono hb4.size))
      | ((go_at_call 21; refine (R6 _).out.mono ?_); rintro e w6 ⟨rfl, hb⟩; have hb6 := hb5.trans (hb.mono hb5.size))
      | ((go_at_call 22; refine (knownFr_any _).mono ?_); rintro e w7 ⟨rfl, hb⟩; have hb7 := hb6.trans (hb.mono hb6.size)))
  all_goals
    go_wp2
    go_ret
    exact ⟨by simp, hbw.trans (hb7.mono hbw.size)⟩

/-! ### THE ROW's STEP around the walk. -/
theorem own_frameEncodes : ownKnob Try.prog.godebug = none := by kernel_rfl
theorem laidOut_frameEncodes : laidOutB Try.prog = true := by kernel_rfl
set_option maxRecDepth 100000 in
theorem lifted_frameEncodes (os : Os) (started : os.Started) (H : Type) (enc : TypeId × Value → H) :
    ReturnsInHanded {} Try.checked os 3 .any (Rows.frameEncodesSpec.pre6 enc Try.prog Try.f3 Rows.frameEncodesRow.domain false) (Rows.frameEncodesSpec.post enc Try.prog Try.f3 false true false false) := by
  refine returnsInHanded_of_change_sized (C := Try.checked) own_frameEncodes started (by kernel_rfl) Try.func3
    (ChangeSpec.witness6 (enc := enc) (C := Try.checked) false ⟨#[], #[.agg #[.int .i64 0, .int .i64 0, .int .i64 0, .int .i64 0, .slice none 0 0]], []⟩ 8 (by kernel_rfl) (by kernel_rfl) (by kernel_rfl) (by kernel_rfl)) ?_
  intro W base args ds gs before hval0 hW hcnd hsz0 _
  have hval : ∀ (j : Nat) t v, Try.f3.params[j]? = some t → args[j]? = some v → Value.okWide Try.prog W .any base t v := hval0
  have hW' := hW
  obtain ⟨p, q, hA0, hV, rfl, hfz, hnd⟩ := hW
  have hA : DataW.TrodAll enc Try.prog W 0 (fun _ => true) true Try.f3.params.toList args.toList ds p := hA0
  have hsz : (DataW.weightsEach Try.prog (Try.f3.params.toList ++ Rows.frameEncodesSpec.plain.varTypes Try.prog) (ds ++ gs)).all (· ≤ reachBytes) = true := hsz0
  rw [Try.params3] at hA hval hsz
  obtain ⟨v0, vs0, d0, ds0, p0, q0, hargs, rfl, rfl, h0, r0⟩ := trodAll_cons hA
  obtain ⟨rfl, rfl, rfl⟩ := trodAll_nil r0
  obtain rfl : args = #[v0] := by cases args; simp_all
  obtain ⟨rfl, rfl⟩ := trodVars_none hV
  obtain ⟨y0, x0, rfl, s0⟩ := sees_frame Try.underlying26 (by kernel_rfl) ⟨rfl, rfl⟩ ⟨rfl, rfl⟩ ⟨rfl, rfl⟩ Try.underlying23 (by kernel_rfl) ⟨rfl, rfl⟩ ⟨rfl, rfl⟩ ⟨rfl, rfl⟩ Try.underlying3 (by kernel_rfl) Try.underlying24 Try.underlying5 (by kernel_rfl) (by kernel_rfl) (by kernel_rfl) (hval 0 26 v0 rfl rfl) (fun n hn => of_decide_eq_true (List.all_eq_true.1 hsz _ (DataW.weights_mem_each (j := 0) rfl rfl n hn))) h0
  have k0 := h0
  have lt0 : ∀ x ∈ p0, x.block < W.heap.size := by obtain ⟨m, hm⟩ := k0; exact DataW.trod_lt m _ _ _ hm
  clear hA0 hval0
  refine (walk_frameEncodes y0 x0 W s0).mono fun e W' ⟨he, bel⟩ => ?_
  subst he
  exact ⟨_, rfl, _, _, _, [], _, [], hW', trodAll_mk1 (shut_bool Try.underlying4 _), (trodAll_cons_mk (Below.trod laidOut_frameEncodes (by kernel_rfl) (of_decide_eq_true (by kernel_rfl)) k0 bel lt0) trodAll_mk0), rfl, bel.frame _, fun h => by cases h⟩

theorem over_frameEncodes : Rows.frameEncodesRow.holds Try.pinned (OpenSpec.ofChange Rows.frameEncodesSpec) :=
  OpenClaim.holds_of_wide 3 Try.f3 rfl rfl rfl rfl rfl rfl rfl ⟨rfl, rfl, rfl, rfl, rfl⟩ rfl rfl rfl rfl rfl (by kernel_rfl) Try.func3 (by kernel_rfl)
    (of_decide_eq_true (by kernel_rfl)) (by unfold Func.isWrapper; first | (rw [if_pos (by decide +kernel)]; kernel_rfl) | (rw [if_neg (by decide +kernel)]; exact ⟨rfl, rfl⟩))
    (fun os started H enc _ => lifted_frameEncodes os started H enc)

theorem proved_frameEncodes : Rows.FrameEncodesSaid := over_frameEncodes
end Go.Proofs.Ythlanmomgpcbcaa
