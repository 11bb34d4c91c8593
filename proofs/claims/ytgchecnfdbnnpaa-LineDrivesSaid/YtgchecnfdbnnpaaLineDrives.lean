/- LineDrives holds: any bytes as a row, in any channels, are the document's. For all bytes and bools. -/
import Derived.Test.YtgchecnfdbnnpaaLineM
import Derived.Test.YtgchecnfdbnnpaaOpen
namespace Go.Proofs.Ytgchecnfdbnnpaa
open Go.ChangeShapes Go.WideShapes Go.ChangeAt Go.RowKit
open Go.ChangeMaps (open_string shut_string)

set_option maxRecDepth 100000 in
set_option maxHeartbeats 4000000 in
theorem walk_lineDrives (A : Option Addr) (n c : Nat) (z : Nat → Int) (f s : Bool) (w : World) (h : InBytes w A n c z) :
    Calls Try.prog 3 #[.slice A n c, .bool f, .bool s] w fun e w' => e = .returned (.bool true) ∧ Below w.heap.size w w' := by
  obtain ⟨hs, hz, hn, hc⟩ := h
  have hc' := hc
  unfold maxLen at hc'
  by_cases h0 : 100 < n
  · go_enter Try.func3, Try.ntmps3
    go_wp2
    go_ret
    exact ⟨rfl, Below.refl _ _⟩
  obtain ⟨M, hM⟩ : ∃ M, M = 8 * min n 50 := ⟨_, rfl⟩
  have hM2 : M ≤ 400 := by omega
  have R1 := drive_cx A n c z f s w hs hz hn hc
  have R2 := fun (W : World) (hb : Below w.heap.size w W) => refDrive_any A n c z f s W ((hs.below hb).more hb.size) hz (by omega)
  rw [← hM] at R1
  rw [← hM] at R2
  have H1 := Lib.hid R1
  have H2 := Lib.hid R2
  clear R1 R2 hM hs hz
  go_enter Try.func3, Try.ntmps3
  go_wp2_with fail
  refine H1.out.mono ?_
  rintro e w1 ⟨v, rfl, ho1, hb1⟩
  obtain ⟨A1, c1, rfl, -, -, g1⟩ := Owns.form ho1
  clear ho1 H1
  go_wp2_with fail
  refine (H2.out w1 hb1).mono ?_
  rintro e w2 ⟨v, rfl, ho2, hb2⟩
  obtain ⟨A2, c2, rfl, -, -, g2⟩ := Owns2.form ho2
  have g12 := (g1.below hb2).more hb2.size
  have hb02 := hb1.trans (hb2.mono hb1.size)
  clear ho2 H2 g1 hb1 hb2
  go_wp2_with fail
  refine (of_any A2 M c2 _ _ w2 g2 (by omega)).mono ?_
  rintro e w3 ⟨v, rfl, ho3, hb3⟩
  obtain ⟨A3, c3, rfl, -, -, g3⟩ := Owns.form ho3
  have g13 := (g12.below hb3).more hb3.size
  have hb03 := hb02.trans (hb3.mono hb02.size)
  clear ho3 g12 g2 hb02 hb3
  go_wp2_with fail
  refine (same_any A1 A3 M c1 c3 _ _ _ _ w3 g13 g3 (fun k _ => lv_small _ _ _) (fun k _ => lv_small _ _ _) (by omega)).mono ?_
  rintro e w4 ⟨rfl, d, rfl⟩
  have hb04 : Below w.heap.size w (w3.drewN d) := ⟨hb03.os, hb03.tape, hb03.output, hb03.size, hb03.block⟩
  clear g13 g3 hb03
  go_wp2_with (go_at_call 19; refine (known_any _).mono ?_; rintro e w5 ⟨rfl, hb5⟩)
  go_ret
  exact ⟨rfl, hb04.trans (hb5.mono hb04.size)⟩

/-! ### THE ROW's STEP around the walk. -/
theorem own_lineDrives : ownKnob Try.prog.godebug = none := by kernel_rfl
theorem laidOut_lineDrives : laidOutB Try.prog = true := by kernel_rfl
set_option maxRecDepth 100000 in
theorem lifted_lineDrives (os : Os) (started : os.Started) (H : Type) (enc : TypeId × Value → H) :
    ReturnsInHanded {} Try.checked os 3 .any (Rows.lineDrivesSpec.pre6 enc Try.prog Try.f3 Rows.lineDrivesRow.domain false) (Rows.lineDrivesSpec.post enc Try.prog Try.f3 false true false false) := by
  refine returnsInHanded_of_change (C := Try.checked) own_lineDrives started (by kernel_rfl) Try.func3
    (ChangeSpec.witness6 (enc := enc) (C := Try.checked) false ⟨#[], #[.slice none 0 0, .bool false, .bool false], []⟩ 8 (by kernel_rfl) (by kernel_rfl) (by kernel_rfl) (by kernel_rfl)) ?_
  intro W base args ds gs before hval0 hW hcnd _
  have hval : ∀ (j : Nat) t v, Try.f3.params[j]? = some t → args[j]? = some v → Value.okWide Try.prog W .any base t v := hval0
  have hW' := hW
  obtain ⟨p, q, hA0, hV, rfl, hfz, hnd⟩ := hW
  have hA : DataW.TrodAll enc Try.prog W 0 (fun _ => true) true Try.f3.params.toList args.toList ds p := hA0
  rw [Try.params3] at hA hval
  obtain ⟨v0, vs0, d0, ds0, p0, q0, hargs, rfl, rfl, h0, r0⟩ := trodAll_cons hA
  obtain ⟨v1, vs1, d1, ds1, p1, q1, rfl, rfl, rfl, h1, r1⟩ := trodAll_cons r0
  obtain ⟨v2, vs2, d2, ds2, p2, q2, rfl, rfl, rfl, h2, r2⟩ := trodAll_cons r1
  obtain ⟨rfl, rfl, rfl⟩ := trodAll_nil r2
  obtain rfl : args = #[v0, v1, v2] := by cases args; simp_all
  obtain ⟨rfl, rfl⟩ := trodVars_none hV
  obtain ⟨A0, n0, c0, rfl⟩ := okWide_slice Try.underlying22 (hval 0 22 v0 rfl rfl)
  have k0 := h0
  have lt0 : ∀ x ∈ p0, x.block < W.heap.size := by obtain ⟨m, hm⟩ := k0; exact DataW.trod_lt m _ _ _ hm
  obtain ⟨z0, s0⟩ := sees_bytes Try.underlying22 Try.underlying5 (by kernel_rfl) h0
  obtain ⟨a1, rfl, rfl, rfl⟩ := open_bool Try.underlying4 (hval 1 4 v1 rfl rfl) h1
  obtain ⟨a2, rfl, rfl, rfl⟩ := open_bool Try.underlying4 (hval 2 4 v2 rfl rfl) h2
  clear hA0 hval0
  refine (walk_lineDrives A0 n0 c0 z0 a1 a2 W s0).mono fun e W' ⟨he, bel⟩ => ?_
  subst he
  exact ⟨_, rfl, _, _, _, [], _, [], hW', trodAll_mk1 (shut_bool Try.underlying4 _), (trodAll_cons_mk (Below.trod laidOut_lineDrives (by kernel_rfl) (of_decide_eq_true (by kernel_rfl)) k0 bel lt0) (trodAll_cons_mk (shut_bool Try.underlying4 _) (trodAll_cons_mk (shut_bool Try.underlying4 _) trodAll_mk0))), rfl, bel.frame _, fun h => by cases h⟩

theorem over_lineDrives : Rows.lineDrivesRow.holds Try.pinned (OpenSpec.ofChange Rows.lineDrivesSpec) :=
  OpenClaim.holds_of_wide 3 Try.f3 rfl rfl rfl rfl rfl rfl rfl ⟨rfl, rfl, rfl, rfl, rfl⟩ rfl rfl rfl rfl rfl (by kernel_rfl) Try.func3 (by kernel_rfl)
    (of_decide_eq_true (by kernel_rfl)) (by unfold Func.isWrapper; first | (rw [if_pos (by decide +kernel)]; kernel_rfl) | (rw [if_neg (by decide +kernel)]; exact ⟨rfl, rfl⟩))
    (fun os started H enc _ => lifted_lineDrives os started H enc)

theorem proved_lineDrives : Rows.LineDrivesSaid := over_lineDrives
end Go.Proofs.Ytgchecnfdbnnpaa
