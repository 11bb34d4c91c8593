/- TableOnce holds: bytes that are taken are written as they were. For all bytes. -/
import Derived.Test.YtpkdfdlchidmlaaTbM
import Derived.Test.YtpkdfdlchidmlaaTbO
namespace Go.Proofs.Ytpkdfdlchidmlaa
open Go.ChangeShapes Go.WideShapes Go.ChangeAt Go.RowKit
open Go.ChangeMaps (open_string shut_string)
open Tb (D T)

set_option maxRecDepth 100000 in
set_option maxHeartbeats 4000000 in
theorem walk_tableOnce0 (v : Value) (l : List Int) (w : World) (hv : SeesL w w.heap.size v l) (hl : bytesL l) :
    Calls Try.prog 6 #[v] w fun e w' => e = .returned (.bool true) ∧ Below w.heap.size w w' := by
  obtain ⟨A, c, rfl, c1, c2, -, -⟩ := hv.at_
  by_cases h0 : 200 < l.length
  · have q1 : decide ((200 : Int) < (l.length : Nat)) = true := by simp; omega
    go_enter Try.func6, Try.ntmps6
    go_wp2
    go_ret
    exact ⟨rfl, Below.refl _ _⟩
  have q1 : decide ((200 : Int) < (l.length : Nat)) = false := by simp; omega
  have R1 := unpack_tb (.slice A l.length c) l w hv hl
  unfold Un at R1
  rcases Tb.err_or l with he | ⟨he, hz⟩
  rotate_left
  · rw [he, hz] at R1
    unfold Tb.zero tabV at R1
    simp only at R1
    have R1 := Lib.hid R1
    clear hv hl he hz
    go_enter Try.func6, Try.ntmps6
    go_wp2_with fail
    refine R1.out.mono ?_
    rintro e w1 ⟨v1, rfl, ho1, hb1⟩
    obtain ⟨A1, d1, rfl⟩ : ∃ A d, v1 = .slice A 0 d := by
      obtain ⟨A, d, h, -⟩ := ho1.sees.at_
      exact ⟨A, d, h⟩
    have hb2 := hb1.alloc hb1.size (.cells #[.slice A1 0 d1, .int .i64 0, .int .i64 0, .int .i64 0] 24)
    clear ho1
    go_wp2_with (go_at_call 18; refine (known_tb _).mono ?_; rintro e wf ⟨rfl, hb6⟩)
    go_ret
    exact ⟨by simp, hb2.trans (hb6.mono hb2.size)⟩
  · obtain ⟨hi, hby⟩ := Tb.once he
    rw [he] at R1
    generalize Tb.res l = t at *
    have R2 := fun u W (h : SeesT W W.heap.size u t.ns) => pack_tb t u W W.heap.size (Nat.le_refl _) h
    have R3 := fun u W (h : SeesT W W.heap.size u t.ns) => is_rf t u W W.heap.size (Nat.le_refl _) h
    unfold Pk pkR pkE at R2
    simp only [hi, if_true, hby] at R2 R3
    obtain ⟨ns, dr, wi, lm⟩ := t
    unfold tabV at R1 R2 R3
    simp only at R1 R2 R3
    have R1 := Lib.hid R1
    have R2 := fun u W h => Lib.hid (R2 u W h)
    have R3 := fun u W h => Lib.hid (R3 u W h)
    have hv2 := Lib.hid hv
    clear hv hi hby he
    go_enter Try.func6, Try.ntmps6
    go_wp2_with fail
    refine R1.out.mono ?_
    rintro e w1 ⟨v1, rfl, ho1, hb1⟩
    obtain ⟨A1, d1, rfl, -⟩ := ho1.sees.at_
    have hs1 := (ho1.sees.below ((Below.refl _ _).alloc (Nat.le_refl _) (.cells #[.slice A1 ns.length d1, .int .i64 dr, .int .i64 wi, .int .i64 lm] 24))).more (B' := (w1.alloc (.cells #[.slice A1 ns.length d1, .int .i64 dr, .int .i64 wi, .int .i64 lm] 24)).heap.size) (by simp)
    have hbx := hb1.alloc hb1.size (.cells #[.slice A1 ns.length d1, .int .i64 dr, .int .i64 wi, .int .i64 lm] 24)
    have hT := Blk.new w1 _ rfl #[.slice A1 ns.length d1, .int .i64 dr, .int .i64 wi, .int .i64 lm] 24
    clear ho1
    go_wp2_with fail
    generalize w1.alloc (.cells #[.slice A1 ns.length d1, .int .i64 dr, .int .i64 wi, .int .i64 lm] 24) = wx at *
    refine (R2 _ wx hs1).out.mono ?_
    rintro e w2 ⟨p2, rfl, ho2, hb2⟩
    have hb3 := hbx.trans (hb2.mono hbx.size)
    have hT2 := hT.below hb2 hT.lt
    have hs2 := (hs1.below hb2).more hb2.size
    have k1 := run_textL ((hv2.out.below hb3).more hb3.size)
    have k2 := run_textL ho2.sees
    obtain ⟨A3, d3, rfl, -⟩ := ho2.sees.at_
    have t0 := hT2.cell 0 rfl
    have t1 := hT2.cell 1 rfl
    have t2 := hT2.cell 2 rfl
    have t3 := hT2.cell 3 rfl
    clear hs1 ho2 hv2 hT hT2 R2
    go_wp2_with fail
    refine (R3 _ w2 hs2).out.mono ?_
    rintro e w4 ⟨rfl, hb4⟩
    have hb5 := hb3.trans (hb4.mono hb3.size)
    go_wp2_with (go_at_call 18; refine (known_tb _).mono ?_; rintro e wf ⟨rfl, hb6⟩)
    go_ret
    exact ⟨by simp, hb5.trans (hb6.mono hb5.size)⟩
theorem walk_tableOnce (A : Option Addr) (n c : Nat) (z : Nat → Int) (w : World) (h : InBytesN w A n c z) :
    Calls Try.prog 6 #[.slice A n c] w fun e w' => e = .returned (.bool true) ∧ Below w.heap.size w w' :=
  walk_tableOnce0 _ _ w h.list.1 h.list.2

/-! ### THE ROW's STEP around the walk. -/
theorem own_tableOnce : ownKnob Try.prog.godebug = none := by kernel_rfl
theorem laidOut_tableOnce : laidOutB Try.prog = true := by kernel_rfl
set_option maxRecDepth 100000 in
theorem lifted_tableOnce (os : Os) (started : os.Started) (H : Type) (enc : TypeId × Value → H) :
    ReturnsInHanded {} Try.checked os 6 .any (Rows.tableOnceSpec.pre6 enc Try.prog Try.f6 Rows.tableOnceRow.domain false) (Rows.tableOnceSpec.post enc Try.prog Try.f6 false true false false) := by
  refine returnsInHanded_of_change_sized (C := Try.checked) own_tableOnce started (by kernel_rfl) Try.func6
    (ChangeSpec.witness6 (enc := enc) (C := Try.checked) false ⟨#[], #[.slice none 0 0], []⟩ 8 (by kernel_rfl) (by kernel_rfl) (by kernel_rfl) (by kernel_rfl)) ?_
  intro W base args ds gs before hval0 hW hcnd hsz0 _
  have hval : ∀ (j : Nat) t v, Try.f6.params[j]? = some t → args[j]? = some v → Value.okWide Try.prog W .any base t v := hval0
  have hW' := hW
  obtain ⟨p, q, hA0, hV, rfl, hfz, hnd⟩ := hW
  have hA : DataW.TrodAll enc Try.prog W 0 (fun _ => true) true Try.f6.params.toList args.toList ds p := hA0
  have hsz : (DataW.weightsEach Try.prog (Try.f6.params.toList ++ Rows.tableOnceSpec.plain.varTypes Try.prog) (ds ++ gs)).all (· ≤ reachBytes) = true := hsz0
  rw [Try.params6] at hA hval hsz
  obtain ⟨v0, vs0, d0, ds0, p0, q0, hargs, rfl, rfl, h0, r0⟩ := trodAll_cons hA
  obtain ⟨rfl, rfl, rfl⟩ := trodAll_nil r0
  obtain rfl : args = #[v0] := by cases args; simp_all
  obtain ⟨rfl, rfl⟩ := trodVars_none hV
  obtain ⟨A0, n0, c0, rfl⟩ := okWide_slice Try.underlying25 (hval 0 25 v0 rfl rfl)
  have k0 := h0
  have lt0 : ∀ x ∈ p0, x.block < W.heap.size := by obtain ⟨m, hm⟩ := k0; exact DataW.trod_lt m _ _ _ hm
  obtain ⟨z0, s0⟩ := sees_bytesn Try.underlying25 Try.underlying5 (by kernel_rfl) h0 (by kernel_rfl) (fun _ _ hd => sized_slice hsz (j := 0) (t := 25) (e := 5) rfl (congrArg some hd) Try.underlying25)
  clear hA0 hval0
  refine (walk_tableOnce A0 n0 c0 z0 W s0).mono fun e W' ⟨he, bel⟩ => ?_
  subst he
  exact ⟨_, rfl, _, _, _, [], _, [], hW', trodAll_mk1 (shut_bool Try.underlying4 _), (trodAll_cons_mk (Below.trod laidOut_tableOnce (by kernel_rfl) (of_decide_eq_true (by kernel_rfl)) k0 bel lt0) trodAll_mk0), rfl, bel.frame _, fun h => by cases h⟩

theorem over_tableOnce : Rows.tableOnceRow.holds Try.pinned (OpenSpec.ofChange Rows.tableOnceSpec) :=
  OpenClaim.holds_of_wide 6 Try.f6 rfl rfl rfl rfl rfl rfl rfl ⟨rfl, rfl, rfl, rfl, rfl⟩ rfl rfl rfl rfl rfl (by kernel_rfl) Try.func6 (by kernel_rfl)
    (of_decide_eq_true (by kernel_rfl)) (by unfold Func.isWrapper; first | (rw [if_pos (by decide +kernel)]; kernel_rfl) | (rw [if_neg (by decide +kernel)]; exact ⟨rfl, rfl⟩))
    (fun os started H enc _ => lifted_tableOnce os started H enc)

theorem proved_tableOnce : Rows.TableOnceSaid := over_tableOnce
end Go.Proofs.Ytpkdfdlchidmlaa
