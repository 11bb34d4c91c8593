/- CrcNought holds: noughts by the seed 0 are 0; a seed without bytes is itself. For all numbers. -/
import Derived.Test.YtbjojpcgigoenaaCrcC
namespace Go.Proofs.Ytbjojpcgigoenaa
open Go.ChangeShapes Go.WideShapes Go.ChangeAt Go.RowKit
open Go.ChangeMaps (open_string shut_string)

theorem walk_crcNought (n : Int) (a : Int) (w : World) (_hn : -9223372036854775808 ≤ n ∧ n ≤ 9223372036854775807) (_ha : -9223372036854775808 ≤ a ∧ a ≤ 9223372036854775807) :
    Calls Try.prog 10 #[.int .i64 n, .int .i64 a] w fun e w' => e = .returned (.bool true) ∧ Below w.heap.size w w' := by
  by_cases h0 : n < 0
  · go_enter Try.func10, Try.ntmps10
    go_wp2
    go_ret
    exact ⟨rfl, Below.refl _ _⟩
  by_cases h1 : 500 < n
  · go_enter Try.func10, Try.ntmps10
    go_wp2
    go_ret
    exact ⟨rfl, Below.refl _ _⟩
  obtain ⟨n, rfl⟩ := Int.eq_ofNat_of_zero_le (show 0 ≤ n by omega)
  have hd0 : decide ((n : Int) < 0) = false := by simp
  have hd1 : decide ((500 : Int) < n) = false := by simp; omega
  have hand := Cr.and_sd a
  have hz0 := Cr.sumTo_nought (fun _ => 0) n (fun _ _ => rfl)
  have hm : n ≤ maxLen := by unfold maxLen; omega
  have H1 := fun W A c (hs : Sees W W.heap.size A n fun _ => .int .u8 0) => Lib.hid (sum_one A n c (fun _ => 0) 0 W 36 W.heap.size rfl hs (fun _ _ => ⟨by omega, by omega⟩) hm)
  rw [show Cr.sd 0 = 0 from rfl, hz0] at H1
  clear hz0
  go_enter Try.func10, Try.ntmps10
  go_wp2_with (at_make; refine wpList_zeros _ rfl _ _ 36 rfl w.heap.size w (Below.refl _ _) (Nat.le_refl _) 5 (.int .u8 0) 1 infoU8 rfl Try.underlying36 _ _ _ _ n rfl rfl rfl rfl (by omega) (by unfold maxLen; omega) ?_)
  intro w1 ho1 hb1 hs1 _
  obtain ⟨A, c, he, hc1, hc2, hse⟩ := Owns.form ho1
  injection he with he1 _ he2
  subst he1; subst he2
  clear ho1
  go_wp2_with fail
  refine (H1 _ _ _ hse).out.mono ?_
  rintro e w2 ⟨rfl, rfl⟩
  clear hse
  have hb2 : Below w.heap.size w (w1.alloc (.cells #[.slice (some ⟨w.heap.size, 0, none⟩) n n] 36)) := hb1.alloc hb1.size _
  generalize w1.alloc (.cells #[.slice (some ⟨w.heap.size, 0, none⟩) n n] 36) = w2 at *
  go_wp2_with fail
  refine (sum_none a _).mono ?_
  rintro e w3 ⟨rfl, rfl⟩
  go_wp2_with (go_at_call 31; refine (knownCrc_any _).mono ?_; rintro e w3 ⟨rfl, hb4⟩)
  go_ret
  exact ⟨by simp, hb2.trans (hb4.mono hb2.size)⟩

/-! ### THE ROW's STEP around the walk. -/
theorem own_crcNought : ownKnob Try.prog.godebug = none := by kernel_rfl
theorem laidOut_crcNought : laidOutB Try.prog = true := by kernel_rfl
set_option maxRecDepth 100000 in
theorem lifted_crcNought (os : Os) (started : os.Started) (H : Type) (enc : TypeId × Value → H) :
    ReturnsInHanded {} Try.checked os 10 .any (Rows.crcNoughtSpec.pre6 enc Try.prog Try.f10 Rows.crcNoughtRow.domain false) (Rows.crcNoughtSpec.post enc Try.prog Try.f10 false true false false) := by
  refine returnsInHanded_of_change (C := Try.checked) own_crcNought started (by kernel_rfl) Try.func10
    (ChangeSpec.witness6 (enc := enc) (C := Try.checked) false ⟨#[], #[.int .i64 0, .int .i64 0], []⟩ 8 (by kernel_rfl) (by kernel_rfl) (by kernel_rfl) (by kernel_rfl)) ?_
  intro W base args ds gs before hval0 hW hcnd _
  have hval : ∀ (j : Nat) t v, Try.f10.params[j]? = some t → args[j]? = some v → Value.okWide Try.prog W .any base t v := hval0
  have hW' := hW
  obtain ⟨p, q, hA0, hV, rfl, hfz, hnd⟩ := hW
  have hA : DataW.TrodAll enc Try.prog W 0 (fun _ => true) true Try.f10.params.toList args.toList ds p := hA0
  rw [Try.params10] at hA hval
  obtain ⟨v0, vs0, d0, ds0, p0, q0, hargs, rfl, rfl, h0, r0⟩ := trodAll_cons hA
  obtain ⟨v1, vs1, d1, ds1, p1, q1, rfl, rfl, rfl, h1, r1⟩ := trodAll_cons r0
  obtain ⟨rfl, rfl, rfl⟩ := trodAll_nil r1
  obtain rfl : args = #[v0, v1] := by cases args; simp_all
  obtain ⟨rfl, rfl⟩ := trodVars_none hV
  obtain ⟨a0, rfl, rfl, rfl, w0⟩ := open_int Try.underlying3 (hval 0 3 v0 rfl rfl) h0
  obtain ⟨a1, rfl, rfl, rfl, w1⟩ := open_int Try.underlying3 (hval 1 3 v1 rfl rfl) h1
  clear hA0 hval0
  refine (walk_crcNought a0 a1 W (bounds_i64 w0) (bounds_i64 w1)).mono fun e W' ⟨he, bel⟩ => ?_
  subst he
  exact ⟨_, rfl, _, _, _, [], _, [], hW', trodAll_mk1 (shut_bool Try.underlying4 _), (trodAll_cons_mk (shut_int Try.underlying3 w0) (trodAll_cons_mk (shut_int Try.underlying3 w1) trodAll_mk0)), rfl, bel.frame _, fun h => by cases h⟩

theorem over_crcNought : Rows.crcNoughtRow.holds Try.pinned (OpenSpec.ofChange Rows.crcNoughtSpec) :=
  OpenClaim.holds_of_wide 10 Try.f10 rfl rfl rfl rfl rfl rfl rfl ⟨rfl, rfl, rfl, rfl, rfl⟩ rfl rfl rfl rfl rfl (by kernel_rfl) Try.func10 (by kernel_rfl)
    (of_decide_eq_true (by kernel_rfl)) (by unfold Func.isWrapper; first | (rw [if_pos (by decide +kernel)]; kernel_rfl) | (rw [if_neg (by decide +kernel)]; exact ⟨rfl, rfl⟩))
    (fun os started H enc _ => lifted_crcNought os started H enc)

theorem proved_crcNought : Rows.CrcNoughtSaid := over_crcNought
end Go.Proofs.Ytbjojpcgigoenaa
