/- CrcSeedBits holds: only the lowest fifteen digits of a seed count. For all numbers and bytes. -/
import Derived.Test.YtbjojpcgigoenaaCrcC
namespace Go.Proofs.Ytbjojpcgigoenaa
open Go.ChangeShapes Go.WideShapes Go.ChangeAt Go.RowKit
open Go.ChangeMaps (open_string shut_string)

theorem high_sd (a h : Int) : Cr.sd (bits BinOp.or IntKind.i64 (Cr.sd a : Nat) (h * 32768)) = Cr.sd a := by
  rw [Cr.sd_or, Cr.sd_of (Cr.sd_lt a), show Cr.sd (h * 32768) = 0 by unfold Cr.sd; omega, Nat.or_zero]

theorem walk_crcSeedBits (a g : Int) (A : Option Addr) (n c : Nat) (z : Nat → Int) (w : World) (_ha : -9223372036854775808 ≤ a ∧ a ≤ 9223372036854775807) (_hg : -9223372036854775808 ≤ g ∧ g ≤ 9223372036854775807) (h : InBytes w A n c z) :
    Calls Try.prog 14 #[.int .i64 a, .int .i64 g, .slice A n c] w fun e w' => e = .returned (.bool true) ∧ Below w.heap.size w w' := by
  obtain ⟨hs, hz, hn, hc⟩ := h
  by_cases h0 : 300 < n
  · go_enter Try.func14, Try.ntmps14
    go_wp2
    go_ret
    exact ⟨rfl, Below.refl _ _⟩
  have hd0 : decide (300 < (n : Int)) = false := by simp; omega
  by_cases h1 : g < 0
  · go_enter Try.func14, Try.ntmps14
    go_wp2
    go_ret
    exact ⟨rfl, Below.refl _ _⟩
  have hd1 : decide (g < 0) = false := by simp; omega
  by_cases h2 : 1099511627776 < g
  · go_enter Try.func14, Try.ntmps14
    go_wp2
    go_ret
    exact ⟨rfl, Below.refl _ _⟩
  have hd2 : decide (1099511627776 < g) = false := by simp; omega
  have hg0 : 0 ≤ g := by omega
  have hg1 : g ≤ 1099511627776 := by omega
  have hm : n ≤ maxLen := by unfold maxLen; omega
  have H1 := sum_one A n c z (bits BinOp.or IntKind.i64 (Cr.sd a : Nat) (g * 32768)) w 36 w.heap.size rfl hs hz hm
  rw [high_sd] at H1
  have H1 := Lib.hid H1
  have H2 := fun W (hs : Sees W W.heap.size A n fun k => .int .u8 (z k)) => Lib.hid (sum_one A n c z a W 36 W.heap.size rfl hs hz hm)
  have hand1 := Cr.and_sd a
  generalize Cr.sumTo (Cr.sd a) z n = S at *
  clear hz hn hc hm h1 h2
  go_enter Try.func14, Try.ntmps14
  go_wp2_with fail
  refine H1.out.mono ?_
  rintro e w1 ⟨rfl, rfl⟩
  have hb1 : Below w.heap.size w (w.alloc (.cells #[.slice A n c] 36)) := (Below.refl _ _).alloc (Nat.le_refl _) _
  generalize w.alloc (.cells #[.slice A n c] 36) = w1 at *
  go_wp2_with fail
  refine (H2 _ ((hs.below hb1).more hb1.size)).out.mono ?_
  rintro e w2 ⟨rfl, rfl⟩
  have hb3 : Below w.heap.size w (w1.alloc (.cells #[.slice A n c] 36)) := hb1.alloc hb1.size _
  generalize w1.alloc (.cells #[.slice A n c] 36) = w2 at *
  go_wp2_with (go_at_call 31; refine (knownCrc_any _).mono ?_; rintro e w3 ⟨rfl, hb4⟩)
  go_ret
  exact ⟨by simp, hb3.trans (hb4.mono hb3.size)⟩

/-! ### THE ROW's STEP around the walk. -/
theorem own_crcSeedBits : ownKnob Try.prog.godebug = none := by kernel_rfl
theorem laidOut_crcSeedBits : laidOutB Try.prog = true := by kernel_rfl
set_option maxRecDepth 100000 in
theorem lifted_crcSeedBits (os : Os) (started : os.Started) (H : Type) (enc : TypeId × Value → H) :
    ReturnsInHanded {} Try.checked os 14 .any (Rows.crcSeedBitsSpec.pre6 enc Try.prog Try.f14 Rows.crcSeedBitsRow.domain false) (Rows.crcSeedBitsSpec.post enc Try.prog Try.f14 false true false false) := by
  refine returnsInHanded_of_change (C := Try.checked) own_crcSeedBits started (by kernel_rfl) Try.func14
    (ChangeSpec.witness6 (enc := enc) (C := Try.checked) false ⟨#[], #[.int .i64 0, .int .i64 0, .slice none 0 0], []⟩ 8 (by kernel_rfl) (by kernel_rfl) (by kernel_rfl) (by kernel_rfl)) ?_
  intro W base args ds gs before hval0 hW hcnd _
  have hval : ∀ (j : Nat) t v, Try.f14.params[j]? = some t → args[j]? = some v → Value.okWide Try.prog W .any base t v := hval0
  have hW' := hW
  obtain ⟨p, q, hA0, hV, rfl, hfz, hnd⟩ := hW
  have hA : DataW.TrodAll enc Try.prog W 0 (fun _ => true) true Try.f14.params.toList args.toList ds p := hA0
  rw [Try.params14] at hA hval
  obtain ⟨v0, vs0, d0, ds0, p0, q0, hargs, rfl, rfl, h0, r0⟩ := trodAll_cons hA
  obtain ⟨v1, vs1, d1, ds1, p1, q1, rfl, rfl, rfl, h1, r1⟩ := trodAll_cons r0
  obtain ⟨v2, vs2, d2, ds2, p2, q2, rfl, rfl, rfl, h2, r2⟩ := trodAll_cons r1
  obtain ⟨rfl, rfl, rfl⟩ := trodAll_nil r2
  obtain rfl : args = #[v0, v1, v2] := by cases args; simp_all
  obtain ⟨rfl, rfl⟩ := trodVars_none hV
  obtain ⟨a0, rfl, rfl, rfl, w0⟩ := open_int Try.underlying3 (hval 0 3 v0 rfl rfl) h0
  obtain ⟨a1, rfl, rfl, rfl, w1⟩ := open_int Try.underlying3 (hval 1 3 v1 rfl rfl) h1
  obtain ⟨A2, n2, c2, rfl⟩ := okWide_slice Try.underlying36 (hval 2 36 v2 rfl rfl)
  have k2 := h2
  have lt2 : ∀ x ∈ p2, x.block < W.heap.size := by obtain ⟨m, hm⟩ := k2; exact DataW.trod_lt m _ _ _ hm
  obtain ⟨z2, s2⟩ := sees_bytes Try.underlying36 Try.underlying5 (by kernel_rfl) h2
  clear hA0 hval0
  refine (walk_crcSeedBits a0 a1 A2 n2 c2 z2 W (bounds_i64 w0) (bounds_i64 w1) s2).mono fun e W' ⟨he, bel⟩ => ?_
  subst he
  exact ⟨_, rfl, _, _, _, [], _, [], hW', trodAll_mk1 (shut_bool Try.underlying4 _), (trodAll_cons_mk (shut_int Try.underlying3 w0) (trodAll_cons_mk (shut_int Try.underlying3 w1) (trodAll_cons_mk (Below.trod laidOut_crcSeedBits (by kernel_rfl) (of_decide_eq_true (by kernel_rfl)) k2 bel lt2) trodAll_mk0))), rfl, bel.frame _, fun h => by cases h⟩

theorem over_crcSeedBits : Rows.crcSeedBitsRow.holds Try.pinned (OpenSpec.ofChange Rows.crcSeedBitsSpec) :=
  OpenClaim.holds_of_wide 14 Try.f14 rfl rfl rfl rfl rfl rfl rfl ⟨rfl, rfl, rfl, rfl, rfl⟩ rfl rfl rfl rfl rfl (by kernel_rfl) Try.func14 (by kernel_rfl)
    (of_decide_eq_true (by kernel_rfl)) (by unfold Func.isWrapper; first | (rw [if_pos (by decide +kernel)]; kernel_rfl) | (rw [if_neg (by decide +kernel)]; exact ⟨rfl, rfl⟩))
    (fun os started H enc _ => lifted_crcSeedBits os started H enc)

theorem proved_crcSeedBits : Rows.CrcSeedBitsSaid := over_crcSeedBits
end Go.Proofs.Ytbjojpcgigoenaa
