/- CrcBit holds: a sum's bit by bit step: of one byte by hand. For all numbers and bytes. -/
import Derived.Test.YtbjojpcgigoenaaCrcC
namespace Go.Proofs.Ytbjojpcgigoenaa
open Go.ChangeShapes Go.WideShapes Go.ChangeAt Go.RowKit
open Go.ChangeMaps (open_string shut_string)

theorem top_one (n : Nat) (hn : n < 32768) : bits BinOp.and IntKind.i64 ((n : Int) / 16384) 1 = (n : Int) / 16384 := by
  have e1 : ((n : Int) / 16384) = ((n / 16384 : Nat) : Int) := by omega
  rw [e1]
  have : n / 16384 = 0 ∨ n / 16384 = 1 := by omega
  rcases this with h | h <;> rw [h] <;> decide

set_option maxHeartbeats 400000 in
theorem walk_crcBit (a : Int) (x : Int) (w : World) (_ha : -9223372036854775808 ≤ a ∧ a ≤ 9223372036854775807) (hx : 0 ≤ x ∧ x ≤ 255) :
    Calls Try.prog 13 #[.int .i64 a, .int .u8 x] w fun e w' => e = .returned (.bool true) ∧ Below w.heap.size w w' := by
  obtain ⟨x, rfl⟩ := Int.eq_ofNat_of_zero_le hx.1
  have hx2 : x < 256 := by omega
  have hl := Cr.sd_lt a
  have hand := Cr.and_sd a
  have H1 := fun W A c (hs : Sees W W.heap.size A 1 fun _ => .int .u8 (x : Int)) g (hg : g = W.heap.size) => Lib.hid (sum_one A 1 c (fun _ => (x : Int)) a W 36 g hg hs (fun _ _ => ⟨by omega, by omega⟩) (by unfold maxLen; omega))
  rw [show Cr.sumTo (Cr.sd a) (fun _ => (x : Int)) 1 = Cr.byteTo (Cr.sd a) x 8 from rfl] at H1
  generalize Cr.sd a = s at *
  go_enter Try.func13, Try.ntmps13
  go_wp2
  clear hand
  go_loop [5, 6, 7] (fun v i _ => ∃ j r : Nat, v = .int .i64 (Cr.byteTo s x j : Nat) ∧ ((r < 8 ∧ i = .int .i64 r ∧ j + r = 7) ∨ (r = 8 ∧ i = .int .i64 (-1) ∧ j = 8))) (fun _ i _ => ((intOf i) + 1).toNat)
  case atStart => exact ⟨0, 7, rfl, .inl ⟨by omega, rfl, rfl⟩⟩
  case round =>
    obtain ⟨j, r, rfl, hr⟩ := hrel
    rcases hr with ⟨hr8, rfl, hjr⟩ | ⟨rfl, rfl, rfl⟩
    · have hm := Cr.byteTo_lt hl x j
      have hj1 : j + r ≤ 7 := by omega
      have hj2 : 7 ≤ j + r := by omega
      have ht := top_of (Cr.byteTo s x j) x r hm
      rw [← u8_bit x r hx2, ← top_one _ hm] at ht
      obtain ⟨h80, h81⟩ := u8_bit_le x r hx2
      have HS := Lib.hid (show Cr.byteTo s x (j + 1) = Cr.bit1 (Cr.byteTo s x j) (x.testBit r) by rw [Cr.byteTo, show 7 - j = r by omega])
      clear hjr
      have H1 := fun h => Lib.hid (bit1_on (n := Cr.byteTo s x j) (b := x.testBit r) h)
      have H2 := fun h => Lib.hid (bit1_off (n := Cr.byteTo s x j) (b := x.testBit r) h)
      have hbb : ((Cr.byteTo s x j).testBit 14 != x.testBit r) = true ∨ ((Cr.byteTo s x j).testBit 14 != x.testBit r) = false := by cases ((Cr.byteTo s x j).testBit 14 != x.testBit r) <;> simp
      rcases hbb with hb | hb
      case' inl =>
        have HV := Lib.hid (HS.out ▸ (H1 hb).out : _ = ((Cr.byteTo s x (j + 1) : Nat) : Int))
        rw [hb, if_pos rfl] at ht
      case' inr =>
        have HV := Lib.hid (HS.out ▸ (H2 hb).out : _ = ((Cr.byteTo s x (j + 1) : Nat) : Int))
        rw [hb, if_neg (by decide)] at ht
      all_goals
        clear H1 H2 HS hb
        generalize Cr.byteTo s x j = m at *
        rcases Nat.eq_zero_or_pos r with h0 | h0
        case' inl =>
          subst h0
          rw [Int.pow_zero, Int.ediv_one] at ht h80 h81
        case' inr => obtain ⟨r, rfl⟩ : ∃ r', r = r' + 1 := ⟨r - 1, by omega⟩
        all_goals
          go_wp2
          go_round
          case rel => first | exact ⟨j + 1, r, by rw [HV.out], .inl ⟨by omega, by go_num, by omega⟩⟩ | exact ⟨j + 1, 8, by rw [HV.out], .inr ⟨rfl, rfl, by omega⟩⟩
          case measure => simp [intOf]; try omega
    · generalize Cr.byteTo s x 8 = S at *
      go_wp2_with fail
      refine (H1 _ _ _ (sees_only w _ _ _ (by simp) _ rfl) _ (by simp)).out.mono ?_
      rintro e w2 ⟨rfl, rfl⟩
      have hb3 : Below w.heap.size w ((w.alloc (.cells #[.int .u8 (x : Int)] 5)).alloc (.cells #[.slice (some ⟨w.heap.size, 0, none⟩) 1 1] 36)) := ((Below.refl _ _).alloc (Nat.le_refl _) _).alloc (by simp) _
      generalize ((w.alloc (.cells #[.int .u8 (x : Int)] 5)).alloc (.cells #[.slice (some ⟨w.heap.size, 0, none⟩) 1 1] 36)) = w2 at *
      go_wp2_with (go_at_call 31; refine (knownCrc_any _).mono ?_; rintro e w3 ⟨rfl, hb4⟩)
      go_ret
      exact ⟨by simp, hb3.trans (hb4.mono hb3.size)⟩

/-! ### THE ROW's STEP around the walk. -/
theorem own_crcBit : ownKnob Try.prog.godebug = none := by kernel_rfl
theorem laidOut_crcBit : laidOutB Try.prog = true := by kernel_rfl
set_option maxRecDepth 100000 in
theorem lifted_crcBit (os : Os) (started : os.Started) (H : Type) (enc : TypeId × Value → H) :
    ReturnsInHanded {} Try.checked os 13 .any (Rows.crcBitSpec.pre6 enc Try.prog Try.f13 Rows.crcBitRow.domain false) (Rows.crcBitSpec.post enc Try.prog Try.f13 false true false false) := by
  refine returnsInHanded_of_change (C := Try.checked) own_crcBit started (by kernel_rfl) Try.func13
    (ChangeSpec.witness6 (enc := enc) (C := Try.checked) false ⟨#[], #[.int .i64 0, .int .u8 0], []⟩ 8 (by kernel_rfl) (by kernel_rfl) (by kernel_rfl) (by kernel_rfl)) ?_
  intro W base args ds gs before hval0 hW hcnd _
  have hval : ∀ (j : Nat) t v, Try.f13.params[j]? = some t → args[j]? = some v → Value.okWide Try.prog W .any base t v := hval0
  have hW' := hW
  obtain ⟨p, q, hA0, hV, rfl, hfz, hnd⟩ := hW
  have hA : DataW.TrodAll enc Try.prog W 0 (fun _ => true) true Try.f13.params.toList args.toList ds p := hA0
  rw [Try.params13] at hA hval
  obtain ⟨v0, vs0, d0, ds0, p0, q0, hargs, rfl, rfl, h0, r0⟩ := trodAll_cons hA
  obtain ⟨v1, vs1, d1, ds1, p1, q1, rfl, rfl, rfl, h1, r1⟩ := trodAll_cons r0
  obtain ⟨rfl, rfl, rfl⟩ := trodAll_nil r1
  obtain rfl : args = #[v0, v1] := by cases args; simp_all
  obtain ⟨rfl, rfl⟩ := trodVars_none hV
  obtain ⟨a0, rfl, rfl, rfl, w0⟩ := open_int Try.underlying3 (hval 0 3 v0 rfl rfl) h0
  obtain ⟨a1, rfl, rfl, rfl, w1⟩ := open_int Try.underlying5 (hval 1 5 v1 rfl rfl) h1
  clear hA0 hval0
  refine (walk_crcBit a0 a1 W (bounds_i64 w0) (bounds_u8 w1)).mono fun e W' ⟨he, bel⟩ => ?_
  subst he
  exact ⟨_, rfl, _, _, _, [], _, [], hW', trodAll_mk1 (shut_bool Try.underlying4 _), (trodAll_cons_mk (shut_int Try.underlying3 w0) (trodAll_cons_mk (shut_int Try.underlying5 w1) trodAll_mk0)), rfl, bel.frame _, fun h => by cases h⟩

theorem over_crcBit : Rows.crcBitRow.holds Try.pinned (OpenSpec.ofChange Rows.crcBitSpec) :=
  OpenClaim.holds_of_wide 13 Try.f13 rfl rfl rfl rfl rfl rfl rfl ⟨rfl, rfl, rfl, rfl, rfl⟩ rfl rfl rfl rfl rfl (by kernel_rfl) Try.func13 (by kernel_rfl)
    (of_decide_eq_true (by kernel_rfl)) (by unfold Func.isWrapper; first | (rw [if_pos (by decide +kernel)]; kernel_rfl) | (rw [if_neg (by decide +kernel)]; exact ⟨rfl, rfl⟩))
    (fun os started H enc _ => lifted_crcBit os started H enc)

theorem proved_crcBit : Rows.CrcBitSaid := over_crcBit
end Go.Proofs.Ytbjojpcgigoenaa
