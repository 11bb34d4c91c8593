/- TallyFirst holds: of a number the lowest eight digits are members. For all numbers. -/
import Derived.Test.YtpdjpbchfbicfaaTlD
import Derived.Test.YtpdjpbchfbicfaaTlK
import Derived.Test.YtpdjpbchfbicfaaOpen
import Derived.Laws.Shifts
namespace Go.Proofs.Ytpdjpbchfbicfaa
open Go.ChangeShapes Go.WideShapes Go.ChangeAt Go.RowKit

theorem shr_low {a : Int} {k : Nat} (hk : k < 8) : (bits BinOp.and IntKind.i64 (a / (2 : Int) ^ k) 1 == 1) = isB (a % 256).toNat k := by
  unfold isB
  rw [and_one64, decide_eq_true (by omega), Bool.true_and, ← cast_pow, Nat.testBit_eq_decide_div_mod_eq, Int.toNat_natCast]
  rcases (by omega : k = 0 ∨ k = 1 ∨ k = 2 ∨ k = 3 ∨ k = 4 ∨ k = 5 ∨ k = 6 ∨ k = 7) with rfl | rfl | rfl | rfl | rfl | rfl | rfl | rfl
  all_goals
    simp only [Nat.reducePow, Nat.pow_zero]
    rw [Bool.eq_iff_iff, beq_iff_eq, decide_eq_true_eq]
    omega
set_option maxRecDepth 100000 in
set_option maxHeartbeats 2000000 in
theorem walk_tallyFirst (a : Int) (w : World) (_ha : -9223372036854775808 ≤ a ∧ a ≤ 9223372036854775807) :
    Calls Try.prog 8 #[.int .i64 a] w fun e w' => e = .returned (.bool true) ∧ Below w.heap.size w w' := by
  have HA := and_low a
  have hN := new_tl a
  have HS := fun (k : Nat) (hk : k < 8) => Lib.hid (shr_low (a := a) hk)
  generalize (a % 256).toNat = q at *
  have hN := fun W => Lib.hid (hN W)
  have HM := fun g s W (h : TAt 45 W g s) => Lib.hid (members_tl g s W h)
  have HI := fun g s n W (h : TAt 45 W g s) => Lib.hid (is_tl g s n W h)
  have HC := fun g s W (h : TAt 45 W g s) => Lib.hid (counts_tl g s W h)
  have HQ := fun g s W (h : TAt 45 W g s) => Lib.hid (clique_tl g s W h)
  have HL := fun g s W (h : TAt 45 W g s) => Lib.hid (alone_tl g s W h)
  go_enter Try.func8, Try.ntmps8
  go_wp2_with fail
  refine (hN _).out.mono ?_
  rintro _ w1 ⟨rfl, h1, b1, -⟩
  go_wp2_with fail
  refine (HM _ _ _ h1).out.mono ?_
  rintro _ _ ⟨rfl, mm, rfl⟩
  replace h1 := h1.drewN mm
  replace b1 := below_drewN b1 mm
  generalize World.drewN _ mm = ww at *
  clear mm
  go_wp2_with fail
  go_loopw [4] (fun i wr => ∃ k : Nat, k ≤ 8 ∧ i = .int .i64 k ∧ TAt 45 wr w.heap.size ⟨q, 0, 0⟩ ∧ Below w.heap.size w wr) (fun i _ => 8 - (intOf i).toNat)
  case atStart => exact ⟨0, by omega, rfl, h1, b1⟩
  case round =>
    clear h1 b1
    obtain ⟨k, hk, rfl, h2, b2⟩ := hrel
    by_cases hlt : k < 8
    · have r1 : decide ((k : Int) < 8) = true := decide_eq_true (by omega)
      have hs := (HS k hlt).out
      have hU : IntKind.u64.wrap (k : Int) = k := by rw [IntKind.wrap_u64]; omega
      have hI := fun g s W (h : TAt 45 W g s) => HI g s k W h
      clear HI
      go_wp2_with fail
      refine (hI _ _ _ h2).out.mono ?_
      rintro _ _ ⟨rfl, mm, rfl⟩
      replace h2 := h2.drewN mm
      replace b2 := below_drewN b2 mm
      generalize World.drewN _ mm = ww at *
      clear mm
      generalize isB q k = qq at *
      have hqq : (qq != qq) = false := by simp
      go_wp2
      go_roundw
      case rel => exact ⟨k + 1, by omega, by go_num, h2, b2⟩
      case measure => simp [intOf]; omega
    · obtain rfl : k = 8 := by omega
      go_wp2_with fail
      refine (HC _ _ _ h2).out.mono ?_
      rintro _ _ ⟨rfl, mm, rfl⟩
      replace h2 := h2.drewN mm
      replace b2 := below_drewN b2 mm
      generalize World.drewN _ mm = ww at *
      clear mm
      go_wp2_with fail
      refine (HQ _ _ _ h2).out.mono ?_
      rintro _ _ ⟨rfl, mm, rfl⟩
      replace h2 := h2.drewN mm
      replace b2 := below_drewN b2 mm
      generalize World.drewN _ mm = ww at *
      clear mm
      go_wp2_with fail
      refine (HL _ _ _ h2).out.mono ?_
      rintro _ _ ⟨rfl, mm, rfl⟩
      replace h2 := h2.drewN mm
      replace b2 := below_drewN b2 mm
      generalize World.drewN _ mm = ww at *
      clear mm
      go_wp2_with fail
      refine (known_tl _).mono ?_
      rintro _ wk ⟨rfl, bk⟩
      replace bk := b2.trans (bk.mono b2.size)
      go_wp2
      go_ret
      exact ⟨rfl, bk⟩

/-! ### THE ROW's STEP around the walk. -/
theorem own_tallyFirst : ownKnob Try.prog.godebug = none := by kernel_rfl
theorem laidOut_tallyFirst : laidOutB Try.prog = true := by kernel_rfl
set_option maxRecDepth 100000 in
theorem lifted_tallyFirst (os : Os) (started : os.Started) (H : Type) (enc : TypeId × Value → H) :
    ReturnsInHanded {} Try.checked os 8 .any (Rows.tallyFirstSpec.pre6 enc Try.prog Try.f8 Rows.tallyFirstRow.domain false) (Rows.tallyFirstSpec.post enc Try.prog Try.f8 false true false false) := by
  refine returnsInHanded_of_change (C := Try.checked) own_tallyFirst started (by kernel_rfl) Try.func8
    (ChangeSpec.witness6 (enc := enc) (C := Try.checked) false ⟨#[], #[.int .i64 0], []⟩ 8 (by kernel_rfl) (by kernel_rfl) (by kernel_rfl) (by kernel_rfl)) ?_
  intro W base args ds gs before hval0 hW hcnd _
  have hval : ∀ (j : Nat) t v, Try.f8.params[j]? = some t → args[j]? = some v → Value.okWide Try.prog W .any base t v := hval0
  have hW' := hW
  obtain ⟨p, q, hA0, hV, rfl, hfz, hnd⟩ := hW
  have hA : DataW.TrodAll enc Try.prog W 0 (fun _ => true) true Try.f8.params.toList args.toList ds p := hA0
  rw [Try.params8] at hA hval
  obtain ⟨v0, vs0, d0, ds0, p0, q0, hargs, rfl, rfl, h0, r0⟩ := trodAll_cons hA
  obtain ⟨rfl, rfl, rfl⟩ := trodAll_nil r0
  obtain rfl : args = #[v0] := by cases args; simp_all
  obtain ⟨rfl, rfl⟩ := trodVars_none hV
  obtain ⟨a0, rfl, rfl, rfl, w0⟩ := open_int Try.underlying3 (hval 0 3 v0 rfl rfl) h0
  clear hA0 hval0
  refine (walk_tallyFirst a0 W (bounds_i64 w0)).mono fun e W' ⟨he, bel⟩ => ?_
  subst he
  exact ⟨_, rfl, _, _, _, [], _, [], hW', trodAll_mk1 (shut_bool Try.underlying4 _), (trodAll_cons_mk (shut_int Try.underlying3 w0) trodAll_mk0), rfl, bel.frame _, fun h => by cases h⟩

theorem over_tallyFirst : Rows.tallyFirstRow.holds Try.pinned (OpenSpec.ofChange Rows.tallyFirstSpec) :=
  OpenClaim.holds_of_wide 8 Try.f8 rfl rfl rfl rfl rfl rfl rfl ⟨rfl, rfl, rfl, rfl, rfl⟩ rfl rfl rfl rfl rfl (by kernel_rfl) Try.func8 (by kernel_rfl)
    (of_decide_eq_true (by kernel_rfl)) (by unfold Func.isWrapper; first | (rw [if_pos (by decide +kernel)]; kernel_rfl) | (rw [if_neg (by decide +kernel)]; exact ⟨rfl, rfl⟩))
    (fun os started H enc _ => lifted_tallyFirst os started H enc)

theorem proved_tallyFirst : Rows.TallyFirstSaid := over_tallyFirst
end Go.Proofs.Ytpdjpbchfbicfaa
