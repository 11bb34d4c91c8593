/- TallyClique holds: it is a clique, as long as fewer fail than agree, the node itself among these. For all arguments. -/
import Derived.Test.YtdlgojdcfklfpaaTlD
import Derived.Test.YtdlgojdcfklfpaaTlK
import Derived.Test.YtdlgojdcfklfpaaOpen
namespace Go.Proofs.Ytdlgojdcfklfpaa
open Go.ChangeShapes Go.WideShapes Go.ChangeAt Go.RowKit

theorem and_seven (k : Nat) : bits BinOp.and IntKind.i64 (k : Int) 7 = ((k % 8 : Nat) : Int) := by
  have h8 : (BitVec.ofInt 64 7).toNat = 2 ^ 3 - 1 := by decide
  show IntKind.i64.wrap (((BitVec.ofInt 64 k) &&& (BitVec.ofInt 64 7)).toNat : Int) = _
  rw [BitVec.toNat_and, h8, Nat.and_two_pow_sub_one_eq_mod, BitVec.toNat_ofInt, IntKind.wrap_i64]
  omega
theorem right_in (s : TS) (k : Nat) : (s.right ((k % 8 : Nat) : Int)).a = s.a + 1 ∧ (s.right ((k % 8 : Nat) : Int)).f = s.f := by
  unfold TS.right
  rw [if_pos (by omega)]
  exact ⟨rfl, rfl⟩
theorem wrong_in (s : TS) (k : Nat) : (s.wrong ((k % 8 : Nat) : Int)).a = s.a ∧ (s.wrong ((k % 8 : Nat) : Int)).f = s.f + 1 := by
  unfold TS.wrong
  rw [if_pos (by omega)]
  exact ⟨rfl, rfl⟩
set_option maxRecDepth 100000 in
set_option maxHeartbeats 2000000 in
theorem walk_tallyClique (a n : Int) (w : World) (_ha : -9223372036854775808 ≤ a ∧ a ≤ 9223372036854775807) (_hn : -9223372036854775808 ≤ n ∧ n ≤ 9223372036854775807) :
    Calls Try.prog 5 #[.int .i64 a, .int .i64 n] w fun e w' => e = .returned (.bool true) ∧ Below w.heap.size w w' := by
  by_cases call : 0 ≤ a ∧ a ≤ 50 ∧ 0 ≤ n ∧ n ≤ 50
  case neg =>
    go_enter Try.func5, Try.ntmps5
    go_wp2
    all_goals first
      | (exfalso; omega)
      | (go_ret; exact ⟨rfl, Below.refl _ _⟩)
      | skip
  obtain ⟨c1, c2, c3, c4⟩ := call
  obtain ⟨A, rfl⟩ : ∃ t : Nat, a = t := ⟨a.toNat, by omega⟩
  obtain ⟨F, rfl⟩ : ∃ t : Nat, n = t := ⟨n.toNat, by omega⟩
  have hN := fun W => Lib.hid (new_tl 0 W)
  have HR := fun g s k W (h : TAt 45 W g s) (ha : s.a < 1000) => Lib.hid (right_tl g s ((k % 8 : Nat) : Int) W h ha)
  have HW := fun g s k W (h : TAt 45 W g s) (hf : s.f < 1000) => Lib.hid (wrong_tl g s ((k % 8 : Nat) : Int) W h hf)
  have HK := fun g s W (h : TAt 45 W g s) => Lib.hid (clear_tl g s W h)
  have HC := fun g s W (h : TAt 45 W g s) => Lib.hid (counts_tl g s W h)
  have HQ := fun g s W (h : TAt 45 W g s) => Lib.hid (clique_tl g s W h)
  have HL := fun g s W (h : TAt 45 W g s) => Lib.hid (alone_tl g s W h)
  have d1 : decide (((A : Nat) : Int) < 0) = false := decide_eq_false (by omega)
  have d2 : decide ((50 : Int) < ((A : Nat) : Int)) = false := decide_eq_false (by omega)
  have d3 : decide (((F : Nat) : Int) < 0) = false := decide_eq_false (by omega)
  have d4 : decide ((50 : Int) < ((F : Nat) : Int)) = false := decide_eq_false (by omega)
  have e1 : decide (((F : Nat) : Int) ≤ (A : Nat)) = decide (F ≤ A) := by simp
  have e2 : (((A : Nat) : Int) == 0) = decide (A = 0) := by by_cases h : A = 0 <;> simp [h]
  go_enter Try.func5, Try.ntmps5
  go_wp2_with fail
  refine (hN _).out.mono ?_
  rintro _ w1 ⟨rfl, h1, b1, -⟩
  go_wp2_with fail
  go_loopw [6] (fun i wr => ∃ (k : Nat) (s : TS), k ≤ A ∧ i = .int .i64 k ∧ TAt 45 wr w.heap.size s ∧ s.a = k ∧ s.f = 0 ∧ Below w.heap.size w wr) (fun i _ => A - (intOf i).toNat)
  case atStart => exact ⟨0, _, by omega, rfl, h1, rfl, rfl, b1⟩
  case round =>
    clear h1 b1
    obtain ⟨k, s, hk, rfl, h2, sa, sf, b2⟩ := hrel
    by_cases hlt : k < A
    · have r1 : decide ((k : Int) < (A : Int)) = true := decide_eq_true (by omega)
      have h7 := and_seven k
      go_wp2_with fail
      refine (HR _ _ k _ h2 (by omega)).out.mono ?_
      rintro _ w3 ⟨rfl, h3, o3⟩
      have b3 := b2.trans (o3.below (Nat.le_refl _) h2.lt)
      clear h2 b2 o3
      go_wp2
      go_roundw
      case rel => exact ⟨k + 1, _, by omega, by go_num, h3, by rw [(right_in s k).1]; omega, by rw [(right_in s k).2]; omega, b3⟩
      case measure => simp [intOf]; omega
    · obtain rfl : k = A := by omega
      go_wp2_with fail
      go_loopw [7] (fun i wr => ∃ (j : Nat) (s : TS), j ≤ F ∧ i = .int .i64 j ∧ TAt 45 wr w.heap.size s ∧ s.a = k ∧ s.f = j ∧ Below w.heap.size w wr) (fun i _ => F - (intOf i).toNat)
      case atStart => exact ⟨0, _, by omega, rfl, h2, sa, sf, b2⟩
      case round =>
        clear h2 b2 sa sf s
        obtain ⟨j, s, hj, rfl, h2, sa, sf, b2⟩ := hrel
        by_cases hlt : j < F
        · have r1 : decide ((j : Int) < (F : Int)) = true := decide_eq_true (by omega)
          have h7 := and_seven j
          go_wp2_with fail
          refine (HW _ _ j _ h2 (by omega)).out.mono ?_
          rintro _ w3 ⟨rfl, h3, o3⟩
          have b3 := b2.trans (o3.below (Nat.le_refl _) h2.lt)
          clear h2 b2 o3
          go_wp2
          go_roundw
          case rel => exact ⟨j + 1, _, by omega, by go_num, h3, by rw [(wrong_in s j).1]; omega, by rw [(wrong_in s j).2]; omega, b3⟩
          case measure => simp [intOf]; omega
        · obtain rfl : j = F := by omega
          have HQ1 := HQ w.heap.size s
          have HL1 := HL w.heap.size s
          rw [sa] at HQ1 HL1
          rw [sf] at HQ1
          have n1 : (decide (j ≤ k) != decide (j ≤ k)) = false := by simp
          have n2 : (decide (k = 0) != decide (k = 0)) = false := by simp
          generalize hq1 : decide (j ≤ k) = Q1 at *
          generalize hq2 : decide (k = 0) = Q2 at *
          go_wp2_with fail
          refine (HQ1 _ h2).out.mono ?_
          rintro _ _ ⟨rfl, mm, rfl⟩
          replace h2 := h2.drewN mm
          replace b2 := below_drewN b2 mm
          generalize World.drewN _ mm = ww at *
          clear mm
          go_wp2_with fail
          refine (HL1 _ h2).out.mono ?_
          rintro _ _ ⟨rfl, mm, rfl⟩
          replace h2 := h2.drewN mm
          replace b2 := below_drewN b2 mm
          generalize World.drewN _ mm = ww at *
          clear mm
          go_wp2_with fail
          refine (HK _ _ _ h2).out.mono ?_
          rintro _ w3 ⟨rfl, h3, o3⟩
          have b3 := b2.trans (o3.below (Nat.le_refl _) h2.lt)
          unfold TS.clear at h3
          clear h2 b2 o3
          go_wp2_with fail
          refine (HC _ _ _ h3).out.mono ?_
          rintro _ _ ⟨rfl, mm, rfl⟩
          replace h3 := h3.drewN mm
          replace b3 := below_drewN b3 mm
          generalize World.drewN _ mm = ww at *
          clear mm
          go_wp2_with fail
          refine (HQ _ _ _ h3).out.mono ?_
          rintro _ _ ⟨rfl, mm, rfl⟩
          replace h3 := h3.drewN mm
          replace b3 := below_drewN b3 mm
          generalize World.drewN _ mm = ww at *
          clear mm
          go_wp2_with fail
          refine (HL _ _ _ h3).out.mono ?_
          rintro _ _ ⟨rfl, mm, rfl⟩
          replace h3 := h3.drewN mm
          replace b3 := below_drewN b3 mm
          generalize World.drewN _ mm = ww at *
          clear mm
          go_wp2_with fail
          refine (known_tl _).mono ?_
          rintro _ wk ⟨rfl, bk⟩
          replace bk := b3.trans (bk.mono b3.size)
          go_wp2
          go_ret
          exact ⟨rfl, bk⟩

/-! ### THE ROW's STEP around the walk. -/
theorem own_tallyClique : ownKnob Try.prog.godebug = none := by kernel_rfl
theorem laidOut_tallyClique : laidOutB Try.prog = true := by kernel_rfl
set_option maxRecDepth 100000 in
theorem lifted_tallyClique (os : Os) (started : os.Started) (H : Type) (enc : TypeId × Value → H) :
    ReturnsInHanded {} Try.checked os 5 .any (Rows.tallyCliqueSpec.pre6 enc Try.prog Try.f5 Rows.tallyCliqueRow.domain false) (Rows.tallyCliqueSpec.post enc Try.prog Try.f5 false true false false) := by
  refine returnsInHanded_of_change (C := Try.checked) own_tallyClique started (by kernel_rfl) Try.func5
    (ChangeSpec.witness6 (enc := enc) (C := Try.checked) false ⟨#[], #[.int .i64 0, .int .i64 0], []⟩ 8 (by kernel_rfl) (by kernel_rfl) (by kernel_rfl) (by kernel_rfl)) ?_
  intro W base args ds gs before hval0 hW hcnd _
  have hval : ∀ (j : Nat) t v, Try.f5.params[j]? = some t → args[j]? = some v → Value.okWide Try.prog W .any base t v := hval0
  have hW' := hW
  obtain ⟨p, q, hA0, hV, rfl, hfz, hnd⟩ := hW
  have hA : DataW.TrodAll enc Try.prog W 0 (fun _ => true) true Try.f5.params.toList args.toList ds p := hA0
  rw [Try.params5] at hA hval
  obtain ⟨v0, vs0, d0, ds0, p0, q0, hargs, rfl, rfl, h0, r0⟩ := trodAll_cons hA
  obtain ⟨v1, vs1, d1, ds1, p1, q1, rfl, rfl, rfl, h1, r1⟩ := trodAll_cons r0
  obtain ⟨rfl, rfl, rfl⟩ := trodAll_nil r1
  obtain rfl : args = #[v0, v1] := by cases args; simp_all
  obtain ⟨rfl, rfl⟩ := trodVars_none hV
  obtain ⟨a0, rfl, rfl, rfl, w0⟩ := open_int Try.underlying3 (hval 0 3 v0 rfl rfl) h0
  obtain ⟨a1, rfl, rfl, rfl, w1⟩ := open_int Try.underlying3 (hval 1 3 v1 rfl rfl) h1
  clear hA0 hval0
  refine (walk_tallyClique a0 a1 W (bounds_i64 w0) (bounds_i64 w1)).mono fun e W' ⟨he, bel⟩ => ?_
  subst he
  exact ⟨_, rfl, _, _, _, [], _, [], hW', trodAll_mk1 (shut_bool Try.underlying4 _), (trodAll_cons_mk (shut_int Try.underlying3 w0) (trodAll_cons_mk (shut_int Try.underlying3 w1) trodAll_mk0)), rfl, bel.frame _, fun h => by cases h⟩

theorem over_tallyClique : Rows.tallyCliqueRow.holds Try.pinned (OpenSpec.ofChange Rows.tallyCliqueSpec) :=
  OpenClaim.holds_of_wide 5 Try.f5 rfl rfl rfl rfl rfl rfl rfl ⟨rfl, rfl, rfl, rfl, rfl⟩ rfl rfl rfl rfl rfl (by kernel_rfl) Try.func5 (by kernel_rfl)
    (of_decide_eq_true (by kernel_rfl)) (by unfold Func.isWrapper; first | (rw [if_pos (by decide +kernel)]; kernel_rfl) | (rw [if_neg (by decide +kernel)]; exact ⟨rfl, rfl⟩))
    (fun os started H enc _ => lifted_tallyClique os started H enc)

theorem proved_tallyClique : Rows.TallyCliqueSaid := over_tallyClique
end Go.Proofs.Ytdlgojdcfklfpaa
