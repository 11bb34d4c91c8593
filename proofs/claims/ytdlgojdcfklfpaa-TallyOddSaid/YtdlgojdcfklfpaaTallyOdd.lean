/- TallyOdd holds: what is no node does nothing. For all arguments. -/
import Derived.Test.YtdlgojdcfklfpaaTlD
import Derived.Test.YtdlgojdcfklfpaaTlK
import Derived.Test.YtdlgojdcfklfpaaOpen
namespace Go.Proofs.Ytdlgojdcfklfpaa
open Go.ChangeShapes Go.WideShapes Go.ChangeAt Go.RowKit

theorem act_odd (s : TS) (k n : Int) (hn : ¬ (0 ≤ n ∧ n < 8)) (hk : k ≠ 5) : s.act k n = s := by
  unfold TS.act TS.right TS.wrong TS.miss TS.join
  simp [hn, hk]
set_option maxRecDepth 100000 in
set_option maxHeartbeats 2000000 in
theorem walk_tallyOdd (a n k : Int) (w : World) (_ha : -9223372036854775808 ≤ a ∧ a ≤ 9223372036854775807) (_hn : -9223372036854775808 ≤ n ∧ n ≤ 9223372036854775807) (_hk : -9223372036854775808 ≤ k ∧ k ≤ 9223372036854775807) :
    Calls Try.prog 6 #[.int .i64 a, .int .i64 n, .int .i64 k] w fun e w' => e = .returned (.bool true) ∧ Below w.heap.size w w' := by
  by_cases c0 : 0 ≤ n ∧ n ≤ 7
  · obtain ⟨c1, c2⟩ := c0
    go_enter Try.func6, Try.ntmps6
    go_wp2
    go_ret
    exact ⟨rfl, Below.refl _ _⟩
  have hd : ¬ (0 ≤ n ∧ n < 8) := by omega
  have HA := and_low a
  have hN := new_tl a
  have hR := new_rf a
  have HD := fun g g' s W (h : TAt 45 W g s) (h' : TAt 34 W g' s) => Lib.hid (fun ha hf => do_tl w.heap.size g g' s k n W h h' ha hf)
  have HI := fun g s W (h : TAt 45 W g s) => Lib.hid (is_tl g s n W h)
  have hI : ∀ m, isB m n = false := fun m => by simp [isB, hd]
  simp only [hI] at HI
  have HC := fun g s W (h : TAt 45 W g s) => Lib.hid (counts_tl g s W h)
  have HM := fun g s W (h : TAt 45 W g s) => Lib.hid (members_tl g s W h)
  have HO := fun s hk => Lib.hid (act_odd s k n hd hk)
  generalize (a % 256).toNat = q at *
  have hN := fun W => Lib.hid (hN W)
  have hR := fun W => Lib.hid (hR W)
  rcases (by omega : n < 0 ∨ (7 < n ∧ 0 ≤ n)) with c1 | ⟨c1, c2⟩
  all_goals
    rcases (by omega : k < 1 ∨ 4 < k ∨ (1 ≤ k ∧ k ≤ 4)) with c3 | c3 | ⟨c3, c4⟩
    all_goals
      clear c0 hd
      go_enter Try.func6, Try.ntmps6
      go_wp2_with fail
      refine (hN _).out.mono ?_
      rintro _ w1 ⟨rfl, h1, b1, z1⟩
      go_wp2_with fail
      refine (hR _).out.mono ?_
      rintro _ w2 ⟨rfl, h2, b2, z2⟩
      replace h1 := h1.below b2 h1.lt
      replace b2 := b1.trans (b2.mono b1.size)
      rw [z1] at *
      first
      | (go_wp2
         go_ret
         exact ⟨rfl, b2⟩)
      | skip
  all_goals
    go_wp2_with fail
    refine ((HD _ _ _ _ h1 h2).out (by simp) (by simp) (by omega) (Nat.le_refl _) (by omega)).mono ?_
    rintro _ w3 ⟨rfl, h3, -, b3⟩
    replace b3 := b2.trans b3
    rw [(HO _ (by omega)).out] at h3
    clear h1 h2 b1 b2 HD HO
    go_wp2_with fail
    refine (HC _ _ _ h3).out.mono ?_
    rintro _ _ ⟨rfl, mm, rfl⟩
    replace h3 := h3.drewN mm
    replace b3 := below_drewN b3 mm
    generalize World.drewN _ mm = ww at *
    clear mm
    go_wp2_with fail
    refine (HM _ _ _ h3).out.mono ?_
    rintro _ _ ⟨rfl, mm, rfl⟩
    replace h3 := h3.drewN mm
    replace b3 := below_drewN b3 mm
    generalize World.drewN _ mm = ww at *
    clear mm
    go_wp2_with fail
    refine (HI _ _ _ h3).out.mono ?_
    rintro _ _ ⟨rfl, mm, rfl⟩
    replace h3 := h3.drewN mm
    replace b3 := below_drewN b3 mm
    generalize World.drewN _ mm = ww at *
    clear mm
    go_wp2_with fail
    refine (known_tl _).mono ?_
    rintro _ wk ⟨rfl, bk⟩
    replace bk := b3.trans (bk.mono b3.size)
    go_wp2
    go_ret
    exact ⟨rfl, bk⟩

/-! ### THE ROW's STEP around the walk. -/
theorem own_tallyOdd : ownKnob Try.prog.godebug = none := by kernel_rfl
theorem laidOut_tallyOdd : laidOutB Try.prog = true := by kernel_rfl
set_option maxRecDepth 100000 in
theorem lifted_tallyOdd (os : Os) (started : os.Started) (H : Type) (enc : TypeId × Value → H) :
    ReturnsInHanded {} Try.checked os 6 .any (Rows.tallyOddSpec.pre6 enc Try.prog Try.f6 Rows.tallyOddRow.domain false) (Rows.tallyOddSpec.post enc Try.prog Try.f6 false true false false) := by
  refine returnsInHanded_of_change (C := Try.checked) own_tallyOdd started (by kernel_rfl) Try.func6
    (ChangeSpec.witness6 (enc := enc) (C := Try.checked) false ⟨#[], #[.int .i64 0, .int .i64 0, .int .i64 0], []⟩ 8 (by kernel_rfl) (by kernel_rfl) (by kernel_rfl) (by kernel_rfl)) ?_
  intro W base args ds gs before hval0 hW hcnd _
  have hval : ∀ (j : Nat) t v, Try.f6.params[j]? = some t → args[j]? = some v → Value.okWide Try.prog W .any base t v := hval0
  have hW' := hW
  obtain ⟨p, q, hA0, hV, rfl, hfz, hnd⟩ := hW
  have hA : DataW.TrodAll enc Try.prog W 0 (fun _ => true) true Try.f6.params.toList args.toList ds p := hA0
  rw [Try.params6] at hA hval
  obtain ⟨v0, vs0, d0, ds0, p0, q0, hargs, rfl, rfl, h0, r0⟩ := trodAll_cons hA
  obtain ⟨v1, vs1, d1, ds1, p1, q1, rfl, rfl, rfl, h1, r1⟩ := trodAll_cons r0
  obtain ⟨v2, vs2, d2, ds2, p2, q2, rfl, rfl, rfl, h2, r2⟩ := trodAll_cons r1
  obtain ⟨rfl, rfl, rfl⟩ := trodAll_nil r2
  obtain rfl : args = #[v0, v1, v2] := by cases args; simp_all
  obtain ⟨rfl, rfl⟩ := trodVars_none hV
  obtain ⟨a0, rfl, rfl, rfl, w0⟩ := open_int Try.underlying3 (hval 0 3 v0 rfl rfl) h0
  obtain ⟨a1, rfl, rfl, rfl, w1⟩ := open_int Try.underlying3 (hval 1 3 v1 rfl rfl) h1
  obtain ⟨a2, rfl, rfl, rfl, w2⟩ := open_int Try.underlying3 (hval 2 3 v2 rfl rfl) h2
  clear hA0 hval0
  refine (walk_tallyOdd a0 a1 a2 W (bounds_i64 w0) (bounds_i64 w1) (bounds_i64 w2)).mono fun e W' ⟨he, bel⟩ => ?_
  subst he
  exact ⟨_, rfl, _, _, _, [], _, [], hW', trodAll_mk1 (shut_bool Try.underlying4 _), (trodAll_cons_mk (shut_int Try.underlying3 w0) (trodAll_cons_mk (shut_int Try.underlying3 w1) (trodAll_cons_mk (shut_int Try.underlying3 w2) trodAll_mk0))), rfl, bel.frame _, fun h => by cases h⟩

theorem over_tallyOdd : Rows.tallyOddRow.holds Try.pinned (OpenSpec.ofChange Rows.tallyOddSpec) :=
  OpenClaim.holds_of_wide 6 Try.f6 rfl rfl rfl rfl rfl rfl rfl ⟨rfl, rfl, rfl, rfl, rfl⟩ rfl rfl rfl rfl rfl (by kernel_rfl) Try.func6 (by kernel_rfl)
    (of_decide_eq_true (by kernel_rfl)) (by unfold Func.isWrapper; first | (rw [if_pos (by decide +kernel)]; kernel_rfl) | (rw [if_neg (by decide +kernel)]; exact ⟨rfl, rfl⟩))
    (fun os started H enc _ => lifted_tallyOdd os started H enc)

theorem proved_tallyOdd : Rows.TallyOddSaid := over_tallyOdd
end Go.Proofs.Ytdlgojdcfklfpaa
