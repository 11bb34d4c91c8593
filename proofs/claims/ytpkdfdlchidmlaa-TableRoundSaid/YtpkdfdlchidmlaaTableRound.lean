/- TableRound holds: a whole run of rounds comes back to where it was. For all numbers of nodes and slots. -/
import Derived.Test.YtpkdfdlchidmlaaTbL
import Derived.Test.YtpkdfdlchidmlaaTbO
namespace Go.Proofs.Ytpkdfdlchidmlaa
open Go.ChangeShapes Go.WideShapes Go.ChangeAt Go.RowKit
open Go.ChangeMaps (open_string shut_string)
open Tb (D T)

set_option maxRecDepth 100000 in
set_option maxHeartbeats 4000000 in
theorem walk_tableRound (n s : Int) (w : World) (_h0 : -9223372036854775808 ≤ n ∧ n ≤ 9223372036854775807) (_h1 : -9223372036854775808 ≤ s ∧ s ≤ 9223372036854775807) :
    Calls Try.prog 11 #[.int .i64 n, .int .i64 s] w fun e w' => e = .returned (.bool true) ∧ Below w.heap.size w w' := by
  by_cases h1 : n < 4
  · go_enter Try.func11, Try.ntmps11
    go_wp2
    go_ret
    exact ⟨rfl, Below.refl _ _⟩
  by_cases h2 : 8 < n
  · go_enter Try.func11, Try.ntmps11
    go_wp2
    go_ret
    exact ⟨rfl, Below.refl _ _⟩
  by_cases h3 : s < 0
  · go_enter Try.func11, Try.ntmps11
    go_wp2
    go_ret
    exact ⟨rfl, Below.refl _ _⟩
  by_cases h4 : n ≤ s
  · go_enter Try.func11, Try.ntmps11
    go_wp2
    go_ret
    exact ⟨rfl, Below.refl _ _⟩
  obtain ⟨N, rfl⟩ := Int.eq_ofNat_of_zero_le (a := n) (by omega)
  have hs := fun W => some_tb N (by omega) W
  have hl := someL_length N
  unfold tabV someT at hs
  simp only at hs
  have ha := fun A c W => next_tb A N c 1 10 20 65535 ((N : Int) - 1) 5 W (by omega) (by omega) (by omega)
  have hA1 : nxR N 65535 ((N : Int) - 1) = 0 := by unfold nxR; rw [if_neg (by omega), if_neg (by omega)]
  have hA2 : nxS N ((N : Int) - 1) = 0 := by unfold nxS; rw [if_neg (by omega)]
  rw [hA1, hA2] at ha
  have hb := fun A c W => next_tb A N c 1 10 20 3 s 0 W (by omega) (by omega) (by omega)
  obtain ⟨r', s', hr', hs', hcase⟩ : ∃ r' s', nxR N 3 s = r' ∧ nxS N s = s' ∧ ((r' = 3 ∧ s' = s + 1 ∧ ¬ s = (N : Int) - 1) ∨ (r' = 4 ∧ s' = 0 ∧ s = (N : Int) - 1)) := by
    refine ⟨_, _, rfl, rfl, ?_⟩
    unfold nxR nxS
    by_cases h : s + 1 < N
    · rw [if_pos h, if_pos h]; omega
    · rw [if_neg h, if_neg h, if_pos (by omega)]; omega
  rw [hr', hs'] at hb
  generalize someL N = ls at *
  have hs := fun W => Lib.hid (hs W)
  unfold csV at ha hb
  have ha := fun A c W => Lib.hid (ha A c W)
  have hb := fun A c W => Lib.hid (hb A c W)
  have w1 : IntKind.i64.wrap ((N : Int) - 1) = N - 1 := IntWalk.i64_in _ (by omega)
  clear hr' hs' hA1 hA2
  rcases hcase with ⟨rfl, rfl, c1⟩ | ⟨rfl, rfl, c1⟩
  case' inl =>
    have c2 : (s + 1 == 0) = false := by simp; omega
    have c3 : (s == (N : Int) - 1) = false := by simp; omega
  case' inr => subst c1
  all_goals
    go_enter Try.func11, Try.ntmps11
    go_wp2_with fail
    refine (hs w).out.mono ?_
    rintro e wa ⟨v1, rfl, ho1, hb1⟩
    obtain ⟨A, c, rfl, -, -, -, -⟩ := ho1.sees.at_
    rw [hl]
    have hT := Blk.new wa _ rfl #[.slice A N c, .int .i64 1, .int .i64 10, .int .i64 20] 24
    have hbx := hb1.alloc hb1.size (.cells #[.slice A N c, .int .i64 1, .int .i64 10, .int .i64 20] 24)
    clear ho1 hl hs
    go_wp2_with fail
    generalize wa.alloc (.cells #[.slice A N c, .int .i64 1, .int .i64 10, .int .i64 20] 24) = wx at *
    refine (ha A c wx).out.mono ?_
    rintro e wb ⟨rfl, hb2⟩
    have hbb := hbx.trans (hb2.mono hbx.size)
    have hT2 := hT.below hb2 hT.lt
    have hR := Blk.new wb _ rfl #[.int .i64 0, .int .i64 0, .int .i64 5] 45
    have hT3 := hT2.alloc (.cells #[.int .i64 0, .int .i64 0, .int .i64 5] 45)
    have hby := hbb.alloc hbb.size (.cells #[.int .i64 0, .int .i64 0, .int .i64 5] 45)
    have t0 := hT3.cell 0 rfl
    have t1 := hT3.cell 1 rfl
    have t2 := hT3.cell 2 rfl
    have t3 := hT3.cell 3 rfl
    clear hT hT2 ha
    go_wp2_with fail
    generalize wb.alloc (.cells #[.int .i64 0, .int .i64 0, .int .i64 5] 45) = wy at *
    refine (hb A c wy).out.mono ?_
    rintro e wc ⟨rfl, hb3⟩
    have hbc := hby.trans (hb3.mono hby.size)
    have hR2 := hR.below hb3 hR.lt
    clear t0 t1 t2 t3 hT3 hR hb
    have hbz := fun o => hbc.alloc hbc.size o
    have r0 := fun o => Lib.cell?_alloc_some o (hR2.cell 0 rfl)
    have r1 := fun o => Lib.cell?_alloc_some o (hR2.cell 1 rfl)
    have r2 := fun o => Lib.cell?_alloc_some o (hR2.cell 2 rfl)
    go_wp2_with (go_at_call 18; refine (known_tb _).mono ?_; rintro e wf ⟨rfl, hb6⟩)
    go_ret
    exact ⟨by simp [*], (hbz _).trans (hb6.mono (hbz _).size)⟩

/-! ### THE ROW's STEP around the walk. -/
theorem own_tableRound : ownKnob Try.prog.godebug = none := by kernel_rfl
theorem laidOut_tableRound : laidOutB Try.prog = true := by kernel_rfl
set_option maxRecDepth 100000 in
theorem lifted_tableRound (os : Os) (started : os.Started) (H : Type) (enc : TypeId × Value → H) :
    ReturnsInHanded {} Try.checked os 11 .any (Rows.tableRoundSpec.pre6 enc Try.prog Try.f11 Rows.tableRoundRow.domain false) (Rows.tableRoundSpec.post enc Try.prog Try.f11 false true false false) := by
  refine returnsInHanded_of_change (C := Try.checked) own_tableRound started (by kernel_rfl) Try.func11
    (ChangeSpec.witness6 (enc := enc) (C := Try.checked) false ⟨#[], #[.int .i64 0, .int .i64 0], []⟩ 8 (by kernel_rfl) (by kernel_rfl) (by kernel_rfl) (by kernel_rfl)) ?_
  intro W base args ds gs before hval0 hW hcnd _
  have hval : ∀ (j : Nat) t v, Try.f11.params[j]? = some t → args[j]? = some v → Value.okWide Try.prog W .any base t v := hval0
  have hW' := hW
  obtain ⟨p, q, hA0, hV, rfl, hfz, hnd⟩ := hW
  have hA : DataW.TrodAll enc Try.prog W 0 (fun _ => true) true Try.f11.params.toList args.toList ds p := hA0
  rw [Try.params11] at hA hval
  obtain ⟨v0, vs0, d0, ds0, p0, q0, hargs, rfl, rfl, h0, r0⟩ := trodAll_cons hA
  obtain ⟨v1, vs1, d1, ds1, p1, q1, rfl, rfl, rfl, h1, r1⟩ := trodAll_cons r0
  obtain ⟨rfl, rfl, rfl⟩ := trodAll_nil r1
  obtain rfl : args = #[v0, v1] := by cases args; simp_all
  obtain ⟨rfl, rfl⟩ := trodVars_none hV
  obtain ⟨a0, rfl, rfl, rfl, w0⟩ := open_int Try.underlying3 (hval 0 3 v0 rfl rfl) h0
  obtain ⟨a1, rfl, rfl, rfl, w1⟩ := open_int Try.underlying3 (hval 1 3 v1 rfl rfl) h1
  clear hA0 hval0
  refine (walk_tableRound a0 a1 W (bounds_i64 w0) (bounds_i64 w1)).mono fun e W' ⟨he, bel⟩ => ?_
  subst he
  exact ⟨_, rfl, _, _, _, [], _, [], hW', trodAll_mk1 (shut_bool Try.underlying4 _), (trodAll_cons_mk (shut_int Try.underlying3 w0) (trodAll_cons_mk (shut_int Try.underlying3 w1) trodAll_mk0)), rfl, bel.frame _, fun h => by cases h⟩

theorem over_tableRound : Rows.tableRoundRow.holds Try.pinned (OpenSpec.ofChange Rows.tableRoundSpec) :=
  OpenClaim.holds_of_wide 11 Try.f11 rfl rfl rfl rfl rfl rfl rfl ⟨rfl, rfl, rfl, rfl, rfl⟩ rfl rfl rfl rfl rfl (by kernel_rfl) Try.func11 (by kernel_rfl)
    (of_decide_eq_true (by kernel_rfl)) (by unfold Func.isWrapper; first | (rw [if_pos (by decide +kernel)]; kernel_rfl) | (rw [if_neg (by decide +kernel)]; exact ⟨rfl, rfl⟩))
    (fun os started H enc _ => lifted_tableRound os started H enc)

theorem proved_tableRound : Rows.TableRoundSaid := over_tableRound
end Go.Proofs.Ytpkdfdlchidmlaa
