/- GuardSilence holds: a guardian forgets the slot behind so many silent ones, and not ahead of that. For all numbers. -/
import Derived.Test.YtjenppaikmmbjaaGdS
import Derived.Test.YtjenppaikmmbjaaGdO
namespace Go.Proofs.Ytjenppaikmmbjaa
open Go.ChangeShapes Go.WideShapes Go.ChangeAt Go.RowKit

set_option maxRecDepth 100000 in
set_option maxHeartbeats 8000000 in
theorem walk_guardSilence (n qu : Int) (w : World) (_h1 : -9223372036854775808 ≤ n ∧ n ≤ 9223372036854775807) (_h2 : -9223372036854775808 ≤ qu ∧ qu ≤ 9223372036854775807) :
    Calls Try.prog 5 #[.int .i64 n, .int .i64 qu] w fun e w' => e = .returned (.bool true) ∧ Below w.heap.size w w' := by
  by_cases hok : (4 ≤ n ∧ n ≤ 8) ∧ 0 ≤ qu ∧ qu ≤ 30
  case neg =>
    go_enter Try.func5, Try.ntmps5
    go_wp2_with fail
    all_goals first
      | (exfalso; omega)
      | (go_ret; exact ⟨rfl, Below.refl _ _⟩)
      | skip
  obtain ⟨⟨g4, g8⟩, p0, p1⟩ := hok
  obtain ⟨N, rfl⟩ := Int.eq_ofNat_of_zero_le (show 0 ≤ n by omega)
  obtain ⟨K, rfl⟩ := Int.eq_ofNat_of_zero_le p0
  have q1 : decide ((N : Int) < 4) = false := decide_eq_false (by omega)
  have q2 : decide ((8 : Int) < (N : Int)) = false := decide_eq_false (by omega)
  have q3 : decide ((K : Int) < 0) = false := decide_eq_false (by omega)
  have q4 : decide ((30 : Int) < (K : Int)) = false := decide_eq_false (by omega)
  have hKn := fun W => Lib.hid (known_gd W)
  have hS := fun W => Lib.hid (some_gd N 1 (by omega) (by omega) W)
  unfold someT tabV at hS
  simp only at hS
  have hN := fun v W B (h : OwnsD W B v (someL N)) => Lib.hid (show Calls Try.prog 10 #[.agg #[v, .int .i64 1, .int .i64 10, .int .i64 13]] W fun e w' => ∃ g, e = .returned (.tuple #[.pointer (some ⟨g, 0, none⟩), .int .i64 0]) ∧ W.heap.size ≤ g ∧ GAt w' g (newG (someT N 1)) ∧ Below W.heap.size W w' from new_some N 1 (by omega) (by omega) (by omega) v W h)
  have hE := fun W => Lib.hid (enc_law (k := 3) (s := 0) (by omega) (by omega) W)
  have hEnd := fun g v W h hv => Lib.hid (end_cold N (by omega) (by omega) 0 (by omega) g v W h hv)
  have hSil := fun k g W h => Lib.hid (end_sil N k (by omega) (by omega) g W h)
  have hK := fun g W (h : GAt W g (silG N K)) => Lib.hid (knows_gd g _ W h)
  rw [silG_start N (by omega)] at hEnd
  have hfin : (K < 2 * N ∧ (silG N K).slot = (1 + K) % N ∧ (silG N K).kn = true) ∨ (¬ K < 2 * N ∧ (silG N K).slot = 0 ∧ (silG N K).kn = false) := by
    by_cases h : K < 2 * N
    · exact .inl ⟨h, by simp [silG, h], by simp [silG, h]⟩
    · exact .inr ⟨h, by simp [silG, h], by simp [silG, h]⟩
  generalize (silG N K).slot = sl at *
  generalize (silG N K).kn = kn at *
  generalize newG (someT N 1) = s0 at *
  generalize someL N = ls at *
  generalize (lawF 3 0).bytes = bs at *
  have z1 : IntKind.i64.wrap (2 * (N : Int)) = 2 * (N : Int) := IntWalk.i64_in _ (by omega)
  have z2 : IntKind.i64.wrap (1 + (K : Int)) = 1 + (K : Int) := IntWalk.i64_in _ (by omega)
  have z3 : Int.tmod (1 + (K : Int)) (N : Int) = (((1 + K) % N : Nat) : Int) := by
    rw [Int.tmod_eq_emod_of_nonneg (by omega)]
    simp
  have z4 : ¬ (N : Int) = 0 := by omega
  generalize hmm : (1 + K) % N = m at *
  clear hmm
  go_enter Try.func5, Try.ntmps5
  go_wp2_with fail
  refine (hS _).out.mono ?_
  rintro e w1 ⟨v1, rfl, ho1, hb1⟩
  go_wp2_with fail
  refine (hN v1 w1 _ ho1).out.mono ?_
  rintro e w2 ⟨g, rfl, hg, hG, hb⟩
  have hb2 := hb1.trans (hb.mono hb1.size)
  have hg2 := Nat.le_trans hb1.size hg
  clear hb hb1 ho1
  go_wp2_with fail
  refine (hE w2).out.mono ?_
  rintro e w3 ⟨v3, rfl, ho3, hb⟩
  have hb3 := hb2.trans (hb.mono hb2.size)
  have hG3 := hG.below hb hG.lt
  clear hb hb2 hG
  have hv3 := ho3.sees
  obtain ⟨A3, c3, rfl, -⟩ := hv3.at_
  go_wp2_with fail
  refine (hEnd g _ w3 hG3 hv3).out.mono ?_
  rintro e w4 ⟨rfl, hG4, hO⟩
  have hb4 := hb3.trans (hO.below hg2 hG3.lt)
  clear hO hG3 ho3 hv3 hb3
  go_wp2_with fail
  go_loopw [9] (fun i wr => ∃ k : Nat, k ≤ K ∧ i = .int .i64 k ∧ GAt wr g (silG N k) ∧ Below w.heap.size w wr) (fun i _ => K - (intOf i).toNat)
  case atStart => exact ⟨0, by omega, rfl, hG4, hb4⟩
  case round =>
    obtain ⟨k, hk, rfl, hGk, hbk⟩ := hrel
    by_cases hlt : k < K
    · have r1 : decide ((k : Int) < (K : Int)) = true := decide_eq_true (by omega)
      go_wp2_with fail
      refine (hSil k g wr hGk).out.mono ?_
      rintro e w5 ⟨rfl, hG5, hO⟩
      have hb5 := hbk.trans (hO.below hg2 hGk.lt)
      go_wp2
      go_roundw
      case rel => exact ⟨k + 1, by omega, by go_num, hG5, hb5⟩
      case measure => simp [intOf]; omega
    · have r1 : decide ((k : Int) < (K : Int)) = false := decide_eq_false (by omega)
      obtain rfl : k = K := by omega
      go_wp2_with fail
      refine (hK g wr hGk).out.mono ?_
      rintro e w5 ⟨rfl, hb⟩
      have hb5 := hbk.trans (hb.mono hbk.size)
      rcases hfin with ⟨hq, rfl, rfl⟩ | ⟨hq, rfl, rfl⟩
      · have r2 : decide ((k : Int) < 2 * (N : Int)) = true := decide_eq_true (by omega)
        go_wp2_with fail
        refine (hKn _).out.mono ?_
        rintro e w6 ⟨rfl, hb⟩
        go_wp2
        go_ret
        exact ⟨rfl, hb5.trans (hb.mono hb5.size)⟩
      · have r2 : decide ((k : Int) < 2 * (N : Int)) = false := decide_eq_false (by omega)
        go_wp2_with fail
        refine (hKn _).out.mono ?_
        rintro e w6 ⟨rfl, hb⟩
        go_wp2
        go_ret
        exact ⟨rfl, hb5.trans (hb.mono hb5.size)⟩

/-! ### THE ROW's STEP around the walk. -/
theorem own_guardSilence : ownKnob Try.prog.godebug = none := by kernel_rfl
theorem laidOut_guardSilence : laidOutB Try.prog = true := by kernel_rfl
set_option maxRecDepth 100000 in
theorem lifted_guardSilence (os : Os) (started : os.Started) (H : Type) (enc : TypeId × Value → H) :
    ReturnsInHanded {} Try.checked os 5 .any (Rows.guardSilenceSpec.pre6 enc Try.prog Try.f5 Rows.guardSilenceRow.domain false) (Rows.guardSilenceSpec.post enc Try.prog Try.f5 false true false false) := by
  refine returnsInHanded_of_change (C := Try.checked) own_guardSilence started (by kernel_rfl) Try.func5
    (ChangeSpec.witness6 (enc := enc) (C := Try.checked) false ⟨#[], #[.int .i64 0, .int .i64 0], []⟩ 8 (by kernel_rfl) (by kernel_rfl) (by kernel_rfl) (by kernel_rfl)) ?_
  intro W base args ds gs before hval0 hW hcnd _
  have hval : ∀ (j : Nat) t v, Try.f5.params[j]? = some t → args[j]? = some v → Value.okWide Try.prog W .any base t v := hval0
  have hW' := hW
  obtain ⟨p, q, hA0, hV, rfl, hfz, hnd⟩ := hW
  have hA : DataW.TrodAll enc Try.prog W 0 (fun _ => true) true Try.f5.params.toList args.toList ds p := hA0
  rw [Try.params5] at hA hval
  obtain ⟨v0, vs0, d0, ds0, p0, q0, hargs, rfl, rfl, h0, r0⟩ := trodAll_cons hA
  obtain ⟨v1, vs1, d1, ds1, p1, q1, rfl, rfl, rfl, h1, r1⟩ := trodAll_cons r0
  obtain ⟨rfl, rfl, rfl⟩ := trodAll_nil r1
  obtain rfl : args = #[v0, v1] := by cases args; simp_all
  obtain ⟨rfl, rfl⟩ := trodVars_none hV
  obtain ⟨a0, rfl, rfl, rfl, w0⟩ := open_int Try.underlying3 (hval 0 3 v0 rfl rfl) h0
  obtain ⟨a1, rfl, rfl, rfl, w1⟩ := open_int Try.underlying3 (hval 1 3 v1 rfl rfl) h1
  clear hA0 hval0
  refine (walk_guardSilence a0 a1 W (bounds_i64 w0) (bounds_i64 w1)).mono fun e W' ⟨he, bel⟩ => ?_
  subst he
  exact ⟨_, rfl, _, _, _, [], _, [], hW', trodAll_mk1 (shut_bool Try.underlying4 _), (trodAll_cons_mk (shut_int Try.underlying3 w0) (trodAll_cons_mk (shut_int Try.underlying3 w1) trodAll_mk0)), rfl, bel.frame _, fun h => by cases h⟩

theorem over_guardSilence : Rows.guardSilenceRow.holds Try.pinned (OpenSpec.ofChange Rows.guardSilenceSpec) :=
  OpenClaim.holds_of_wide 5 Try.f5 rfl rfl rfl rfl rfl rfl rfl ⟨rfl, rfl, rfl, rfl, rfl⟩ rfl rfl rfl rfl rfl (by kernel_rfl) Try.func5 (by kernel_rfl)
    (of_decide_eq_true (by kernel_rfl)) (by unfold Func.isWrapper; first | (rw [if_pos (by decide +kernel)]; kernel_rfl) | (rw [if_neg (by decide +kernel)]; exact ⟨rfl, rfl⟩))
    (fun os started H enc _ => lifted_guardSilence os started H enc)

theorem proved_guardSilence : Rows.GuardSilenceSaid := over_guardSilence
end Go.Proofs.Ytjenppaikmmbjaa
