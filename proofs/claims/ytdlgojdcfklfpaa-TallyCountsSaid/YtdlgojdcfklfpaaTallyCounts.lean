/- TallyCounts holds: each Right and Wrong counts once, also of the same node. For all lists and nodes. -/
import Derived.Test.YtdlgojdcfklfpaaTlD
import Derived.Test.YtdlgojdcfklfpaaTlK
import Derived.Test.YtdlgojdcfklfpaaOpen
import Derived.Test.YtdlgojdcfklfpaaBoolsO
namespace Go.Proofs.Ytdlgojdcfklfpaa
open Go.ChangeShapes Go.WideShapes Go.ChangeAt Go.RowKit

theorem right_a (s : TS) (n : Int) (hn : 0 ≤ n ∧ n < 8) : (s.right n).a = s.a + 1 ∧ (s.right n).f = s.f := by
  unfold TS.right
  rw [if_pos hn]
  exact ⟨rfl, rfl⟩
theorem wrong_f (s : TS) (n : Int) (hn : 0 ≤ n ∧ n < 8) : (s.wrong n).a = s.a ∧ (s.wrong n).f = s.f + 1 := by
  unfold TS.wrong
  rw [if_pos hn]
  exact ⟨rfl, rfl⟩
set_option maxRecDepth 100000 in
set_option maxHeartbeats 2000000 in
theorem walk_tallyCounts (A : Option Addr) (N c : Nat) (f : Nat → Bool) (n : Int) (w : World) (h : InBools w (.slice A N c) N f) (_hn : -9223372036854775808 ≤ n ∧ n ≤ 9223372036854775807) :
    Calls Try.prog 8 #[.slice A N c, .int .i64 n] w fun e w' => e = .returned (.bool true) ∧ Below w.heap.size w w' := by
  obtain ⟨A', c', hv, v1, v2, v3⟩ := h.at_
  cases hv
  unfold maxLen at v2
  by_cases call : N ≤ 100 ∧ 0 ≤ n ∧ n ≤ 7
  case neg =>
    clear v3 h
    go_enter Try.func8, Try.ntmps8
    go_wp2
    all_goals first
      | (exfalso; omega)
      | (go_ret; exact ⟨rfl, Below.refl _ _⟩)
      | skip
  obtain ⟨c1, c2, c3⟩ := call
  have d1 : decide ((100 : Int) < ((N : Nat) : Int)) = false := decide_eq_false (by omega)
  have d2 : decide (n < 0) = false := decide_eq_false (by omega)
  have d3 : decide ((7 : Int) < n) = false := decide_eq_false (by omega)
  have hd : 0 ≤ n ∧ n < 8 := by omega
  have HF : Hid (0 < N → ∃ b off, A = some ⟨b, off, none⟩ ∧ ∀ W, Below w.heap.size w W → ∀ k, k < N → W.cell? ⟨b, off + k, none⟩ = some (.bool (f k))) := Lib.hid fun h0 => by
    obtain ⟨b, off, hA, hb, hc⟩ := v3 h0
    exact ⟨b, off, hA, fun W hW k hk => (hW.cell hb).trans (hc k hk)⟩
  have hN := fun W => Lib.hid (new_tl 0 W)
  have HR := fun g s W (h : TAt 45 W g s) (ha : s.a < 1000) => Lib.hid (right_tl g s n W h ha)
  have HW := fun g s W (h : TAt 45 W g s) (hf : s.f < 1000) => Lib.hid (wrong_tl g s n W h hf)
  have HX := fun g s W (h : TAt 45 W g s) => Lib.hid (miss_tl g s (7 - n) W h)
  have HJ := fun g s W (h : TAt 45 W g s) => Lib.hid (join_tl g s (7 - n) W h)
  have HC := fun g s W (h : TAt 45 W g s) => Lib.hid (counts_tl g s W h)
  have HI := fun g s W (h : TAt 45 W g s) => Lib.hid (is_tl g s (7 - n) W h)
  have hj : ∀ s : TS, s.m < 256 → ((s.miss (7 - n)).join (7 - n)).a = s.a ∧ ((s.miss (7 - n)).join (7 - n)).f = s.f ∧ isB ((s.miss (7 - n)).join (7 - n)).m (7 - n) = true := fun s hs => by
    have h7 : 0 ≤ 7 - n ∧ 7 - n < 8 := by omega
    simp only [TS.miss, TS.join, h7, and_self, if_true, isB, decide_true, Bool.true_and, true_and]
    rw [ins_del hs (by omega)]
    exact ins_has hs (by omega)
  clear v3 h
  go_enter Try.func8, Try.ntmps8
  go_wp2_with fail
  refine (hN _).out.mono ?_
  rintro _ w1 ⟨rfl, h1, b1, -⟩
  go_wp2_with fail
  go_loopw [6, 7, 8] (fun a f i wr => ∃ (k : Nat) (s : TS), k ≤ N ∧ i = .int .i64 k ∧ a = .int .i64 (s.a : Nat) ∧ f = .int .i64 (s.f : Nat) ∧ s.a + s.f = k ∧ TAt 45 wr w.heap.size s ∧ Below w.heap.size w wr) (fun _ _ i _ => N - (intOf i).toNat)
  case atStart => exact ⟨0, _, by omega, rfl, rfl, rfl, rfl, h1, b1⟩
  case round =>
    clear h1 b1
    obtain ⟨k, s, hk, rfl, rfl, rfl, hs, h2, b2⟩ := hrel
    by_cases hlt : k < N
    · have r1 : decide ((k : Int) < (N : Int)) = true := decide_eq_true (by omega)
      obtain ⟨b, off, rfl, HG⟩ := HF.out (by omega)
      have hc := HG _ b2 k hlt
      clear HG HF
      cases hfk : f k
      case' false =>
        rw [hfk] at hc
        go_wp2_with fail
        refine (HW _ _ _ h2 (by omega)).out.mono ?_
      case' true =>
        rw [hfk] at hc
        go_wp2_with fail
        refine (HR _ _ _ h2 (by omega)).out.mono ?_
      all_goals
        rintro _ w3 ⟨rfl, h3, o3⟩
        have b3 := b2.trans (o3.below (Nat.le_refl _) h2.lt)
        clear h2 b2 o3 hc
        go_wp2
        go_roundw
        case rel => exact ⟨k + 1, _, by omega, by go_num, by first | (rw [(wrong_f s n hd).1]) | (rw [(right_a s n hd).1]; go_num), by first | (rw [(wrong_f s n hd).2]; go_num) | (rw [(right_a s n hd).2]), by first | (rw [(wrong_f s n hd).1, (wrong_f s n hd).2]; omega) | (rw [(right_a s n hd).1, (right_a s n hd).2]; omega), h3, b3⟩
        case measure => simp [intOf]; omega
    · obtain rfl : k = N := by omega
      obtain ⟨j1, j2, j3⟩ := hj s h2.2
      go_wp2_with fail
      refine (HX _ _ _ h2).out.mono ?_
      rintro _ w3 ⟨rfl, h3, o3⟩
      have b3 := b2.trans (o3.below (Nat.le_refl _) h2.lt)
      clear h2 b2 o3
      go_wp2_with fail
      refine (HJ _ _ _ h3).out.mono ?_
      rintro _ w4 ⟨rfl, h4, o4⟩
      have b4 := b3.trans (o4.below (Nat.le_refl _) h3.lt)
      clear h3 b3 o4
      generalize (s.miss (7 - n)).join (7 - n) = u at *
      have HC1 := HC w.heap.size u
      have HI1 := HI w.heap.size u
      rw [j1, j2] at HC1
      rw [j3] at HI1
      go_wp2_with fail
      refine (HC1 _ h4).out.mono ?_
      rintro _ _ ⟨rfl, mm, rfl⟩
      replace h4 := h4.drewN mm
      replace b4 := below_drewN b4 mm
      generalize World.drewN _ mm = ww at *
      clear mm
      go_wp2_with fail
      refine (HI1 _ h4).out.mono ?_
      rintro _ _ ⟨rfl, mm, rfl⟩
      replace h4 := h4.drewN mm
      replace b4 := below_drewN b4 mm
      generalize World.drewN _ mm = ww at *
      clear mm
      go_wp2_with fail
      refine (known_tl _).mono ?_
      rintro _ wk ⟨rfl, bk⟩
      replace bk := b4.trans (bk.mono b4.size)
      go_wp2
      go_ret
      exact ⟨rfl, bk⟩

/-! ### THE ROW's STEP around the walk. -/
theorem own_tallyCounts : ownKnob Try.prog.godebug = none := by kernel_rfl
theorem laidOut_tallyCounts : laidOutB Try.prog = true := by kernel_rfl
set_option maxRecDepth 100000 in
theorem lifted_tallyCounts (os : Os) (started : os.Started) (H : Type) (enc : TypeId × Value → H) :
    ReturnsInHanded {} Try.checked os 8 .any (Rows.tallyCountsSpec.pre6 enc Try.prog Try.f8 Rows.tallyCountsRow.domain false) (Rows.tallyCountsSpec.post enc Try.prog Try.f8 false true false false) := by
  refine returnsInHanded_of_change (C := Try.checked) own_tallyCounts started (by kernel_rfl) Try.func8
    (ChangeSpec.witness6 (enc := enc) (C := Try.checked) false ⟨#[], #[.slice none 0 0, .int .i64 0], []⟩ 8 (by kernel_rfl) (by kernel_rfl) (by kernel_rfl) (by kernel_rfl)) ?_
  intro W base args ds gs before hval0 hW hcnd _
  have hval : ∀ (j : Nat) t v, Try.f8.params[j]? = some t → args[j]? = some v → Value.okWide Try.prog W .any base t v := hval0
  have hW' := hW
  obtain ⟨p, q, hA0, hV, rfl, hfz, hnd⟩ := hW
  have hA : DataW.TrodAll enc Try.prog W 0 (fun _ => true) true Try.f8.params.toList args.toList ds p := hA0
  rw [Try.params8] at hA hval
  obtain ⟨v0, vs0, d0, ds0, p0, q0, hargs, rfl, rfl, h0, r0⟩ := trodAll_cons hA
  obtain ⟨v1, vs1, d1, ds1, p1, q1, rfl, rfl, rfl, h1, r1⟩ := trodAll_cons r0
  obtain ⟨rfl, rfl, rfl⟩ := trodAll_nil r1
  obtain rfl : args = #[v0, v1] := by cases args; simp_all
  obtain ⟨rfl, rfl⟩ := trodVars_none hV
  obtain ⟨A0, n0, c0, rfl⟩ := okWide_slice Try.underlying42 (hval 0 42 v0 rfl rfl)
  have k0 := h0
  have lt0 : ∀ x ∈ p0, x.block < W.heap.size := by obtain ⟨m, hm⟩ := k0; exact DataW.trod_lt m _ _ _ hm
  obtain ⟨f0, s0⟩ := sees_bools Try.underlying42 Try.underlying4 (by kernel_rfl) h0
  obtain ⟨a1, rfl, rfl, rfl, w1⟩ := open_int Try.underlying3 (hval 1 3 v1 rfl rfl) h1
  clear hA0 hval0
  refine (walk_tallyCounts A0 n0 c0 f0 a1 W s0 (bounds_i64 w1)).mono fun e W' ⟨he, bel⟩ => ?_
  subst he
  exact ⟨_, rfl, _, _, _, [], _, [], hW', trodAll_mk1 (shut_bool Try.underlying4 _), (trodAll_cons_mk (Below.trod laidOut_tallyCounts (by kernel_rfl) (of_decide_eq_true (by kernel_rfl)) k0 bel lt0) (trodAll_cons_mk (shut_int Try.underlying3 w1) trodAll_mk0)), rfl, bel.frame _, fun h => by cases h⟩

theorem over_tallyCounts : Rows.tallyCountsRow.holds Try.pinned (OpenSpec.ofChange Rows.tallyCountsSpec) :=
  OpenClaim.holds_of_wide 8 Try.f8 rfl rfl rfl rfl rfl rfl rfl ⟨rfl, rfl, rfl, rfl, rfl⟩ rfl rfl rfl rfl rfl (by kernel_rfl) Try.func8 (by kernel_rfl)
    (of_decide_eq_true (by kernel_rfl)) (by unfold Func.isWrapper; first | (rw [if_pos (by decide +kernel)]; kernel_rfl) | (rw [if_neg (by decide +kernel)]; exact ⟨rfl, rfl⟩))
    (fun os started H enc _ => lifted_tallyCounts os started H enc)

theorem proved_tallyCounts : Rows.TallyCountsSaid := over_tallyCounts
end Go.Proofs.Ytdlgojdcfklfpaa
