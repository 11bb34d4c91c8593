/- AlarmLatches holds: what rang rings on till it is acknowledged. For all bytes, bounds and numbers. -/
import Derived.Test.YtcingamdapdpbaaAlL
import Derived.Test.YtcingamdapdpbaaOpen
import Derived.StillTailTactics
namespace Go.Proofs.Ytcingamdapdpbaa
open Go.ChangeShapes Go.WideShapes Go.ChangeAt Go.RowKit

set_option maxRecDepth 100000 in
set_option maxHeartbeats 2000000 in
theorem walk_alarmLatches (b lo hi n : Int) (w : World) (hb : 0 ≤ b ∧ b ≤ 255) (_h1 : -9223372036854775808 ≤ lo ∧ lo ≤ 9223372036854775807) (_h2 : -9223372036854775808 ≤ hi ∧ hi ≤ 9223372036854775807) (_h3 : -9223372036854775808 ≤ n ∧ n ≤ 9223372036854775807) :
    Calls Try.prog 4 #[.int .u8 b, .int .i64 lo, .int .i64 hi, .int .i64 n] w fun e w' => e = .returned (.bool true) ∧ Below w.heap.size w w' := by
  by_cases call : 0 ≤ lo ∧ hi ≤ 255 ∧ lo ≤ hi ∧ 0 ≤ n ∧ n ≤ 20
  case neg =>
    go_enter Try.func4, Try.ntmps4
    go_wp2
    all_goals first
      | (exfalso; omega)
      | (go_ret; exact ⟨rfl, Below.refl _ _⟩)
      | skip
  obtain ⟨k1, k2, k3, k4, k5⟩ := call
  obtain ⟨N, rfl⟩ : ∃ t : Nat, n = t := ⟨n.toNat, by omega⟩
  have d1 : decide (lo < 0) = false := decide_eq_false (by omega)
  have d2 : decide ((255 : Int) < hi) = false := decide_eq_false (by omega)
  have d3 : decide (hi < lo) = false := decide_eq_false (by omega)
  have d4 : decide (((N : Nat) : Int) < 0) = false := decide_eq_false (by omega)
  have d5 : decide ((20 : Int) < ((N : Nat) : Int)) = false := decide_eq_false (by omega)
  have hmf : ∀ (fn : Fn) (first cap : Array Value) (w : World), (Instr.makeFunc fn first cap).run Try.prog w = .ok (.func fn first cap) w := fun _ _ _ _ => rfl
  have hm : (⟨0, lo, hi, 5⟩ : R4).may := by
    unfold R4.may
    dsimp only
    omega
  have H1 := fun W k hk => Lib.hid (new1 ⟨0, lo, hi, 5⟩ hm W 23 k hk)
  have hX := Blk.new w w.heap.size rfl #[.int .i64 0, .int .i64 lo, .int .i64 hi, .int .i64 5] 23
  have b0 := (Below.refl w.heap.size w).alloc (Nat.le_refl _) (.cells #[.int .i64 0, .int .i64 lo, .int .i64 hi, .int .i64 5] 23)
  go_enter Try.func4, Try.ntmps4
  go_wp2_with fail
  refine (H1 _ _ (by simp)).out.mono ?_
  rintro _ w1 ⟨ga, rfl, hga, hA, b1⟩
  replace hX := hX.below b1 (by simp)
  replace b1 := b0.trans (b1.mono (by simp))
  have hga : w.heap.size < ga := by have : (w.alloc (.cells #[.int .i64 0, .int .i64 lo, .int .i64 hi, .int .i64 5] 23)).heap.size = w.heap.size + 1 := by simp
                                    omega
  replace hA := A1.start hA
  have hA0 := hA
  clear H1 b0
  go_wp2_with fail
  have hk := Below.refl w1.heap.size w1 |>.alloc (Nat.le_refl _) (.cells (stc1 (w1.heap.size + 1)) 38) |>.alloc (by simp) (.cells #[.int .u8 b] 5)
  have hP := pat_first [ga] w1 b 38 5 (fun f hf => by rw [List.mem_singleton.1 hf]; exact hA.lt) (by omega)
  have hA := AAt.more hA hk (f := w1.heap.size) (Nat.le_refl _)
  have hgs : ga < w1.heap.size := hA0.lt
  replace hX := hX.below hk hX.lt
  replace b1 := b1.trans (hk.mono b1.size)
  clear hk
  refine (look1 [w1.heap.size, ga] [ga] _ ga w1.heap.size _ 0 0 _ _ hA (by simp) hP).mono ?_
  rintro _ w2 ⟨rfl, hA2, o2⟩
  replace hX := hX.only o2 (by omega)
  replace hP := hP.kq (o2.kq (F := [ga]) (by simp)) (by simp; omega)
  replace b1 := b1.trans (o2.below (by omega) hA.lt)
  clear o2 hA hA0
  generalize w1.heap.size = gs at *
  rw [Nat.zero_or] at hA2
  have hy : whyS ⟨0, lo, hi, 5⟩ (sd1 b) = whyM ⟨0, lo, hi, 5⟩ [b] 0 true := rfl
  rw [hy] at hA2
  clear hy
  obtain ⟨A0, c0, s0, s1, s2, hS⟩ := hP.first
  have x0 := hX.cell 0 (x := .int .i64 0) rfl
  have x1 := hX.cell 1 (x := .int .i64 lo) rfl
  have x2 := hX.cell 2 (x := .int .i64 hi) rfl
  have x3 := hX.cell 3 (x := .int .i64 5) rfl
  have HW := fun W (hW : Below w2.heap.size w2 W) => Lib.hid (why_al ⟨0, lo, hi, 5⟩ _ [b] 0 true w2.heap.size W (hS.below hW) (byt1 (by omega)))
  have hy16 : whyM ⟨0, lo, hi, 5⟩ [b] 0 true < 16 := whyM_lt _ _ _ _
  generalize whyM ⟨0, lo, hi, 5⟩ [b] 0 true = y at *
  clear hX hS
  go_wp2_with fail
  go_still_tail 6, (by kernel_rfl)
  change wpList _ _ _ _ _ w2.drew
  go_wp2_with fail
  refine (HW _ (Below.refl _ _).drew).out.mono ?_
  rintro _ w3 ⟨rfl, b3⟩
  have b3 : Below w2.heap.size w2 w3 := ((Below.refl w2.heap.size w2).drew).trans b3
  replace hP := hP.below b3
  have hA3 := A1.below hA2 b3
  replace b1 := b1.trans (b3.mono b1.size)
  clear HW hA2 b3 x0 x1 x2 x3 s0 s1 s2
  obtain ⟨A0, c0, s0, s1, s2, -⟩ := hP.first
  have f0 := hP.frozen 0
  have wl : IntKind.u8.wrap lo = lo := IntWalk.u8_in _ (by omega)
  have hgl := hP.lt
  have hal := A1.lt hA3
  have hk := (Below.refl w3.heap.size w3).alloc (Nat.le_refl _) (.cells #[.int .u8 lo] 5)
  have hP2 := (hP.below hk).sayd (i := 0) (by omega) (dat1 [gs, ga] w3 lo 5 _ rfl (fun f hf => by
    rcases List.mem_cons.1 hf with rfl | hf
    · exact hgl
    · rw [List.mem_singleton.1 hf]; exact hal)) (byt1 (by omega))
  have hA4 := (A1.below hA3 hk).only ((Only.refl gs _).set 0 (.slice (some ⟨w3.heap.size, 0, none⟩) 1 1)) (by omega) (by simp)
  have b4 := (b1.alloc b1.size (.cells #[.int .u8 lo] 5)).setCell (p := ⟨gs, 0, none⟩) (by show w.heap.size ≤ gs; omega) (.slice (some ⟨w3.heap.size, 0, none⟩) 1 1)
  have hq : whyS ⟨0, lo, hi, 5⟩ { sd1 b with d := upd (sd1 b).d 0 [lo] } = 0 := by
    show whyM ⟨0, lo, hi, 5⟩ [lo] 0 true = 0
    unfold whyM
    simp
    omega
  rw [show (0 * 3 : Nat) = 0 from rfl, World.setCell_alloc_past _ _ _ _ hgl] at hP2
  rw [World.setCell_alloc_past _ _ _ _ hgl] at hA4 b4
  clear hP hA3 b1 hk
  go_wp2_with fail
  generalize (⟨upd (sd1 b).d 0 [lo], (sd1 b).a, (sd1 b).g⟩ : MS) = sd at *
  go_loopw [14] (fun i wr => ∃ k : Nat, k ≤ N ∧ i = .int .i64 k ∧ A1 [gs, ga] wr ga ⟨0, lo, hi, 5⟩ (if k = 0 then y else 0) y ∧ PAt 38 [ga] wr gs sd ∧ Below w.heap.size w wr) (fun i _ => N - (intOf i).toNat)
  case atStart => exact ⟨0, by omega, rfl, hA4, hP2, b4⟩
  case round =>
    clear hP2 hA4 b4 s0 s1 s2 f0
    obtain ⟨k, hk, rfl, hA, hP, b⟩ := hrel
    by_cases hlt : k < N
    · have r1 : decide ((k : Int) < (N : Int)) = true := decide_eq_true (by omega)
      go_wp2_with fail
      refine (look1 [gs, ga] [ga] _ ga gs _ _ y sd _ hA (by simp) hP).mono ?_
      rintro _ w5 ⟨rfl, h', o⟩
      rw [hq, Nat.or_zero] at h'
      replace hP := hP.kq (o.kq (F := [ga]) (by simp)) (by simp; omega)
      replace b := b.trans (o.below (by omega) (A1.lt hA))
      go_wp2
      go_roundw
      case rel => exact ⟨k + 1, by omega, by go_num, (by rw [if_neg (Nat.succ_ne_zero k)]; exact h'), hP, b⟩
      case measure => simp [intOf]; omega
    · obtain rfl : k = N := by omega
      have r1 : decide ((k : Int) < (k : Int)) = false := decide_eq_false (by omega)
      clear hlt hP hq
      go_wp2_with fail
      refine (rings1 _ ga _ _ _ _ hA).mono ?_
      rintro _ _ ⟨rfl, rfl⟩
      go_wp2_with fail
      refine (ack1 _ ga _ _ _ _ hA (by simp)).mono ?_
      rintro _ w6 ⟨rfl, h', o⟩
      replace b := b.trans (o.below (by omega) (A1.lt hA))
      clear o hA
      by_cases h0 : k = 0
      · subst h0
        rw [if_pos rfl] at h'
        rw [if_pos rfl, if_pos (andn_self hy16)]
        rw [if_pos (andn_self hy16)] at h'
        go_wp2_with fail
        refine (rings1 _ ga _ _ _ _ h').mono ?_
        rintro _ _ ⟨rfl, rfl⟩
        go_wp2_with fail
        refine (known_al _).mono ?_
        rintro _ wk ⟨rfl, bk⟩
        replace bk := b.trans (bk.mono b.size)
        go_wp2
        go_ret
        exact ⟨rfl, bk⟩
      · have q0 : ((k : Int) == 0) = false := by rw [beq_eq_false_iff_ne]; omega
        rw [if_neg h0] at h'
        rw [if_neg h0, andn_zero hy16]
        rw [andn_zero hy16] at h'
        by_cases hy0 : y = 0
        · subst hy0
          rw [if_pos rfl] at h'
          rw [if_pos rfl]
          go_wp2_with fail
          refine (now1 _ ga _ _ _ _ h').mono ?_
          rintro _ _ ⟨rfl, rfl⟩
          go_wp2_with fail
          refine (rings1 _ ga _ _ _ _ h').mono ?_
          rintro _ _ ⟨rfl, rfl⟩
          go_wp2_with fail
          refine (known_al _).mono ?_
          rintro _ wk ⟨rfl, bk⟩
          replace bk := b.trans (bk.mono b.size)
          go_wp2
          go_ret
          exact ⟨rfl, bk⟩
        · have q1 : (((y : Nat) : Int) == 0) = false := by rw [beq_eq_false_iff_ne]; omega
          have q2 : (((y : Nat) : Int) != 0) = true := by rw [bne_iff_ne]; omega
          rw [if_neg hy0] at h'
          rw [if_neg hy0]
          go_wp2_with fail
          refine (now1 _ ga _ _ _ _ h').mono ?_
          rintro _ _ ⟨rfl, rfl⟩
          go_wp2_with fail
          refine (rings1 _ ga _ _ _ _ h').mono ?_
          rintro _ _ ⟨rfl, rfl⟩
          go_wp2_with fail
          refine (known_al _).mono ?_
          rintro _ wk ⟨rfl, bk⟩
          replace bk := b.trans (bk.mono b.size)
          go_wp2
          go_ret
          exact ⟨rfl, bk⟩

/-! ### THE ROW's STEP around the walk. -/
theorem own_alarmLatches : ownKnob Try.prog.godebug = none := by kernel_rfl
theorem laidOut_alarmLatches : laidOutB Try.prog = true := by kernel_rfl
set_option maxRecDepth 100000 in
theorem lifted_alarmLatches (os : Os) (started : os.Started) (H : Type) (enc : TypeId × Value → H) :
    ReturnsInHanded {} Try.checked os 4 .any (Rows.alarmLatchesSpec.pre6 enc Try.prog Try.f4 Rows.alarmLatchesRow.domain false) (Rows.alarmLatchesSpec.post enc Try.prog Try.f4 false true false false) := by
  refine returnsInHanded_of_change (C := Try.checked) own_alarmLatches started (by kernel_rfl) Try.func4
    (ChangeSpec.witness6 (enc := enc) (C := Try.checked) false ⟨#[], #[.int .u8 0, .int .i64 0, .int .i64 0, .int .i64 0], []⟩ 8 (by kernel_rfl) (by kernel_rfl) (by kernel_rfl) (by kernel_rfl)) ?_
  intro W base args ds gs before hval0 hW hcnd _
  have hval : ∀ (j : Nat) t v, Try.f4.params[j]? = some t → args[j]? = some v → Value.okWide Try.prog W .any base t v := hval0
  have hW' := hW
  obtain ⟨p, q, hA0, hV, rfl, hfz, hnd⟩ := hW
  have hA : DataW.TrodAll enc Try.prog W 0 (fun _ => true) true Try.f4.params.toList args.toList ds p := hA0
  rw [Try.params4] at hA hval
  obtain ⟨v0, vs0, d0, ds0, p0, q0, hargs, rfl, rfl, h0, r0⟩ := trodAll_cons hA
  obtain ⟨v1, vs1, d1, ds1, p1, q1, rfl, rfl, rfl, h1, r1⟩ := trodAll_cons r0
  obtain ⟨v2, vs2, d2, ds2, p2, q2, rfl, rfl, rfl, h2, r2⟩ := trodAll_cons r1
  obtain ⟨v3, vs3, d3, ds3, p3, q3, rfl, rfl, rfl, h3, r3⟩ := trodAll_cons r2
  obtain ⟨rfl, rfl, rfl⟩ := trodAll_nil r3
  obtain rfl : args = #[v0, v1, v2, v3] := by cases args; simp_all
  obtain ⟨rfl, rfl⟩ := trodVars_none hV
  obtain ⟨a0, rfl, rfl, rfl, w0⟩ := open_int Try.underlying5 (hval 0 5 v0 rfl rfl) h0
  obtain ⟨a1, rfl, rfl, rfl, w1⟩ := open_int Try.underlying3 (hval 1 3 v1 rfl rfl) h1
  obtain ⟨a2, rfl, rfl, rfl, w2⟩ := open_int Try.underlying3 (hval 2 3 v2 rfl rfl) h2
  obtain ⟨a3, rfl, rfl, rfl, w3⟩ := open_int Try.underlying3 (hval 3 3 v3 rfl rfl) h3
  clear hA0 hval0
  refine (walk_alarmLatches a0 a1 a2 a3 W (bounds_u8 w0) (bounds_i64 w1) (bounds_i64 w2) (bounds_i64 w3)).mono fun e W' ⟨he, bel⟩ => ?_
  subst he
  exact ⟨_, rfl, _, _, _, [], _, [], hW', trodAll_mk1 (shut_bool Try.underlying4 _), (trodAll_cons_mk (shut_int Try.underlying5 w0) (trodAll_cons_mk (shut_int Try.underlying3 w1) (trodAll_cons_mk (shut_int Try.underlying3 w2) (trodAll_cons_mk (shut_int Try.underlying3 w3) trodAll_mk0)))), rfl, bel.frame _, fun h => by cases h⟩

theorem over_alarmLatches : Rows.alarmLatchesRow.holds Try.pinned (OpenSpec.ofChange Rows.alarmLatchesSpec) :=
  OpenClaim.holds_of_wide 4 Try.f4 rfl rfl rfl rfl rfl rfl rfl ⟨rfl, rfl, rfl, rfl, rfl⟩ rfl rfl rfl rfl rfl (by kernel_rfl) Try.func4 (by kernel_rfl)
    (of_decide_eq_true (by kernel_rfl)) (by unfold Func.isWrapper; first | (rw [if_pos (by decide +kernel)]; kernel_rfl) | (rw [if_neg (by decide +kernel)]; exact ⟨rfl, rfl⟩))
    (fun os started H enc _ => lifted_alarmLatches os started H enc)

theorem proved_alarmLatches : Rows.AlarmLatchesSaid := over_alarmLatches
end Go.Proofs.Ytcingamdapdpbaa
