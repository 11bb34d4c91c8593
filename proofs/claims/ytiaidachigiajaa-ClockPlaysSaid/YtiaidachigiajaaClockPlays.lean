/- ClockPlays holds: of any measures, one behind the other, whether and by how much the clock is turned. For all limits, lists and places of a Clear. -/
import Derived.Test.YtiaidachigiajaaClF
import Derived.Test.YtiaidachigiajaaClO
namespace Go.Proofs.Ytiaidachigiajaa
open Go.ChangeShapes Go.WideShapes Go.ChangeAt Go.RowKit
open Clk (avg)

theorem keep4_small {l : List Int} {x : Int} (h : small l) (hx : -1099511627776 ≤ x ∧ x ≤ 1099511627776) : small (keep4 l x) := by
  unfold keep4
  split
  · exact small.snoc (fun y hy => h y (List.mem_of_mem_drop hy)) hx
  · exact h.snoc hx
set_option maxRecDepth 100000 in
set_option maxHeartbeats 4000000 in
theorem walk_clockPlays (m : Int) (l : List Int) (v : Value) (z : Int) (w : World) (_hm : -9223372036854775808 ≤ m ∧ m ≤ 9223372036854775807) (h : InInts w v l) (_hz : -9223372036854775808 ≤ z ∧ z ≤ 9223372036854775807) :
    Calls Try.prog 4 #[.int .i64 m, v, .int .i64 z] w fun e w' => e = .returned (.bool true) ∧ Below w.heap.size w w' := by
  obtain ⟨A, c, rfl, v1, v2, v3, -⟩ := h.sees.at_
  unfold maxLen at v2
  have HC : Hid (∀ W, Below w.heap.size w W → ∀ k, k < l.length → ∃ b off, A = some ⟨b, off, none⟩ ∧ W.cell? ⟨b, off + k, none⟩ = some (.int .i64 (l.getD k 0))) := Lib.hid (fun W hW k hk => by
    obtain ⟨b, off, e, hb, h⟩ := v3 (by omega)
    exact ⟨b, off, e, (hW.cell hb).trans (h k hk)⟩)
  clear h v3
  by_cases c3 : m < 0
  · go_enter Try.func4, Try.ntmps4
    go_wp2
    go_ret
    exact ⟨rfl, Below.refl _ _⟩
  by_cases c4 : 1099511627776 < m
  · go_enter Try.func4, Try.ntmps4
    go_wp2
    go_ret
    exact ⟨rfl, Below.refl _ _⟩
  by_cases c2 : 50 < l.length
  · have q2 : decide ((50 : Int) < ((l.length : Nat) : Int)) = true := decide_eq_true (by omega)
    go_enter Try.func4, Try.ntmps4
    go_wp2
    go_ret
    exact ⟨rfl, Below.refl _ _⟩
  have q2 : decide ((50 : Int) < ((l.length : Nat) : Int)) = false := decide_eq_false (by omega)
  have nw := Lib.hid (new_cl m w)
  go_enter Try.func4, Try.ntmps4
  go_wp2_with fail
  refine nw.out.mono ?_
  rintro e w1 ⟨rfl, hc1, hb1, hz1⟩
  have hlt := hc1.1.lt
  have hgx : w1.heap.size ≤ w.heap.size + 1 ∧ w.heap.size + 1 ≤ w1.heap.size := by omega
  clear hz1
  have hR : RAt (w1.alloc (.cells #[.int .i64 m, .slice none 0 0] 30)) w1.heap.size m (.slice none 0 0) [] := ⟨Blk.new _ _ rfl _ _, SeesI.nil, fun b hb => by cases hb⟩
  have hc2 : ClkAt (w1.alloc (.cells #[.int .i64 m, .slice none 0 0] 30)) w.heap.size m [] := ⟨hc1.1.alloc _, hc1.2⟩
  have hb2 := hb1.alloc hb1.size (.cells #[.int .i64 m, .slice none 0 0] 30)
  have hg0 : w.heap.size < w1.heap.size := by omega
  have hg1 := hg0
  clear hgx hc1 hb1 hlt nw
  go_wp2_with fail
  generalize w1.alloc (.cells #[.int .i64 m, .slice none 0 0] 30) = w2 at *
  generalize w1.heap.size = gx at *
  obtain ⟨m1, m2⟩ : 0 ≤ m ∧ m ≤ 1099511627776 := by omega
  go_loopw [9] (fun i wr => ∃ (k : Nat) (L : List Int) (u : Value), k ≤ l.length ∧ i = .int .i64 k ∧ ClkAt wr w.heap.size m L ∧ RAt wr gx m u L ∧ small L ∧ Below w.heap.size w wr) (fun i _ => l.length - (intOf i).toNat)
  case atStart => exact ⟨0, [], _, by omega, rfl, hc2, hR, by simp [small], hb2⟩
  case round =>
    clear hc2 hR hb2
    obtain ⟨k, L, u, hk, rfl, hck, hrk, hsm, hbw⟩ := hrel
    by_cases hlt : k < l.length
    · have q3 : decide (((k : Nat) : Int) < (l.length : Int)) = true := decide_eq_true (by omega)
      obtain ⟨b, off, rfl, hcell⟩ := HC.out wr hbw k hlt
      have HC2 : Hid (∀ W, Below w.heap.size w W → W.cell? ⟨b, off + k, none⟩ = some (.int .i64 (l.getD k 0))) := Lib.hid (fun W hW => by
        obtain ⟨b', off', e, h⟩ := HC.out W hW k hlt
        simp only [Option.some.injEq, Addr.mk.injEq] at e
        obtain ⟨rfl, rfl, -⟩ := e
        exact h)
      generalize l.getD k 0 = x at *
      by_cases e1 : x < -1099511627776
      · go_wp2
        go_ret
        exact ⟨rfl, hbw⟩
      by_cases e2 : 1099511627776 < x
      · go_wp2
        go_ret
        exact ⟨rfl, hbw⟩
      obtain ⟨L', hL', hcase⟩ : ∃ L' : List Int, small L' ∧ ((((k : Nat) : Int) = z ∧ L' = []) ∨ (¬ ((k : Nat) : Int) = z ∧ L' = L)) := by
        by_cases hz : ((k : Nat) : Int) = z
        · exact ⟨[], by simp [small], .inl ⟨hz, rfl⟩⟩
        · exact ⟨L, hsm, .inr ⟨hz, rfl⟩⟩
      have M1 := fun W h => Lib.hid (measure_cl w.heap.size m L' x W h)
      have M2 := fun W u h h4 => Lib.hid (rmeasure_cl gx m u L' x W h h4)
      have hL2 := keep4_small hL' (x := x) (by omega)
      generalize hK : keep4 L' x = K at M1 M2 hL2
      clear hK
      have T1 := fun W h => Lib.hid (term_cl w.heap.size m K W h hL2 (by omega))
      have T2 := fun W u h h4 => Lib.hid (rterm_cl gx m u K W h hL2 h4 (by omega))
      have LN := fun W (h : ClkAt W w.heap.size m K) => Lib.hid ((len_cl w.heap.size m K W h).mono fun _ _ ⟨h1, h2⟩ => ⟨h1, h2.symm⟩ : Calls Try.prog 23 #[.pointer (some ⟨w.heap.size, 0, none⟩)] W fun e w' => e = .returned (.int .i64 (K.length : Nat)) ∧ w' = W)
      generalize termV m K = tv at *
      generalize wiB m (avg K) = tq at *
      rcases hcase with ⟨hz, rfl⟩ | ⟨hz, rfl⟩
      case' inl =>
        have q4 : ((((k : Nat) : Int)) == z) = true := by rw [beq_iff_eq]; exact hz
        have C1 := Lib.hid (clear_cl w.heap.size m L wr hck)
        have C2 := fun W h => Lib.hid (rclear_cl gx m u L W h)
        clear hz
        go_wp2_with fail
        refine C1.out.mono ?_
        rintro e w3 ⟨rfl, hc3, ho3⟩
        have hr3 := hrk.only ho3 hg1
        have hb3 := hbw.trans (ho3.below (Nat.le_refl _) hck.1.lt)
        clear hrk hck hbw hcell
        go_wp2_with fail
        refine (C2 w3 hr3).out.mono ?_
        rintro e w4 ⟨rfl, hr4, ho4⟩
        have hc4 : ClkAt w4 w.heap.size m [] := ⟨hc3.1.only ho4 (by omega), hc3.2⟩
        have hb4 := hb3.trans (ho4.below (by omega) hr3.blk.lt)
        have hcell := HC2.out w4 hb4
        clear hr3 hc3 hb3
      case' inr =>
        have q4 : ((((k : Nat) : Int)) == z) = false := by rw [beq_eq_false_iff_ne]; exact hz
        have hr4 := hrk
        have hc4 := hck
        have hb4 := hbw
        clear hz hrk hck hbw
      all_goals
        go_wp2_with fail
        refine (M1 _ hc4).out.mono ?_
        rintro e w5 ⟨rfl, hc5, ho5⟩
        have hr5 := hr4.only ho5 hg1
        have hb5 := hb4.trans (ho5.below (Nat.le_refl _) hc4.1.lt)
        have h45 := hc4.2
        clear hc4 hr4 hb4 hcell
        have hcell := HC2.out w5 hb5
        go_wp2_with fail
        refine (M2 w5 _ hr5 h45).out.mono ?_
        rintro e w6 ⟨rfl, ⟨u6, hr6⟩, ho6⟩
        have hc6 : ClkAt w6 w.heap.size m K := ⟨hc5.1.only ho6 (by omega), hc5.2⟩
        have hb6 := hb5.trans (ho6.below (by omega) hr5.blk.lt)
        clear hc5 hr5 hb5 hcell
        go_wp2_with fail
        refine (T1 w6 hc6).out.mono ?_
        rintro e w7 ⟨rfl, hb7⟩
        have hc7 := hc6.below hb7 hc6.1.lt
        have hr7 := hr6.below hb7
        have hb7 := hb6.trans (hb7.mono hb6.size)
        clear hc6 hr6 hb6
        go_wp2_with fail
        refine (T2 w7 u6 hr7 hc7.2).out.mono ?_
        rintro e w8 ⟨rfl, hb8⟩
        have hc8 := hc7.below hb8 hc7.1.lt
        have hr8 := hr7.below hb8
        have hb8 := hb7.trans (hb8.mono hb7.size)
        clear hc7 hr7 hb7
        have hcq := fun nq => Lib.hid (hc8.below (below_drewN (Below.refl w8.heap.size w8) nq) hc8.1.lt)
        have hrq := fun nq => Lib.hid (hr8.below (below_drewN (Below.refl w8.heap.size w8) nq))
        have hbq := fun nq => Lib.hid (hb8.trans (below_drewN (Below.refl w.heap.size w8) nq))
        have hln := fun nq => LN (w8.drewN nq) (hc8.below (below_drewN (Below.refl w8.heap.size w8) nq) hc8.1.lt)
        obtain ⟨A6, c6, rfl, -, -, -, -⟩ := hr8.sees.at_
        have d1 := hr8.blk.cell 1 rfl
        clear hc8 hr8 hb8 M1 M2 T1 T2 LN
        have n1 : (tv != tv) = false := by simp
        have n2 : (tq != tq) = false := by simp
        have n3 : (((K.length : Nat) : Int) != ((K.length : Nat) : Int)) = false := by simp
        go_wp2
        go_quiet ((go_at_call 23; exact Calls.quiet_of_same (hln _).out))
        go_wp2
        go_roundw
        case rel => exact ⟨k + 1, K, _, by omega, by go_num, (hcq _).out, (hrq _).out, hL2, (hbq _).out⟩
        case measure => simp [intOf]; omega
    · have q3 : decide (((k : Nat) : Int) < (l.length : Int)) = false := decide_eq_false (by omega)
      go_wp2_with fail
      refine (known_cl _).mono ?_
      rintro e w7 ⟨rfl, hb7⟩
      have hb7 := hbw.trans (hb7.mono hbw.size)
      go_wp2
      go_ret
      exact ⟨rfl, hb7⟩

/-! ### THE ROW's STEP around the walk. -/
theorem own_clockPlays : ownKnob Try.prog.godebug = none := by kernel_rfl
theorem laidOut_clockPlays : laidOutB Try.prog = true := by kernel_rfl
set_option maxRecDepth 100000 in
theorem lifted_clockPlays (os : Os) (started : os.Started) (H : Type) (enc : TypeId × Value → H) :
    ReturnsInHanded {} Try.checked os 4 .any (Rows.clockPlaysSpec.pre6 enc Try.prog Try.f4 Rows.clockPlaysRow.domain false) (Rows.clockPlaysSpec.post enc Try.prog Try.f4 false true false false) := by
  refine returnsInHanded_of_change (C := Try.checked) own_clockPlays started (by kernel_rfl) Try.func4
    (ChangeSpec.witness6 (enc := enc) (C := Try.checked) false ⟨#[], #[.int .i64 0, .slice none 0 0, .int .i64 0], []⟩ 8 (by kernel_rfl) (by kernel_rfl) (by kernel_rfl) (by kernel_rfl)) ?_
  intro W base args ds gs before hval0 hW hcnd _
  have hval : ∀ (j : Nat) t v, Try.f4.params[j]? = some t → args[j]? = some v → Value.okWide Try.prog W .any base t v := hval0
  have hW' := hW
  obtain ⟨p, q, hA0, hV, rfl, hfz, hnd⟩ := hW
  have hA : DataW.TrodAll enc Try.prog W 0 (fun _ => true) true Try.f4.params.toList args.toList ds p := hA0
  rw [Try.params4] at hA hval
  obtain ⟨v0, vs0, d0, ds0, p0, q0, hargs, rfl, rfl, h0, r0⟩ := trodAll_cons hA
  obtain ⟨v1, vs1, d1, ds1, p1, q1, rfl, rfl, rfl, h1, r1⟩ := trodAll_cons r0
  obtain ⟨v2, vs2, d2, ds2, p2, q2, rfl, rfl, rfl, h2, r2⟩ := trodAll_cons r1
  obtain ⟨rfl, rfl, rfl⟩ := trodAll_nil r2
  obtain rfl : args = #[v0, v1, v2] := by cases args; simp_all
  obtain ⟨rfl, rfl⟩ := trodVars_none hV
  obtain ⟨a0, rfl, rfl, rfl, w0⟩ := open_int Try.underlying3 (hval 0 3 v0 rfl rfl) h0
  obtain ⟨A1, n1, c1, rfl⟩ := okWide_slice Try.underlying22 (hval 1 22 v1 rfl rfl)
  have k1 := h1
  have lt1 : ∀ x ∈ p1, x.block < W.heap.size := by obtain ⟨m, hm⟩ := k1; exact DataW.trod_lt m _ _ _ hm
  obtain ⟨l1, s1⟩ := sees_ints Try.underlying22 Try.underlying3 (by kernel_rfl) h1
  obtain ⟨a2, rfl, rfl, rfl, w2⟩ := open_int Try.underlying3 (hval 2 3 v2 rfl rfl) h2
  clear hA0 hval0
  refine (walk_clockPlays a0 l1 _ a2 W (bounds_i64 w0) s1 (bounds_i64 w2)).mono fun e W' ⟨he, bel⟩ => ?_
  subst he
  exact ⟨_, rfl, _, _, _, [], _, [], hW', trodAll_mk1 (shut_bool Try.underlying4 _), (trodAll_cons_mk (shut_int Try.underlying3 w0) (trodAll_cons_mk (Below.trod laidOut_clockPlays (by kernel_rfl) (of_decide_eq_true (by kernel_rfl)) k1 bel lt1) (trodAll_cons_mk (shut_int Try.underlying3 w2) trodAll_mk0))), rfl, bel.frame _, fun h => by cases h⟩

theorem over_clockPlays : Rows.clockPlaysRow.holds Try.pinned (OpenSpec.ofChange Rows.clockPlaysSpec) :=
  OpenClaim.holds_of_wide 4 Try.f4 rfl rfl rfl rfl rfl rfl rfl ⟨rfl, rfl, rfl, rfl, rfl⟩ rfl rfl rfl rfl rfl (by kernel_rfl) Try.func4 (by kernel_rfl)
    (of_decide_eq_true (by kernel_rfl)) (by unfold Func.isWrapper; first | (rw [if_pos (by decide +kernel)]; kernel_rfl) | (rw [if_neg (by decide +kernel)]; exact ⟨rfl, rfl⟩))
    (fun os started H enc _ => lifted_clockPlays os started H enc)

theorem proved_clockPlays : Rows.ClockPlaysSaid := over_clockPlays
end Go.Proofs.Ytiaidachigiajaa
