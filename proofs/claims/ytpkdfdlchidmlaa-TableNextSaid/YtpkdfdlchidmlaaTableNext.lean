/- TableNext holds: slots go round, rounds go on, and begin anew behind the last. For all numbers of nodes and states. -/
import Derived.Test.YtpkdfdlchidmlaaTbL
import Derived.Test.YtpkdfdlchidmlaaTbO
namespace Go.Proofs.Ytpkdfdlchidmlaa
open Go.ChangeShapes Go.WideShapes Go.ChangeAt Go.RowKit
open Go.ChangeMaps (open_string shut_string)
open Tb (D T)

theorem blk3 (X : World) (g : Nat) (a b c a' b' c' : Value) (t : TypeId) (h : Blk X g #[a, b, c] t) : Blk (((X.setCell ⟨g, 0, none⟩ a').setCell ⟨g, 1, none⟩ b').setCell ⟨g, 2, none⟩ c') g #[a', b', c'] t := by
  have := ((h.set 0 a').set 1 b').set 2 c'
  simpa using this

set_option maxRecDepth 100000 in
set_option maxHeartbeats 8000000 in
theorem walk_tableNext (n : Int) (y : CS) (w : World) (_h0 : -9223372036854775808 ≤ n ∧ n ≤ 9223372036854775807) (_h1 : InState y) :
    Calls Try.prog 8 #[.int .i64 n, stV y] w fun e w' => e = .returned (.bool true) ∧ Below w.heap.size w w' := by
  obtain ⟨r, s, m⟩ := y
  unfold stV
  simp only
  have hbx := fun o => (Below.refl w.heap.size w).alloc (Nat.le_refl _) o
  by_cases h1 : n < 4
  · go_enter Try.func8, Try.ntmps8
    go_wp2
    go_ret
    exact ⟨rfl, hbx _⟩
  by_cases h2 : 8 < n
  · go_enter Try.func8, Try.ntmps8
    go_wp2
    go_ret
    exact ⟨rfl, hbx _⟩
  by_cases h3 : s < 0
  · go_enter Try.func8, Try.ntmps8
    go_wp2
    go_ret
    exact ⟨rfl, hbx _⟩
  by_cases h4 : n ≤ s
  · go_enter Try.func8, Try.ntmps8
    go_wp2
    go_ret
    exact ⟨rfl, hbx _⟩
  by_cases h5 : r < 0
  · go_enter Try.func8, Try.ntmps8
    go_wp2
    go_ret
    exact ⟨rfl, hbx _⟩
  by_cases h6 : 65535 < r
  · go_enter Try.func8, Try.ntmps8
    go_wp2
    go_ret
    exact ⟨rfl, hbx _⟩
  obtain ⟨N, rfl⟩ := Int.eq_ofNat_of_zero_le (a := n) (by omega)
  have hs := fun W => some_tb N (by omega) W
  have hl := someL_length N
  unfold tabV someT at hs
  simp only at hs
  have hs : ∀ W, Hid (Calls Try.prog 22 #[.int .i64 N] W fun e w' => ∃ A c, e = .returned (.agg #[.slice A N c, .int .i64 1, .int .i64 10, .int .i64 20]) ∧ Below W.heap.size W w') := fun W => (hs W).mono fun e w' h => by
    obtain ⟨v, rfl, ho, hb⟩ := h
    obtain ⟨A, c, rfl, -⟩ := ho.sees.at_
    exact ⟨A, c, by rw [hl], hb⟩
  have hN := fun A c r' s' W (h1 : 0 ≤ s' ∧ s' < (N : Int)) (h2 : 0 ≤ r' ∧ r' ≤ 65535) => next_tb A N c 1 10 20 r' s' m W (by omega) h1 h2
  have hM := fun A c W => next_rf A N c 1 10 20 r s m W (by omega) (by omega) (by omega)
  unfold csV at hN hM
  have hN0 := fun A c W => hN A c r s W (by omega) (by omega)
  have hstep := fun k r' s' (h : ((s + (k : Nat) < N ∧ r' = r ∧ s' = s + k) ∨ ((N : Int) ≤ s + k ∧ r' = (if r < 65535 then r + 1 else 0) ∧ s' = s + k - N))) (hk : k < N) => (show ((s + (k + 1 : Nat) < (N : Int) ∧ nxR N r' s' = r ∧ nxS N s' = s + (k + 1 : Nat)) ∨ ((N : Int) ≤ s + (k + 1 : Nat) ∧ nxR N r' s' = (if r < 65535 then r + 1 else 0) ∧ nxS N s' = s + (k + 1 : Nat) - N)) ∧ (0 ≤ s' ∧ s' < (N : Int)) ∧ 0 ≤ r' ∧ r' ≤ 65535 from by
    unfold nxR nxS
    split at h <;> rcases h with ⟨a, rfl, rfl⟩ | ⟨a, rfl, rfl⟩ <;> (try split) <;> omega)
  have hstep := Lib.hid hstep
  generalize nxR N r s = r1 at *
  generalize nxS N s = s1 at *
  have hN0 := fun A c W => Lib.hid (hN0 A c W)
  have hM := fun A c W => Lib.hid (hM A c W)
  have hN := fun A c r' s' W h1 h2 => Lib.hid (hN A c r' s' W h1 h2)
  clear hl
  have hb0 := hbx (.cells #[.int .i64 r, .int .i64 s, .int .i64 m] 45)
  have hS := Blk.new w _ rfl #[.int .i64 r, .int .i64 s, .int .i64 m] 45
  go_enter Try.func8, Try.ntmps8
  go_wp2_with fail
  generalize w.alloc (.cells #[.int .i64 r, .int .i64 s, .int .i64 m] 45) = w0 at *
  go_cut [5] from 35 to 38 (fun s5 W => ∃ gx, s5 = .pointer (some ⟨gx, 0, none⟩) ∧ Blk W gx #[.int .i64 r1, .int .i64 s1, .int .i64 m] 45 ∧ Below w0.heap.size w0 W ∧ w0.heap.size ≤ gx)
  case first =>
    have x0 := hS.cell 0 rfl
    have x1 := hS.cell 1 rfl
    have x2 := hS.cell 2 rfl
    have hb00 := Below.refl w0.heap.size w0
    have K := Lib.hid (show ∀ W, Below w0.heap.size w0 W → W.cell? ⟨w.heap.size, 0, none⟩ = some (.int .i64 r) ∧ W.cell? ⟨w.heap.size, 1, none⟩ = some (.int .i64 s) ∧ W.cell? ⟨w.heap.size, 2, none⟩ = some (.int .i64 m) from fun W h => by
      have t := hS.below h hS.lt
      exact ⟨t.cell 0 rfl, t.cell 1 rfl, t.cell 2 rfl⟩)
    have hra : ∀ (W : World) (o : Obj), Below w0.heap.size w0 W → ((W.alloc o).cell? ⟨w.heap.size, 0, none⟩ = some (.int .i64 r) ∧ (W.alloc o).cell? ⟨w.heap.size, 1, none⟩ = some (.int .i64 s) ∧ (W.alloc o).cell? ⟨w.heap.size, 2, none⟩ = some (.int .i64 m)) := fun W o h => K.out _ (h.alloc h.size o)
    go_region_with (first
      | ((go_at_call 22; refine (hs _).out.mono ?_); rintro e wa ⟨A, c, rfl, hba⟩; have hza : Below w0.heap.size w0 wa := (by refine Below.trans ?_ (hba.mono ?_) <;> (repeat' (first | (with_reducible exact Below.refl _ _) | (with_reducible refine Below.alloc ?_ ?_ _) | (with_reducible refine Below.drew ?_) | exact Nat.le_refl _ | (simp; done)))); have ha := K.out wa hza; have ha2 := fun o => hra wa o hza; have ha20 := fun o => (ha2 o).1; have ha21 := fun o => (ha2 o).2.1; have ha22 := fun o => (ha2 o).2.2; try (refine (?_ : Blk wa w0.heap.size #[.int .i64 0, .int .i64 0, .int .i64 0] 45 → _) ?_; rotate_left 1; (focus (refine Blk.below ?_ hba ?_; (focus ((repeat' (first | exact hq1 | (with_reducible refine Blk.drew ?_) | (with_reducible refine Blk.new _ _ ?_ _ _) | (simp; done))); done)); (focus ((simp; done))))); intro hq1; have hc0 := hq1.cell 0 rfl; have hc1 := hq1.cell 1 rfl; have hc2 := hq1.cell 2 rfl; have hf0 := hq1.frozen 0; have hf1 := hq1.frozen 1; have hf2 := hq1.frozen 2))
      | ((go_at_call 23; refine (hN0 _ _ _).out.mono ?_); rintro e wb ⟨rfl, hbb⟩; have hzb : Below w0.heap.size w0 wb := (by refine Below.trans ?_ (hbb.mono ?_) <;> (repeat' (first | exact hza | (with_reducible refine Below.alloc ?_ ?_ _) | (with_reducible refine Below.drew ?_) | exact hza.size | (have := hza.size; simp; omega)))); try (first | (refine (?_ : Blk wb w0.heap.size #[.int .i64 0, .int .i64 0, .int .i64 0] 45 → _) ?_; rotate_left 1; (focus (refine Blk.below ?_ hbb ?_; (focus ((repeat' (first | exact hq1 | (with_reducible refine Blk.drew ?_) | (with_reducible refine Blk.new _ _ ?_ _ _) | (simp; done))); done)); (focus (exact hq1.lt)))); intro hq2; have hc0 := hq2.cell 0 rfl; have hc1 := hq2.cell 1 rfl; have hc2 := hq2.cell 2 rfl; have hf0 := hq2.frozen 0; have hf1 := hq2.frozen 1; have hf2 := hq2.frozen 2) | (refine (?_ : Blk wb wa.heap.size #[.int .i64 0, .int .i64 0, .int .i64 0] 45 → _) ?_; rotate_left 1; (focus (refine Blk.below ?_ hbb ?_; (focus ((repeat' (first | exact hq1 | (with_reducible refine Blk.drew ?_) | (with_reducible refine Blk.new _ _ ?_ _ _) | (simp; done))); done)); (focus ((simp; done))))); intro hq2; have hc0 := hq2.cell 0 rfl; have hc1 := hq2.cell 1 rfl; have hc2 := hq2.cell 2 rfl; have hf0 := hq2.frozen 0; have hf1 := hq2.frozen 1; have hf2 := hq2.frozen 2))))
    all_goals
      go_wp2_with fail
      go_meet
      refine ⟨_, rfl, ?_, ?_, ?_⟩
      · first
          | (refine blk3 _ _ (.int .i64 0) (.int .i64 0) (.int .i64 0) _ _ _ _ ?_; exact hq2)
          | exact Blk.new _ _ rfl _ _
      · (repeat' (first | exact hzb | (with_reducible refine Below.setCell ?_ ?_ _) | (with_reducible refine Below.alloc ?_ ?_ _) | exact hza.size | exact hzb.size | exact Nat.le_refl _))
      · first | exact Nat.le_refl _ | exact hza.size | exact hzb.size
  case rest =>
    obtain ⟨gx, rfl, hX, hbt, hgx⟩ := hcut
    obtain ⟨wt, rfl⟩ : ∃ wt, wt = wc := ⟨wc, rfl⟩
    have K := Lib.hid (show ∀ W, Below wt.heap.size wt W → (W.cell? ⟨w.heap.size, 0, none⟩ = some (.int .i64 r) ∧ W.cell? ⟨w.heap.size, 1, none⟩ = some (.int .i64 s) ∧ W.cell? ⟨w.heap.size, 2, none⟩ = some (.int .i64 m)) ∧ (W.cell? ⟨gx, 0, none⟩ = some (.int .i64 r1) ∧ W.cell? ⟨gx, 1, none⟩ = some (.int .i64 s1) ∧ W.cell? ⟨gx, 2, none⟩ = some (.int .i64 m)) from fun W h => by
      have t := hS.below (hbt.trans (h.mono hbt.size)) hS.lt
      have u := hX.below h hX.lt
      exact ⟨⟨t.cell 0 rfl, t.cell 1 rfl, t.cell 2 rfl⟩, u.cell 0 rfl, u.cell 1 rfl, u.cell 2 rfl⟩)
    have hb00 := Below.refl wt.heap.size wt
    clear hN0
    go_wp2_with fail
    go_region_held3 (fun W => (W.cell? ⟨w.heap.size, 0, none⟩ = some (.int .i64 r) ∧ W.cell? ⟨w.heap.size, 1, none⟩ = some (.int .i64 s) ∧ W.cell? ⟨w.heap.size, 2, none⟩ = some (.int .i64 m)) ∧ (W.cell? ⟨gx, 0, none⟩ = some (.int .i64 r1) ∧ W.cell? ⟨gx, 1, none⟩ = some (.int .i64 s1) ∧ W.cell? ⟨gx, 2, none⟩ = some (.int .i64 m)))
      ((refine K.out _ ?_; first | exact hb00 | exact hb00.drew | exact hza | exact hzb))
      (first
        | ((go_at_call 22; refine (hs _).out.mono ?_); rintro e wa ⟨A, c, rfl, hba⟩; have hza := hb00.drew.trans (hba.mono hb00.size))
        | ((go_at_call 24; refine (hM _ _ _).out.mono ?_); rintro e wb ⟨rfl, hbb⟩; have hzb := hza.trans (hbb.mono hza.size))
        | fail)
    have hbz := hbt.trans (hzb.mono hbt.size)
    have hS1 := hS.below hbz hS.lt
    have x0 := hS1.cell 0 rfl
    have x1 := hS1.cell 1 rfl
    have x2 := hS1.cell 2 rfl
    have hY := Blk.new wb _ rfl #[.int .i64 r, .int .i64 s, .int .i64 m] 45
    have hby := hbz.alloc hbz.size (.cells #[.int .i64 r, .int .i64 s, .int .i64 m] 45)
    have hgyw := hbz.size
    clear K hX hM hS1
    go_wp2
    generalize wb.alloc (.cells #[.int .i64 r, .int .i64 s, .int .i64 m] 45) = wx at *
    go_loopw [7] (fun i wr => ∃ k : Nat, ∃ rk sk : Int, k ≤ N ∧ i = .int .i64 k ∧ Hid (((s + (k : Nat) < (N : Int) ∧ rk = r ∧ sk = s + (k : Nat)) ∨ ((N : Int) ≤ s + (k : Nat) ∧ rk = (if r < 65535 then r + 1 else 0) ∧ sk = s + (k : Nat) - N))) ∧ Blk wr wb.heap.size #[.int .i64 rk, .int .i64 sk, .int .i64 m] 45 ∧ Below w0.heap.size w0 wr) (fun i _ => N - (intOf i).toNat)
    case atStart => exact ⟨0, r, s, by omega, rfl, Lib.hid (by simp; omega), hY, hby⟩
    case round =>
      obtain ⟨k, rk, sk, hk, rfl, hrel, hB, hbk⟩ := hrel
      by_cases hlt : k < N
      · have q1 : decide ((k : Int) < (N : Nat)) = true := by simp; omega
        obtain ⟨hnext, hsk, hrk⟩ := hstep.out k rk sk hrel.out hlt
        have hnext := Lib.hid hnext
        have hNk := fun A c W => hN A c rk sk W hsk hrk
        generalize nxR N rk sk = rn at *
        generalize nxS N sk = sn at *
        have KB := Lib.hid (show ∀ W, Below wr.heap.size wr W → (W.cell? ⟨wb.heap.size, 0, none⟩ = some (.int .i64 rk) ∧ W.cell? ⟨wb.heap.size, 1, none⟩ = some (.int .i64 sk) ∧ W.cell? ⟨wb.heap.size, 2, none⟩ = some (.int .i64 m)) ∧ (W.frozen? ⟨wb.heap.size, 0, none⟩ = false ∧ W.frozen? ⟨wb.heap.size, 1, none⟩ = false ∧ W.frozen? ⟨wb.heap.size, 2, none⟩ = false) from fun W h => by
          have u := hB.below h hB.lt
          exact ⟨⟨u.cell 0 rfl, u.cell 1 rfl, u.cell 2 rfl⟩, u.frozen 0, u.frozen 1, u.frozen 2⟩)
        have hr00 := Below.refl wr.heap.size wr
        clear hN x0 x1 x2
        go_wp2_with fail
        have y0 := hB.cell 0 rfl
        have y1 := hB.cell 1 rfl
        have y2 := hB.cell 2 rfl
        go_region_with (first
          | ((go_at_call 22; refine (hs _).out.mono ?_); rintro e wa ⟨A, c, rfl, hba⟩; have hzc := hr00.drew.trans (hba.mono hr00.size); have ha := KB.out wa hzc)
          | ((go_at_call 23; refine (hNk _ _ _).out.mono ?_); rintro e wd ⟨rfl, hbb⟩; have hzd := hzc.trans (hbb.mono hzc.size); obtain ⟨⟨z0, z1, z2⟩, f0, f1, f2⟩ := KB.out wd hzd))
        all_goals
          have hBd := (hB.below hzd hB.lt)
          have hB2 := blk3 wd wb.heap.size _ _ _ (.int .i64 rn) (.int .i64 sn) (.int .i64 m) _ hBd
          have hbd := (((hbk.trans (hzd.mono hbk.size)).setCell (p := ⟨wb.heap.size, 0, none⟩) hgyw (.int .i64 rn)).setCell (p := ⟨wb.heap.size, 1, none⟩) hgyw (.int .i64 sn)).setCell (p := ⟨wb.heap.size, 2, none⟩) hgyw (.int .i64 m)
          clear hB hBd KB y0 y1 y2
          go_wp2
          go_roundw
          case rel => exact ⟨k + 1, rn, sn, by omega, by go_num, hnext, hB2, hbd⟩
          case measure => simp [intOf]; omega
      · obtain rfl : k = N := by omega
        have q1 : decide ((k : Int) < (k : Nat)) = false := by simp
        have hfin : sk = s ∧ rk = (r + 1) % 65536 := by
          have := hrel.out
          split at this <;> omega
        obtain ⟨rfl, rfl⟩ := hfin
        have hS1 := hS.below hbk hS.lt
        have x0 := hS1.cell 0 rfl
        have x1 := hS1.cell 1 rfl
        have x2 := hS1.cell 2 rfl
        have y0 := hB.cell 0 rfl
        have y1 := hB.cell 1 rfl
        have y2 := hB.cell 2 rfl
        have hbf := hb0.trans (hbk.mono hb0.size)
        clear hS1 hB hS hrel hstep hN
        go_wp2_with (go_at_call 18; refine (known_tb _).mono ?_; rintro e wf ⟨rfl, hb6⟩)
        go_ret
        exact ⟨by simp, hbf.trans (hb6.mono hbf.size)⟩

/-! ### THE ROW's STEP around the walk. -/
theorem own_tableNext : ownKnob Try.prog.godebug = none := by kernel_rfl
theorem laidOut_tableNext : laidOutB Try.prog = true := by kernel_rfl
set_option maxRecDepth 100000 in
theorem lifted_tableNext (os : Os) (started : os.Started) (H : Type) (enc : TypeId × Value → H) :
    ReturnsInHanded {} Try.checked os 8 .any (Rows.tableNextSpec.pre6 enc Try.prog Try.f8 Rows.tableNextRow.domain false) (Rows.tableNextSpec.post enc Try.prog Try.f8 false true false false) := by
  refine returnsInHanded_of_change (C := Try.checked) own_tableNext started (by kernel_rfl) Try.func8
    (ChangeSpec.witness6 (enc := enc) (C := Try.checked) false ⟨#[], #[.int .i64 0, .agg #[.int .i64 0, .int .i64 0, .int .i64 0]], []⟩ 8 (by kernel_rfl) (by kernel_rfl) (by kernel_rfl) (by kernel_rfl)) ?_
  intro W base args ds gs before hval0 hW hcnd _
  have hval : ∀ (j : Nat) t v, Try.f8.params[j]? = some t → args[j]? = some v → Value.okWide Try.prog W .any base t v := hval0
  have hW' := hW
  obtain ⟨p, q, hA0, hV, rfl, hfz, hnd⟩ := hW
  have hA : DataW.TrodAll enc Try.prog W 0 (fun _ => true) true Try.f8.params.toList args.toList ds p := hA0
  rw [Try.params8] at hA hval
  obtain ⟨v0, vs0, d0, ds0, p0, q0, hargs, rfl, rfl, h0, r0⟩ := trodAll_cons hA
  obtain ⟨v1, vs1, d1, ds1, p1, q1, rfl, rfl, rfl, h1, r1⟩ := trodAll_cons r0
  obtain ⟨rfl, rfl, rfl⟩ := trodAll_nil r1
  obtain rfl : args = #[v0, v1] := by cases args; simp_all
  obtain ⟨rfl, rfl⟩ := trodVars_none hV
  obtain ⟨a0, rfl, rfl, rfl, w0⟩ := open_int Try.underlying3 (hval 0 3 v0 rfl rfl) h0
  obtain ⟨y1, rfl, s1⟩ := sees_state Try.underlying45 (by kernel_rfl) ⟨rfl, rfl⟩ ⟨rfl, rfl⟩ ⟨rfl, rfl⟩ Try.underlying3 (by kernel_rfl) (hval 1 45 v1 rfl rfl) h1
  have k1 := h1
  have lt1 : ∀ x ∈ p1, x.block < W.heap.size := by obtain ⟨m, hm⟩ := k1; exact DataW.trod_lt m _ _ _ hm
  clear hA0 hval0
  refine (walk_tableNext a0 y1 W (bounds_i64 w0) s1).mono fun e W' ⟨he, bel⟩ => ?_
  subst he
  exact ⟨_, rfl, _, _, _, [], _, [], hW', trodAll_mk1 (shut_bool Try.underlying4 _), (trodAll_cons_mk (shut_int Try.underlying3 w0) (trodAll_cons_mk (Below.trod laidOut_tableNext (by kernel_rfl) (of_decide_eq_true (by kernel_rfl)) k1 bel lt1) trodAll_mk0)), rfl, bel.frame _, fun h => by cases h⟩

theorem over_tableNext : Rows.tableNextRow.holds Try.pinned (OpenSpec.ofChange Rows.tableNextSpec) :=
  OpenClaim.holds_of_wide 8 Try.f8 rfl rfl rfl rfl rfl rfl rfl ⟨rfl, rfl, rfl, rfl, rfl⟩ rfl rfl rfl rfl rfl (by kernel_rfl) Try.func8 (by kernel_rfl)
    (of_decide_eq_true (by kernel_rfl)) (by unfold Func.isWrapper; first | (rw [if_pos (by decide +kernel)]; kernel_rfl) | (rw [if_neg (by decide +kernel)]; exact ⟨rfl, rfl⟩))
    (fun os started H enc _ => lifted_tableNext os started H enc)

theorem proved_tableNext : Rows.TableNextSaid := over_tableNext
end Go.Proofs.Ytpkdfdlchidmlaa
