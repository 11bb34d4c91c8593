/- ClockMeets holds: clocks that measure the same from wherever they stand are turned to one time. For all lists. -/
import Derived.Test.YtiaidachigiajaaClMath2
import Derived.Test.YtiaidachigiajaaClO
namespace Go.Proofs.Ytiaidachigiajaa
open Go.ChangeShapes Go.WideShapes Go.ChangeAt Go.RowKit
open Clk (avg)

theorem map_take_snoc (l : List Int) (a : Int) (k : Nat) (h : k < l.length) : (l.take (k + 1)).map (· - a) = (l.take k).map (· - a) ++ [l.getD k 0 - a] := by
  rw [take_snoc' l k h, List.map_append]; rfl
theorem keep4_lt {l : List Int} (h : l.length < 4) (x : Int) : keep4 l x = l ++ [x] := by unfold keep4; rw [if_neg (by omega)]
theorem wiB_of {m n : Int} (h : -m ≤ n ∧ n ≤ m) : wiB m n = true := decide_eq_true h
theorem half_map {l : List Int} {a : Int} (hl : ∀ j, j < l.length → -549755813888 ≤ l.getD j 0 ∧ l.getD j 0 ≤ 549755813888) (ha : -549755813888 ≤ a ∧ a ≤ 549755813888) : small (l.map (· - a)) := fun x hx => by
  obtain ⟨y, hy, rfl⟩ := List.mem_map.1 hx
  obtain ⟨i, hi, rfl⟩ := List.getElem_of_mem hy
  have := hl i hi
  rw [List.getD_eq_getElem?_getD, List.getElem?_eq_getElem hi, Option.getD_some] at this
  omega

set_option maxRecDepth 100000 in
set_option maxHeartbeats 4000000 in
theorem walk_clockMeets (at_ : List Int) (v : Value) (l : List Int) (u : Value) (w : World) (h : InInts w v at_) (hu : InInts w u l) :
    Calls Try.prog 7 #[v, u] w fun e w' => e = .returned (.bool true) ∧ Below w.heap.size w w' := by
  have F := Lib.hid (few_cl l u w _ hu.sees)
  obtain ⟨A, c, rfl, v1, v2, v3, -⟩ := h.sees.at_
  obtain ⟨U, c', rfl, u1, u2, u3, -⟩ := hu.sees.at_
  have HC : Hid (∀ W, Below w.heap.size w W → ∀ k, k < at_.length → ∃ b off, A = some ⟨b, off, none⟩ ∧ W.cell? ⟨b, off + k, none⟩ = some (.int .i64 (at_.getD k 0))) := Lib.hid (fun W hW k hk => by
    obtain ⟨b, off, e, hb, h⟩ := v3 (by omega)
    exact ⟨b, off, e, (hW.cell hb).trans (h k hk)⟩)
  have HU : Hid (∀ W, Below w.heap.size w W → ∀ k, k < l.length → ∃ b off, U = some ⟨b, off, none⟩ ∧ W.cell? ⟨b, off + k, none⟩ = some (.int .i64 (l.getD k 0))) := Lib.hid (fun W hW k hk => by
    obtain ⟨b, off, e, hb, h⟩ := u3 (by omega)
    exact ⟨b, off, e, (hW.cell hb).trans (h k hk)⟩)
  clear h hu v3 u3
  unfold maxLen at v2 u2
  by_cases c1 : 8 < at_.length
  · have q1 : decide ((8 : Int) < ((at_.length : Nat) : Int)) = true := decide_eq_true (by omega)
    go_enter Try.func7, Try.ntmps7
    go_wp2
    go_ret
    exact ⟨rfl, Below.refl _ _⟩
  have q1 : decide ((8 : Int) < ((at_.length : Nat) : Int)) = false := decide_eq_false (by omega)
  cases hb : fewB l
  · rw [hb] at F
    go_enter Try.func7, Try.ntmps7
    go_wp2_with fail
    refine F.out.mono ?_
    rintro e w' ⟨rfl, rfl⟩
    go_wp2
    go_ret
    exact ⟨rfl, Below.refl _ _⟩
  rw [hb] at F
  have hl4 := (fewB_small hb).2
  clear hb
  go_enter Try.func7, Try.ntmps7
  go_wp2_with fail
  refine F.out.mono ?_
  rintro e w' ⟨rfl, hw⟩
  obtain rfl := hw.symm
  clear hw F
  go_wp2
  go_loop [5] (fun i => ∃ (k : Nat), k ≤ l.length ∧ i = .int .i64 k ∧ ∀ j, j < k → -549755813888 ≤ l.getD j 0 ∧ l.getD j 0 ≤ 549755813888) (fun i => l.length - (intOf i).toNat)
  case atStart => exact ⟨0, by omega, rfl, fun j hj => by omega⟩
  case round =>
    obtain ⟨k, hk, rfl, hj⟩ := hrel
    by_cases hlt : k < l.length
    · have HN : Hid (∀ x, x = l.getD k 0 → (-549755813888 ≤ x ∧ x ≤ 549755813888) → ∀ j, j < k + 1 → -549755813888 ≤ l.getD j 0 ∧ l.getD j 0 ≤ 549755813888) := Lib.hid (fun x hx hb j hj' => by
        by_cases e : j = k
        · rw [e, ← hx]; exact hb
        · exact hj j (by omega))
      clear hj
      have q3 : decide (((k : Nat) : Int) < (l.length : Int)) = true := decide_eq_true (by omega)
      obtain ⟨b, off, rfl, hcell⟩ := HU.out w (Below.refl _ _) k hlt
      have HN := Lib.hid (HN.out _ rfl)
      generalize l.getD k 0 = x at hcell HN
      by_cases e1 : x < -549755813888
      · go_wp2
        go_ret
        exact ⟨rfl, Below.refl _ _⟩
      by_cases e2 : 549755813888 < x
      · go_wp2
        go_ret
        exact ⟨rfl, Below.refl _ _⟩
      go_wp2
      go_round
      case rel => exact ⟨k + 1, by omega, by go_num, HN.out (by omega)⟩
      case measure => simp [intOf]; omega
    · have q3 : decide (((k : Nat) : Int) < (l.length : Int)) = false := decide_eq_false (by omega)
      have hj : ∀ j, j < l.length → -549755813888 ≤ l.getD j 0 ∧ l.getD j 0 ≤ 549755813888 := fun j h => hj j (by omega)
      have HJ := Lib.hid hj
      have HA : Hid (∀ a : Int, (-549755813888 ≤ a ∧ a ≤ 549755813888) → small (l.map (· - a)) ∧ (0 < l.length → avg (l.map (· - a)) = avg l - a) ∧ wiB 2199023255552 (avg (l.map (· - a))) = true ∧ -1099511627776 ≤ avg (l.map (· - a)) ∧ avg (l.map (· - a)) ≤ 1099511627776) := Lib.hid (fun a ha => by
        have hs := half_map hj ha
        have hb := Clk.avg_bound (B := 1099511627776) (by decide) hs (by simpa using hl4)
        exact ⟨hs, fun h0 => Clk.avg_map_sub l a h0 hl4, wiB_of (by omega), hb⟩)
      have HT := Lib.hid (map_take_snoc l)
      have HF : Hid (∀ (a : Int) k, k = l.length → (l.take k).map (· - a) = l.map (· - a)) := Lib.hid (fun a k hk => by rw [hk, List.take_length])
      clear hj
      generalize hR : avg l = R at HA
      clear hR HJ
      go_wp2
      go_loopw [6, 7] (fun f i wr => ∃ (k : Nat) (r : Int), k ≤ at_.length ∧ i = .int .i64 k ∧ f = .int .i64 r ∧ (0 < k → 0 < l.length → r = R) ∧ Below w.heap.size w wr) (fun _ i _ => at_.length - (intOf i).toNat)
      case atStart => exact ⟨0, 0, by omega, rfl, rfl, fun h => by omega, Below.refl _ _⟩
      case round =>
        clear hlt hk q3
        obtain ⟨k, r, hk, rfl, rfl, hr, hbw⟩ := hrel
        have HRr := Lib.hid hr
        clear hr
        by_cases hlt : k < at_.length
        · have q3 : decide (((k : Nat) : Int) < (at_.length : Int)) = true := decide_eq_true (by omega)
          obtain ⟨b, off, rfl, hcell⟩ := HC.out wr hbw k hlt
          have HC2 : Hid (∀ W, Below w.heap.size w W → W.cell? ⟨b, off + k, none⟩ = some (.int .i64 (at_.getD k 0))) := Lib.hid (fun W hW => by
            obtain ⟨b', off', e, h⟩ := HC.out W hW k hlt
            simp only [Option.some.injEq, Addr.mk.injEq] at e
            obtain ⟨rfl, rfl, -⟩ := e
            exact h)
          generalize at_.getD k 0 = a at *
          by_cases e1 : a < -549755813888
          · go_wp2
            go_ret
            exact ⟨rfl, hbw⟩
          by_cases e2 : 549755813888 < a
          · go_wp2
            go_ret
            exact ⟨rfl, hbw⟩
          obtain ⟨A1, A2, A3, A4, A5⟩ := HA.out a (by omega)
          have T1 := fun W g h => term_cl g 2199023255552 (l.map (· - a)) W h A1 (by omega)
          unfold termV at T1
          rw [A3] at T1
          simp only [if_true] at T1
          have A2h := Lib.hid A2
          clear A2
          generalize avg (l.map (· - a)) = n at *
          have T1 := fun W g h => Lib.hid (T1 W g h)
          have A1h := Lib.hid A1
          clear A1 A3
          have nw := fun W => Lib.hid (new_cl 2199023255552 W)
          go_wp2_with fail
          refine (nw wr).out.mono ?_
          rintro e w1 ⟨rfl, hc1, hb1, hz1⟩
          have hz1 := Lib.hid hz1
          have hg := hbw.size
          generalize wr.heap.size = g at *
          have hbx := hbw.trans (hb1.mono hg)
          clear hb1 hbw hcell
          go_wp2
          go_loopw [9] (fun i wi => ∃ j : Nat, j ≤ l.length ∧ i = .int .i64 j ∧ ClkAt wi g 2199023255552 ((l.take j).map (· - a)) ∧ Below w.heap.size w wi) (fun i _ => l.length - (intOf i).toNat)
          case atStart => exact ⟨0, by omega, rfl, by simpa using hc1, hbx⟩
          case round =>
            clear hc1 hbx
            obtain ⟨j, hj, rfl, hck, hbw⟩ := hrel
            by_cases hjl : j < l.length
            · have q4 : decide (((j : Nat) : Int) < (l.length : Int)) = true := decide_eq_true (by omega)
              obtain ⟨b', off', rfl, hcu⟩ := HU.out wr hbw j hjl
              have hca := HC2.out wr hbw
              have HTj := Lib.hid (HT.out a j hjl)
              have HC3 : Hid (∀ W, Below w.heap.size w W → W.cell? ⟨b, off + k, none⟩ = some (.int .i64 a) ∧ W.cell? ⟨b', off' + j, none⟩ = some (.int .i64 (l.getD j 0))) := Lib.hid (fun W hW => ⟨HC2.out W hW, by
                obtain ⟨b2, off2, e, h⟩ := HU.out W hW j hjl
                simp only [Option.some.injEq, Addr.mk.injEq] at e
                obtain ⟨rfl, rfl, -⟩ := e
                exact h⟩)
              have hm := fun W h => measure_cl g 2199023255552 ((l.take j).map (· - a)) (l.getD j 0 - a) W h
              rw [keep4_lt (by simp; omega)] at hm
              have HSx : Hid (small (l.map (· - a)) → -1099511627776 ≤ l.getD j 0 - a ∧ l.getD j 0 - a ≤ 1099511627776) := Lib.hid (fun h => by
                have := h.getD j
                rw [List.getD_eq_getElem?_getD, List.getElem?_map, List.getElem?_eq_getElem hjl] at this
                rw [List.getD_eq_getElem?_getD, List.getElem?_eq_getElem hjl]
                simpa using this)
              obtain ⟨y1, y2⟩ := HSx.out A1h.out
              clear HSx
              generalize l.getD j 0 = x at *
              have hm := fun W h => Lib.hid (hm W h)
              have z1 : IntKind.i64.wrap (x - a) = x - a := IntWalk.i64_in _ (by omega)
              have hck2 : Hid (ClkAt wr.drew g 2199023255552 ((l.take j).map (· - a))) := Lib.hid ⟨hck.1.drew, hck.2⟩
              go_wp2
              go_region_held3 (fun W => W.cell? ⟨b, off + k, none⟩ = some (.int .i64 a) ∧ W.cell? ⟨b', off' + j, none⟩ = some (.int .i64 x))
                ((refine HC3.out _ ?_; first | exact hbw | exact hbw.drew | exact hb2))
                (first
                  | ((go_at_call 19; with_reducible refine (hm _ ?_).out.mono ?_); (first | exact hck2.out | exact hck); rintro e w2 ⟨rfl, hc2, ho2⟩; have hb2 := hbw.drew.trans (ho2.below hg hck2.out.1.lt))
                  | fail)
              go_wp2
              go_roundw
              case rel => exact ⟨j + 1, by omega, by go_num, by rw [HTj.out]; exact hc2, hb2⟩
              case measure => simp [intOf]; omega
            · have q4 : decide (((j : Nat) : Int) < (l.length : Int)) = false := decide_eq_false (by omega)
              have hjl' : j = l.length := by omega
              rw [HF.out a j hjl'] at hck
              clear hjl'
              have hca := HC2.out wr hbw
              have HE : Hid (0 < l.length → a + n = R) := Lib.hid (fun h => by have := A2h.out h; omega)
              go_wp2_with fail
              refine (T1 wr g hck).out.mono ?_
              rintro e w2 ⟨rfl, hb2⟩
              have hb2 := hbw.trans (hb2.mono hbw.size)
              have hca2 := HC2.out w2 hb2
              clear hca
              by_cases hk0 : k = 0
              · have q5 : (((k : Nat) : Int) == 0) = true := by rw [beq_iff_eq]; omega
                have HK := Lib.hid hk0
                clear hk0
                by_cases hl0 : 0 < l.length
                · have q7 : decide ((0 : Int) < (l.length : Int)) = true := decide_eq_true (by omega)
                  go_wp2
                  go_roundw
                  case rel => exact ⟨k + 1, a + n, by omega, by go_num, rfl, fun _ h => HE.out h, hb2⟩
                  case measure => simp [intOf]; omega
                · have q7 : decide ((0 : Int) < (l.length : Int)) = false := decide_eq_false (by omega)
                  go_wp2
                  go_roundw
                  case rel => exact ⟨k + 1, a + n, by omega, by go_num, rfl, fun _ h => HE.out h, hb2⟩
                  case measure => simp [intOf]; omega
              · have q5 : (((k : Nat) : Int) == 0) = false := by rw [beq_eq_false_iff_ne]; omega
                have HK := Lib.hid hk0
                clear hk0
                by_cases hl0 : 0 < l.length
                · have q7 : decide ((0 : Int) < (l.length : Int)) = true := decide_eq_true (by omega)
                  have q8 : ((a + n) != r) = false := by
                    have := HE.out hl0
                    have := HRr.out (by have := HK.out; omega) hl0
                    rw [bne_eq_false_iff_eq]; omega
                  go_wp2
                  go_roundw
                  case rel => exact ⟨k + 1, r, by omega, by go_num, rfl, fun _ h => HRr.out (by have := HK.out; omega) h, hb2⟩
                  case measure => simp [intOf]; omega
                · have q7 : decide ((0 : Int) < (l.length : Int)) = false := decide_eq_false (by omega)
                  go_wp2
                  go_roundw
                  case rel => exact ⟨k + 1, r, by omega, by go_num, rfl, fun _ h => HRr.out (by have := HK.out; omega) h, hb2⟩
                  case measure => simp [intOf]; omega
        · have q3 : decide (((k : Nat) : Int) < (at_.length : Int)) = false := decide_eq_false (by omega)
          go_wp2_with fail
          refine (known_cl _).mono ?_
          rintro e w7 ⟨rfl, hb7⟩
          have hb7 := hbw.trans (hb7.mono hbw.size)
          go_wp2
          go_ret
          exact ⟨rfl, hb7⟩

/-! ### THE ROW's STEP around the walk. -/
theorem own_clockMeets : ownKnob Try.prog.godebug = none := by kernel_rfl
theorem laidOut_clockMeets : laidOutB Try.prog = true := by kernel_rfl
set_option maxRecDepth 100000 in
theorem lifted_clockMeets (os : Os) (started : os.Started) (H : Type) (enc : TypeId × Value → H) :
    ReturnsInHanded {} Try.checked os 7 .any (Rows.clockMeetsSpec.pre6 enc Try.prog Try.f7 Rows.clockMeetsRow.domain false) (Rows.clockMeetsSpec.post enc Try.prog Try.f7 false true false false) := by
  refine returnsInHanded_of_change (C := Try.checked) own_clockMeets started (by kernel_rfl) Try.func7
    (ChangeSpec.witness6 (enc := enc) (C := Try.checked) false ⟨#[], #[.slice none 0 0, .slice none 0 0], []⟩ 8 (by kernel_rfl) (by kernel_rfl) (by kernel_rfl) (by kernel_rfl)) ?_
  intro W base args ds gs before hval0 hW hcnd _
  have hval : ∀ (j : Nat) t v, Try.f7.params[j]? = some t → args[j]? = some v → Value.okWide Try.prog W .any base t v := hval0
  have hW' := hW
  obtain ⟨p, q, hA0, hV, rfl, hfz, hnd⟩ := hW
  have hA : DataW.TrodAll enc Try.prog W 0 (fun _ => true) true Try.f7.params.toList args.toList ds p := hA0
  rw [Try.params7] at hA hval
  obtain ⟨v0, vs0, d0, ds0, p0, q0, hargs, rfl, rfl, h0, r0⟩ := trodAll_cons hA
  obtain ⟨v1, vs1, d1, ds1, p1, q1, rfl, rfl, rfl, h1, r1⟩ := trodAll_cons r0
  obtain ⟨rfl, rfl, rfl⟩ := trodAll_nil r1
  obtain rfl : args = #[v0, v1] := by cases args; simp_all
  obtain ⟨rfl, rfl⟩ := trodVars_none hV
  obtain ⟨A0, n0, c0, rfl⟩ := okWide_slice Try.underlying22 (hval 0 22 v0 rfl rfl)
  have k0 := h0
  have lt0 : ∀ x ∈ p0, x.block < W.heap.size := by obtain ⟨m, hm⟩ := k0; exact DataW.trod_lt m _ _ _ hm
  obtain ⟨l0, s0⟩ := sees_ints Try.underlying22 Try.underlying3 (by kernel_rfl) h0
  obtain ⟨A1, n1, c1, rfl⟩ := okWide_slice Try.underlying22 (hval 1 22 v1 rfl rfl)
  have k1 := h1
  have lt1 : ∀ x ∈ p1, x.block < W.heap.size := by obtain ⟨m, hm⟩ := k1; exact DataW.trod_lt m _ _ _ hm
  obtain ⟨l1, s1⟩ := sees_ints Try.underlying22 Try.underlying3 (by kernel_rfl) h1
  clear hA0 hval0
  refine (walk_clockMeets l0 _ l1 _ W s0 s1).mono fun e W' ⟨he, bel⟩ => ?_
  subst he
  exact ⟨_, rfl, _, _, _, [], _, [], hW', trodAll_mk1 (shut_bool Try.underlying4 _), (trodAll_cons_mk (Below.trod laidOut_clockMeets (by kernel_rfl) (of_decide_eq_true (by kernel_rfl)) k0 bel lt0) (trodAll_cons_mk (Below.trod laidOut_clockMeets (by kernel_rfl) (of_decide_eq_true (by kernel_rfl)) k1 bel lt1) trodAll_mk0)), rfl, bel.frame _, fun h => by cases h⟩

theorem over_clockMeets : Rows.clockMeetsRow.holds Try.pinned (OpenSpec.ofChange Rows.clockMeetsSpec) :=
  OpenClaim.holds_of_wide 7 Try.f7 rfl rfl rfl rfl rfl rfl rfl ⟨rfl, rfl, rfl, rfl, rfl⟩ rfl rfl rfl rfl rfl (by kernel_rfl) Try.func7 (by kernel_rfl)
    (of_decide_eq_true (by kernel_rfl)) (by unfold Func.isWrapper; first | (rw [if_pos (by decide +kernel)]; kernel_rfl) | (rw [if_neg (by decide +kernel)]; exact ⟨rfl, rfl⟩))
    (fun os started H enc _ => lifted_clockMeets os started H enc)

theorem proved_clockMeets : Rows.ClockMeetsSaid := over_clockMeets
end Go.Proofs.Ytiaidachigiajaa
