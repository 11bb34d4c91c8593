/- ClockMoves holds: measures that are all less a number have an average that is less it. For all lists and numbers. -/
import Derived.Test.YtiaidachigiajaaClD
import Derived.Test.YtiaidachigiajaaClO
namespace Go.Proofs.Ytiaidachigiajaa
open Go.ChangeShapes Go.WideShapes Go.ChangeAt Go.RowKit
open Clk (avg)

theorem take_map (f : Int → Int) (l : List Int) (k : Nat) (h : k < l.length) : (l.take (k + 1)).map f = (l.take k).map f ++ [f (l.getD k 0)] := by
  rw [List.take_succ_eq_append_getElem h, List.map_append, List.getD_eq_getElem?_getD, List.getElem?_eq_getElem h]
  rfl
theorem small.snoc {l : List Int} {x : Int} (h : small l) (hx : -1099511627776 ≤ x ∧ x ≤ 1099511627776) : small (l ++ [x]) := fun y hy => by
  rcases List.mem_append.1 hy with hy | hy
  · exact h y hy
  · simp at hy; subst hy; exact hx

set_option maxRecDepth 100000 in
set_option maxHeartbeats 2000000 in
theorem walk_clockMoves (l : List Int) (v : Value) (d : Int) (w : World) (h : InInts w v l) (_hd : -9223372036854775808 ≤ d ∧ d ≤ 9223372036854775807) :
    Calls Try.prog 5 #[v, .int .i64 d] w fun e w' => e = .returned (.bool true) ∧ Below w.heap.size w w' := by
  have F := Lib.hid (few_cl l v w _ h.sees)
  have G := fun hb W (hw : Below w.heap.size w W) => Lib.hid (avg_cl l v W w.heap.size hw.size (h.sees.below hw) (fewB_small hb).1 (fewB_small hb).2)
  have hsee := h.sees
  obtain ⟨A, c, rfl, v1, v2, v3, -⟩ := h.sees.at_
  have HC : Hid (∀ W, Below w.heap.size w W → ∀ k, k < l.length → ∃ b off, A = some ⟨b, off, none⟩ ∧ W.cell? ⟨b, off + k, none⟩ = some (.int .i64 (l.getD k 0))) := Lib.hid (fun W hW k hk => by
    obtain ⟨b, off, e, hb, h⟩ := v3 (by omega)
    exact ⟨b, off, e, (hW.cell hb).trans (h k hk)⟩)
  clear h v3 hsee
  cases hb : fewB l
  · rw [hb] at F
    go_enter Try.func5, Try.ntmps5
    go_wp2_with fail
    refine F.out.mono ?_
    rintro e w' ⟨rfl, rfl⟩
    go_wp2
    go_ret
    exact ⟨rfl, Below.refl _ _⟩
  rw [hb] at F
  have G := G hb
  obtain ⟨hsm, hl4⟩ := fewB_small hb
  by_cases h0 : l.length = 0
  · have q0 : ((l.length : Int) == 0) = true := by rw [beq_iff_eq]; omega
    clear hb hsm h0
    go_enter Try.func5, Try.ntmps5
    go_wp2_with fail
    refine F.out.mono ?_
    rintro e w' ⟨rfl, rfl⟩
    go_wp2
    go_ret
    exact ⟨rfl, Below.refl _ _⟩
  have q0 : ((l.length : Int) == 0) = false := by rw [beq_eq_false_iff_ne]; omega
  by_cases c1 : d < -549755813888
  · clear hb hsm
    go_enter Try.func5, Try.ntmps5
    go_wp2_with fail
    refine F.out.mono ?_
    rintro e w' ⟨rfl, rfl⟩
    go_wp2
    go_ret
    exact ⟨rfl, Below.refl _ _⟩
  by_cases c2 : 549755813888 < d
  · clear hb hsm
    go_enter Try.func5, Try.ntmps5
    go_wp2_with fail
    refine F.out.mono ?_
    rintro e w' ⟨rfl, rfl⟩
    go_wp2
    go_ret
    exact ⟨rfl, Below.refl _ _⟩
  have HT := Lib.hid (take_map (· - d) l)
  have HF : Hid (∀ k, k = l.length → l.take k = l) := Lib.hid (fun k hk => by rw [hk, List.take_length])
  have HA : Hid (avg (l.map (· - d)) = avg l - d) := Lib.hid (Clk.avg_map_sub l d (by omega) hl4)
  have hbd := Clk.avg_bound (B := 1099511627776) (by decide) hsm hl4
  obtain ⟨bd1, bd2⟩ := hbd
  generalize avg l = r at *
  clear hb hsm
  unfold maxLen at v2
  go_enter Try.func5, Try.ntmps5
  go_wp2_with fail
  refine F.out.mono ?_
  rintro e w' ⟨rfl, hw⟩
  obtain rfl := hw.symm
  clear hw
  go_wp2
  go_loopw [5, 6] (fun u i wr => ∃ k : Nat, k ≤ l.length ∧ i = .int .i64 k ∧ OwnsI wr w.heap.size u ((l.take k).map (· - d)) ∧ small ((l.take k).map (· - d)) ∧ Below w.heap.size w wr) (fun _ i _ => l.length - (intOf i).toNat)
  case atStart => exact ⟨0, by omega, rfl, by simpa using OwnsI.nil, by simp [small], Below.refl _ _⟩
  case round =>
    obtain ⟨k, hk, rfl, ho, hsm, hbw⟩ := hrel
    by_cases hlt : k < l.length
    · have q1 : decide (((k : Nat) : Int) < (l.length : Int)) = true := decide_eq_true (by omega)
      have HTk := Lib.hid (HT.out k hlt)
      obtain ⟨b, off, rfl, hc⟩ := HC.out wr hbw k hlt
      have hlm : ((l.take k).map (· - d)).length ≤ 4 := by simp; omega
      generalize (l.take k).map (· - d) = m at *
      generalize l.getD k 0 = x at *
      by_cases e1 : x < -549755813888
      · go_wp2
        go_ret
        exact ⟨rfl, hbw⟩
      by_cases e2 : 549755813888 < x
      · go_wp2
        go_ret
        exact ⟨rfl, hbw⟩
      have hsee := Lib.hid (sees_liti wr 3 #[.int .i64 (x - d)] [x - d] rfl (wr.heap.size + 1) (by omega) (by simp [maxLen]) _ 1 1 rfl rfl rfl)
      go_wp2_with (at_builtin; go_loud (refine wpList_pushI _ rfl (.tmp 41) (.tmp 48) 22 rfl w.heap.size infoInt Try.underlying22 _ m (ho.alloc _) rfl _ _ [x - d] rfl hsee.out (by have := hbw.size; simp; omega) (by simp; omega) ?_))
      intro v5 w5 ho5 hx5
      have hb5 := (hbw.alloc hbw.size (.cells #[.int .i64 (x - d)] 3)).trans (hx5.toBelow (B := w.heap.size) (by have := hbw.size; simp; omega) (fun j hj => (ho.lt j hj).1))
      go_wp2
      go_roundw
      case rel => exact ⟨k + 1, by omega, by go_num, by rw [HTk.out]; exact ho5, by rw [HTk.out]; exact hsm.snoc (by omega), hb5⟩
      case measure => simp [intOf]; omega
    · have q1 : decide (((k : Nat) : Int) < (l.length : Int)) = false := decide_eq_false (by omega)
      have hkl := HF.out k (by omega)
      rw [hkl] at ho hsm
      have G1 := Lib.hid (avg_cl _ _ wr wr.heap.size (Nat.le_refl _) ho.sees hsm (by simpa using hl4))
      rw [HA.out] at G1
      clear hkl ho hsm
      go_wp2_with fail
      refine G1.out.mono ?_
      rintro e w1 ⟨rfl, hb1⟩
      have hb1 := hbw.trans (hb1.mono hbw.size)
      go_wp2_with fail
      refine (G w1 hb1).out.mono ?_
      rintro e w2 ⟨rfl, hb2⟩
      have hb2 := hb1.trans (hb2.mono hb1.size)
      go_wp2_with fail
      refine (known_cl w2).mono ?_
      rintro e w3 ⟨rfl, hb3⟩
      go_wp2
      go_ret
      exact ⟨by simp, hb2.trans (hb3.mono hb2.size)⟩

/-! ### THE ROW's STEP around the walk. -/
theorem own_clockMoves : ownKnob Try.prog.godebug = none := by kernel_rfl
theorem laidOut_clockMoves : laidOutB Try.prog = true := by kernel_rfl
set_option maxRecDepth 100000 in
theorem lifted_clockMoves (os : Os) (started : os.Started) (H : Type) (enc : TypeId × Value → H) :
    ReturnsInHanded {} Try.checked os 5 .any (Rows.clockMovesSpec.pre6 enc Try.prog Try.f5 Rows.clockMovesRow.domain false) (Rows.clockMovesSpec.post enc Try.prog Try.f5 false true false false) := by
  refine returnsInHanded_of_change (C := Try.checked) own_clockMoves started (by kernel_rfl) Try.func5
    (ChangeSpec.witness6 (enc := enc) (C := Try.checked) false ⟨#[], #[.slice none 0 0, .int .i64 0], []⟩ 8 (by kernel_rfl) (by kernel_rfl) (by kernel_rfl) (by kernel_rfl)) ?_
  intro W base args ds gs before hval0 hW hcnd _
  have hval : ∀ (j : Nat) t v, Try.f5.params[j]? = some t → args[j]? = some v → Value.okWide Try.prog W .any base t v := hval0
  have hW' := hW
  obtain ⟨p, q, hA0, hV, rfl, hfz, hnd⟩ := hW
  have hA : DataW.TrodAll enc Try.prog W 0 (fun _ => true) true Try.f5.params.toList args.toList ds p := hA0
  rw [Try.params5] at hA hval
  obtain ⟨v0, vs0, d0, ds0, p0, q0, hargs, rfl, rfl, h0, r0⟩ := trodAll_cons hA
  obtain ⟨v1, vs1, d1, ds1, p1, q1, rfl, rfl, rfl, h1, r1⟩ := trodAll_cons r0
  obtain ⟨rfl, rfl, rfl⟩ := trodAll_nil r1
  obtain rfl : args = #[v0, v1] := by cases args; simp_all
  obtain ⟨rfl, rfl⟩ := trodVars_none hV
  obtain ⟨A0, n0, c0, rfl⟩ := okWide_slice Try.underlying22 (hval 0 22 v0 rfl rfl)
  have k0 := h0
  have lt0 : ∀ x ∈ p0, x.block < W.heap.size := by obtain ⟨m, hm⟩ := k0; exact DataW.trod_lt m _ _ _ hm
  obtain ⟨l0, s0⟩ := sees_ints Try.underlying22 Try.underlying3 (by kernel_rfl) h0
  obtain ⟨a1, rfl, rfl, rfl, w1⟩ := open_int Try.underlying3 (hval 1 3 v1 rfl rfl) h1
  clear hA0 hval0
  refine (walk_clockMoves l0 _ a1 W s0 (bounds_i64 w1)).mono fun e W' ⟨he, bel⟩ => ?_
  subst he
  exact ⟨_, rfl, _, _, _, [], _, [], hW', trodAll_mk1 (shut_bool Try.underlying4 _), (trodAll_cons_mk (Below.trod laidOut_clockMoves (by kernel_rfl) (of_decide_eq_true (by kernel_rfl)) k0 bel lt0) (trodAll_cons_mk (shut_int Try.underlying3 w1) trodAll_mk0)), rfl, bel.frame _, fun h => by cases h⟩

theorem over_clockMoves : Rows.clockMovesRow.holds Try.pinned (OpenSpec.ofChange Rows.clockMovesSpec) :=
  OpenClaim.holds_of_wide 5 Try.f5 rfl rfl rfl rfl rfl rfl rfl ⟨rfl, rfl, rfl, rfl, rfl⟩ rfl rfl rfl rfl rfl (by kernel_rfl) Try.func5 (by kernel_rfl)
    (of_decide_eq_true (by kernel_rfl)) (by unfold Func.isWrapper; first | (rw [if_pos (by decide +kernel)]; kernel_rfl) | (rw [if_neg (by decide +kernel)]; exact ⟨rfl, rfl⟩))
    (fun os started H enc _ => lifted_clockMoves os started H enc)

theorem proved_clockMoves : Rows.ClockMovesSaid := over_clockMoves
end Go.Proofs.Ytiaidachigiajaa
