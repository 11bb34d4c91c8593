/- ClockBetween holds: an average lies between the least and the greatest; one wild measure of four does not take it beyond the others. For all lists and numbers. -/
import Derived.Test.YtiaidachigiajaaClD
import Derived.Test.YtiaidachigiajaaClO
import Derived.StillTailTactics
namespace Go.Proofs.Ytiaidachigiajaa
open Go.ChangeShapes Go.WideShapes Go.ChangeAt Go.RowKit
open Clk (avg)

theorem fewB_len {l : List Int} (h : l.length = 3) : fewB l = true ↔ small l := by
  simp [fewB, small, h]
theorem three {l : List Int} (h : l.length = 3) : l = [l.getD 0 0, l.getD 1 0, l.getD 2 0] := by
  match l, h with
  | [p, q, r], _ => rfl
theorem lit_min (p q r : Int) : (if r < if q < p then q else p then r else if q < p then q else p) = min (min p q) r := by split <;> split <;> omega
theorem lit_max (p q r : Int) : (if (if p < q then q else p) < r then r else if p < q then q else p) = max (max p q) r := by split <;> split <;> omega
set_option maxRecDepth 100000 in
set_option maxHeartbeats 4000000 in
theorem walk_clockBetween (l : List Int) (v : Value) (x : Int) (w : World) (h : InInts w v l) (_hx : -9223372036854775808 ≤ x ∧ x ≤ 9223372036854775807) :
    Calls Try.prog 6 #[v, .int .i64 x] w fun e w' => e = .returned (.bool true) ∧ Below w.heap.size w w' := by
  have F := Lib.hid (few_cl l v w _ h.sees)
  obtain ⟨A, c, rfl, v1, v2, v3, -⟩ := h.sees.at_
  by_cases h3 : ¬ l.length = 3
  · have q0 : ((l.length : Int) != 3) = true := by rw [bne_iff_ne]; omega
    clear h v3
    go_enter Try.func6, Try.ntmps6
    go_wp2
    go_ret
    exact ⟨rfl, Below.refl _ _⟩
  have h3 : l.length = 3 := by omega
  cases hb : fewB l
  · rw [hb] at F
    rw [h3] at F ⊢
    clear h v3 hb h3
    go_enter Try.func6, Try.ntmps6
    go_wp2_with fail
    refine F.out.mono ?_
    rintro e w' ⟨rfl, rfl⟩
    go_wp2
    go_ret
    exact ⟨rfl, Below.refl _ _⟩
  rw [hb] at F
  obtain ⟨hsm, hl4⟩ := fewB_small hb
  by_cases c1 : x < -1099511627776
  · rw [h3] at F ⊢
    clear h v3 hb h3 hsm
    go_enter Try.func6, Try.ntmps6
    go_wp2_with fail
    refine F.out.mono ?_
    rintro e w' ⟨rfl, rfl⟩
    go_wp2
    go_ret
    exact ⟨rfl, Below.refl _ _⟩
  by_cases c2 : 1099511627776 < x
  · rw [h3] at F ⊢
    clear h v3 hb h3 hsm
    go_enter Try.func6, Try.ntmps6
    go_wp2_with fail
    refine F.out.mono ?_
    rintro e w' ⟨rfl, rfl⟩
    go_wp2
    go_ret
    exact ⟨rfl, Below.refl _ _⟩
  obtain ⟨b, off, rfl, hbl, hc⟩ := v3 (by omega)
  have hs := h.sees
  have hl := three h3
  have hsm3 : small [l.getD 0 0, l.getD 1 0, l.getD 2 0] := by rw [← hl]; exact hsm
  have k0 := hc 0 (by omega)
  have k1 := hc 1 (by omega)
  have k2 := hc 2 (by omega)
  unfold iv at k0 k1 k2
  clear hc h hsm hb
  generalize l.getD 0 0 = p at *
  generalize l.getD 1 0 = q at *
  generalize l.getD 2 0 = r at *
  subst hl
  have hsm4 : small [p, q, r, x] := by simp [small] at hsm3 ⊢; omega
  have hsm4' : small [x, r, q, p] := by simp [small] at hsm3 ⊢; omega
  have hperm : avg [x, r, q, p] = avg [p, q, r, x] := Clk.avg_perm (by
    have := List.reverse_perm [p, q, r, x]
    simpa using this)
  obtain ⟨W1, W2, W3, W4⟩ := Clk.avg_wild p q r x
  have G := fun W (hw : Below w.heap.size w W) => Lib.hid (avg_cl [p, q, r] _ W w.heap.size hw.size (hs.below hw) hsm3 (by simp))
  have A1 : ∀ W : World, Hid (Calls Try.prog 13 #[.slice (some ⟨W.heap.size, 0, none⟩) 4 4] (W.alloc (.cells #[.int .i64 p, .int .i64 q, .int .i64 r, .int .i64 x] 3)).drew fun e w' => e = .returned (.int .i64 (avg [p, q, r, x])) ∧ Below W.heap.size W w') := fun W => Lib.hid ((avg_lit [p, q, r, x] hsm4 (by simp) W.drew #[.int .i64 p, .int .i64 q, .int .i64 r, .int .i64 x] rfl 4 rfl (W.alloc (.cells #[.int .i64 p, .int .i64 q, .int .i64 r, .int .i64 x] 3)).drew rfl _ rfl).mono fun _ _ ⟨h1, h2⟩ => ⟨h1, (Below.refl W.heap.size W).drew.trans h2⟩)
  have A2 : ∀ W : World, Hid (Calls Try.prog 13 #[.slice (some ⟨W.heap.size, 0, none⟩) 4 4] (W.alloc (.cells #[.int .i64 x, .int .i64 r, .int .i64 q, .int .i64 p] 3)).drew fun e w' => e = .returned (.int .i64 (avg [p, q, r, x])) ∧ Below W.heap.size W w') := fun W => Lib.hid ((avg_lit [x, r, q, p] hsm4' (by simp) W.drew #[.int .i64 x, .int .i64 r, .int .i64 q, .int .i64 p] rfl 4 rfl (W.alloc (.cells #[.int .i64 x, .int .i64 r, .int .i64 q, .int .i64 p] 3)).drew rfl _ hperm).mono fun _ _ ⟨h1, h2⟩ => ⟨h1, (Below.refl W.heap.size W).drew.trans h2⟩)
  have HC : Hid (∀ W, Below w.heap.size w W → W.cell? ⟨b, off, none⟩ = some (.int .i64 p) ∧ W.cell? ⟨b, off + 1, none⟩ = some (.int .i64 q) ∧ W.cell? ⟨b, off + 2, none⟩ = some (.int .i64 r)) := Lib.hid (fun W hW => ⟨(hW.cell hbl).trans k0, (hW.cell hbl).trans k1, (hW.cell hbl).trans k2⟩)
  generalize avg [p, q, r, x] = n4 at *
  generalize avg [p, q, r] = n3 at *
  obtain ⟨mn, hmn⟩ : ∃ mn, mn = min (min p q) r := ⟨_, rfl⟩
  obtain ⟨mx, hmx⟩ : ∃ mx, mx = max (max p q) r := ⟨_, rfl⟩
  rw [← hmn] at W1 W3
  rw [← hmx] at W2 W4
  have HMN := Lib.hid hmn
  have HMX := Lib.hid hmx
  clear hmn hmx hperm hs h3 hl4 v1 hsm3 hsm4 hsm4' k0 k1 k2
  obtain ⟨k0, k1, k2⟩ := HC.out w (Below.refl _ _)
  simp only [List.length_cons, List.length_nil, Nat.zero_add, Nat.reduceAdd] at F G ⊢
  go_enter Try.func6, Try.ntmps6
  go_wp2_with fail
  refine F.out.mono ?_
  rintro e w' ⟨rfl, hw⟩
  obtain rfl := hw.symm
  clear hw
  go_wp2
  go_quiet (fail)
  rw [lit_min, lit_max, ← HMN.out, ← HMX.out]
  clear HMN HMX k0 k1 k2
  have hb0 := below_drewN (Below.refl w.heap.size w) nq
  generalize w.drewN nq = wz at *
  obtain ⟨k0, k1, k2⟩ := HC.out wz hb0
  go_wp2
  go_region_held3 (fun W => W.cell? ⟨b, off, none⟩ = some (.int .i64 p) ∧ W.cell? ⟨b, off + 1, none⟩ = some (.int .i64 q) ∧ W.cell? ⟨b, off + 2, none⟩ = some (.int .i64 r))
    ((refine HC.out _ ?_; first | exact hb0 | exact hb0.drew | exact (hb0.alloc hb0.size _).drew | exact hb0.alloc hb0.size _ | exact hb1))
    (first
      | ((go_at_call 13; with_reducible refine (A1 _).out.mono ?_); rintro e w1 ⟨rfl, hb⟩; have hb1 := hb0.trans (hb.mono hb0.size))
      | fail)
  clear A1 k0 k1 k2
  go_wp2
  go_region_held3 (fun W => W.cell? ⟨b, off, none⟩ = some (.int .i64 p) ∧ W.cell? ⟨b, off + 1, none⟩ = some (.int .i64 q) ∧ W.cell? ⟨b, off + 2, none⟩ = some (.int .i64 r))
    ((refine HC.out _ ?_; first | exact hb1 | exact hb1.drew | exact (hb1.alloc hb1.size _).drew | exact hb1.alloc hb1.size _ | exact hb2))
    (first
      | ((go_at_call 13; with_reducible refine (A2 _).out.mono ?_); rintro e w2 ⟨rfl, hb⟩; have hb2 := hb1.trans (hb.mono hb1.size))
      | fail)
  clear A2
  go_wp2_with fail
  refine (G _ hb2).out.mono ?_
  rintro e w3 ⟨rfl, hb3⟩
  have hb3 := hb2.trans (hb3.mono hb2.size)
  go_wp2_with fail
  refine (known_cl _).mono ?_
  rintro e w4 ⟨rfl, hb4⟩
  have hb4 := hb3.trans (hb4.mono hb3.size)
  go_wp2
  go_ret
  exact ⟨rfl, hb4⟩

/-! ### THE ROW's STEP around the walk. -/
theorem own_clockBetween : ownKnob Try.prog.godebug = none := by kernel_rfl
theorem laidOut_clockBetween : laidOutB Try.prog = true := by kernel_rfl
set_option maxRecDepth 100000 in
theorem lifted_clockBetween (os : Os) (started : os.Started) (H : Type) (enc : TypeId × Value → H) :
    ReturnsInHanded {} Try.checked os 6 .any (Rows.clockBetweenSpec.pre6 enc Try.prog Try.f6 Rows.clockBetweenRow.domain false) (Rows.clockBetweenSpec.post enc Try.prog Try.f6 false true false false) := by
  refine returnsInHanded_of_change (C := Try.checked) own_clockBetween started (by kernel_rfl) Try.func6
    (ChangeSpec.witness6 (enc := enc) (C := Try.checked) false ⟨#[], #[.slice none 0 0, .int .i64 0], []⟩ 8 (by kernel_rfl) (by kernel_rfl) (by kernel_rfl) (by kernel_rfl)) ?_
  intro W base args ds gs before hval0 hW hcnd _
  have hval : ∀ (j : Nat) t v, Try.f6.params[j]? = some t → args[j]? = some v → Value.okWide Try.prog W .any base t v := hval0
  have hW' := hW
  obtain ⟨p, q, hA0, hV, rfl, hfz, hnd⟩ := hW
  have hA : DataW.TrodAll enc Try.prog W 0 (fun _ => true) true Try.f6.params.toList args.toList ds p := hA0
  rw [Try.params6] at hA hval
  obtain ⟨v0, vs0, d0, ds0, p0, q0, hargs, rfl, rfl, h0, r0⟩ := trodAll_cons hA
  obtain ⟨v1, vs1, d1, ds1, p1, q1, rfl, rfl, rfl, h1, r1⟩ := trodAll_cons r0
  obtain ⟨rfl, rfl, rfl⟩ := trodAll_nil r1
  obtain rfl : args = #[v0, v1] := by cases args; simp_all
  obtain ⟨rfl, rfl⟩ := trodVars_none hV
  obtain ⟨A0, n0, c0, rfl⟩ := okWide_slice Try.underlying22 (hval 0 22 v0 rfl rfl)
  have k0 := h0
  have lt0 : ∀ x ∈ p0, x.block < W.heap.size := by obtain ⟨m, hm⟩ := k0; exact DataW.trod_lt m _ _ _ hm
  obtain ⟨l0, s0⟩ := sees_ints Try.underlying22 Try.underlying3 (by kernel_rfl) h0
  obtain ⟨a1, rfl, rfl, rfl, w1⟩ := open_int Try.underlying3 (hval 1 3 v1 rfl rfl) h1
  clear hA0 hval0
  refine (walk_clockBetween l0 _ a1 W s0 (bounds_i64 w1)).mono fun e W' ⟨he, bel⟩ => ?_
  subst he
  exact ⟨_, rfl, _, _, _, [], _, [], hW', trodAll_mk1 (shut_bool Try.underlying4 _), (trodAll_cons_mk (Below.trod laidOut_clockBetween (by kernel_rfl) (of_decide_eq_true (by kernel_rfl)) k0 bel lt0) (trodAll_cons_mk (shut_int Try.underlying3 w1) trodAll_mk0)), rfl, bel.frame _, fun h => by cases h⟩

theorem over_clockBetween : Rows.clockBetweenRow.holds Try.pinned (OpenSpec.ofChange Rows.clockBetweenSpec) :=
  OpenClaim.holds_of_wide 6 Try.f6 rfl rfl rfl rfl rfl rfl rfl ⟨rfl, rfl, rfl, rfl, rfl⟩ rfl rfl rfl rfl rfl (by kernel_rfl) Try.func6 (by kernel_rfl)
    (of_decide_eq_true (by kernel_rfl)) (by unfold Func.isWrapper; first | (rw [if_pos (by decide +kernel)]; kernel_rfl) | (rw [if_neg (by decide +kernel)]; exact ⟨rfl, rfl⟩))
    (fun os started H enc _ => lifted_clockBetween os started H enc)

theorem proved_clockBetween : Rows.ClockBetweenSaid := over_clockBetween
end Go.Proofs.Ytiaidachigiajaa
