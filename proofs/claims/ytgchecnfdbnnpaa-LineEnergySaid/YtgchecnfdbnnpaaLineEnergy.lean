/- LineEnergy holds: a row's energy is that of its channels; it does not turn with a sample. For all levels and numbers. -/
import Derived.Test.YtgchecnfdbnnpaaLineL
import Derived.Test.YtgchecnfdbnnpaaOpen2
namespace Go.Proofs.Ytgchecnfdbnnpaa
open Go.ChangeShapes Go.WideShapes Go.ChangeAt Go.RowKit
open Go.ChangeMaps (open_string shut_string)

theorem en_parts (a b : Nat → Int) : ∀ k, en (fun k => pf true (a k)) (fun k => pf false (b k)) k + en (fun k => pf false (a k)) (fun k => pf true (b k)) k = en a b k
  | 0 => rfl
  | k + 1 => by
    have ih := en_parts a b k
    have e1 : ∀ x, pf true x = x := fun _ => rfl
    have e2 : ∀ x, pf false x = 0 := fun _ => rfl
    simp only [en, e1, e2] at ih ⊢
    omega
theorem en_turned (t : Int) (a b : Nat → Int) : ∀ k, en (turned t a) (turned t b) k = en a b k
  | 0 => rfl
  | k + 1 => by
    have e : ∀ f : Nat → Int, turned t f k * turned t f k = f k * f k := fun f => by
      unfold turned
      split
      · exact Int.neg_mul_neg _ _
      · rfl
    have ih := en_turned t a b k
    show en (turned t a) (turned t b) k + (turned t a k * turned t a k + turned t b k * turned t b k) = en a b k + (a k * a k + b k * b k)
    rw [ih, e a, e b]

theorem geq_zero (E : Int) (h0 : 0 ≤ E) (h : E.natAbs < 2 ^ 53) : (FloatKind.f64.format.order (floatOfInt .f64 E) 0 == some .gt || FloatKind.f64.format.order (floatOfInt .f64 E) 0 == some .eq) = true := by
  have := order_fl E 0 h (by decide)
  rw [fl_zero] at this
  rw [this, show compare E 0 = compareOfLessAndEq E 0 from rfl]
  unfold compareOfLessAndEq
  rw [if_neg (by omega)]
  split <;> rfl

set_option maxRecDepth 100000 in
set_option maxHeartbeats 4000000 in
theorem walk_lineEnergy (A : Option Addr) (n c : Nat) (a b : Nat → Int) (t : Int) (w : World) (h : InPairs w A n c a b) (ht : -9223372036854775808 ≤ t ∧ t ≤ 9223372036854775807) :
    Calls Try.prog 8 #[.slice A n c, .int .i64 t] w fun e w' => e = .returned (.bool true) ∧ Below w.heap.size w w' := by
  obtain ⟨hs, hn, hc⟩ := h
  obtain ⟨M, hM⟩ : ∃ M, M = min n 200 := ⟨_, rfl⟩
  have hM2 : M ≤ 200 := by omega
  have R := row_any A n c a b w hs (by omega)
  rw [← hM] at R
  have lvs : ∀ x, -9 ≤ lev x ∧ lev x ≤ 9 := fun x => by have := lev_small x; omega
  have pvs : ∀ f x, -9 ≤ pf f (lev x) ∧ pf f (lev x) ≤ 9 := fun f x => by
    cases f
    · exact (⟨by decide, by decide⟩ : -9 ≤ (0 : Int) ∧ (0 : Int) ≤ 9)
    · exact lvs x
  have tvs : ∀ (f : Nat → Int) k, -9 ≤ turned t (fun k => lev (f k)) k ∧ turned t (fun k => lev (f k)) k ≤ 9 := fun f k => by
    have := lvs (f k)
    simp only [turned]
    split <;> omega
  obtain ⟨E, hE⟩ : ∃ E, E = en (fun k => lev (a k)) (fun k => lev (b k)) M := ⟨_, rfl⟩
  obtain ⟨E1, hE1⟩ : ∃ E, E = en (fun k => pf true (lev (a k))) (fun k => pf false (lev (b k))) M := ⟨_, rfl⟩
  obtain ⟨E2, hE2⟩ : ∃ E, E = en (fun k => pf false (lev (a k))) (fun k => pf true (lev (b k))) M := ⟨_, rfl⟩
  have b0 := en_le (fun k => lev (a k)) (fun k => lev (b k)) M fun j _ => ⟨lvs _, lvs _⟩
  have b1 := en_le (fun k => pf true (lev (a k))) (fun k => pf false (lev (b k))) M fun j _ => ⟨pvs _ _, pvs _ _⟩
  have b2 := en_le (fun k => pf false (lev (a k))) (fun k => pf true (lev (b k))) M fun j _ => ⟨pvs _ _, pvs _ _⟩
  have hsum := en_parts (fun k => lev (a k)) (fun k => lev (b k)) M
  have htu := en_turned t (fun k => lev (a k)) (fun k => lev (b k)) M
  rw [← hE] at b0 hsum htu
  rw [← hE1] at b1 hsum
  rw [← hE2] at b2 hsum
  have HS := Lib.hid hsum
  have HT := Lib.hid htu
  have HE := Lib.hid hE
  have HE1 := Lib.hid hE1
  have HE2 := Lib.hid hE2
  have GZ := geq_zero E (by omega) (by omega)
  have GE := order_eq E E (by omega) (by omega)
  simp only [decide_true] at GE
  have hadd : ∀ W : World, (binOp .add 43 (.float .f64 (floatOfInt .f64 E1)) (.float .f64 (floatOfInt .f64 E2))).run Try.prog W = .ok (.float .f64 (floatOfInt .f64 E)) W := fun W => by
    rw [run_add W E1 E2 (by omega) (by omega), HS.out]
  clear hM hs hn hc hsum htu hE hE1 hE2 b0 b1 b2
  go_enter Try.func8, Try.ntmps8
  go_wp2_with fail
  refine R.mono ?_
  clear R
  rintro e w1 ⟨v, rfl, ho1, hb1⟩
  obtain ⟨A1, c1, rfl, -, -, g1⟩ := Owns2.form ho1
  clear ho1
  go_wp2_with fail
  refine (of_any A1 M c1 _ _ w1 g1 (by omega)).mono ?_
  rintro e w2 ⟨v, rfl, ho2, hb2⟩
  obtain ⟨A2, c2, rfl, -, -, g2⟩ := Owns.form ho2
  have hb12 := hb1.trans (hb2.mono hb1.size)
  clear ho2 g1 hb1 hb2
  go_wp2_with fail
  refine (energy_any A2 M c2 _ _ w2 g2 (fun j _ => ⟨lvs _, lvs _⟩) (by omega)).mono ?_
  rintro e w2' ⟨rfl, rfl⟩
  rw [← HE.out]
  go_wp2_with fail
  refine (gate_any A2 M c2 _ _ _ _ w2 g2 (by omega)).mono ?_
  rintro e w3 ⟨v, rfl, ho3, hb3⟩
  obtain ⟨A3, c3, rfl, -, -, g3⟩ := Owns.form ho3
  clear ho3
  have g23 := (g2.below hb3).more hb3.size
  have hb13 := hb12.trans (hb3.mono hb12.size)
  clear hb3 g2 hb12
  go_wp2_with fail
  refine (energy_any A3 M c3 _ _ w3 g3 (fun j _ => ⟨pvs _ _, pvs _ _⟩) (by omega)).mono ?_
  rintro e w3' ⟨rfl, rfl⟩
  rw [← HE1.out]
  clear g3
  go_wp2_with fail
  refine (gate_any A2 M c2 _ _ _ _ w3 g23 (by omega)).mono ?_
  rintro e w4 ⟨v, rfl, ho4, hb4⟩
  obtain ⟨A4, c4, rfl, -, -, g4⟩ := Owns.form ho4
  clear ho4
  have g24 := (g23.below hb4).more hb4.size
  have hb14 := hb13.trans (hb4.mono hb13.size)
  clear hb4 g23 hb13
  go_wp2_with fail
  refine (energy_any A4 M c4 _ _ w4 g4 (fun j _ => ⟨pvs _ _, pvs _ _⟩) (by omega)).mono ?_
  rintro e w4' ⟨rfl, rfl⟩
  rw [← HE2.out]
  clear g4
  go_wp2_with fail
  refine (turn_any A2 M c2 _ _ t w4 g24 (fun k _ => by have := lvs (a k); omega) (fun k _ => by have := lvs (b k); omega) ht (by omega)).mono ?_
  rintro e w5 ⟨v, rfl, ho5, hb5⟩
  obtain ⟨A5, c5, rfl, -, -, g5⟩ := Owns.form ho5
  have hb15 := hb14.trans (hb5.mono hb14.size)
  clear ho5 hb5 g24 hb14
  go_wp2_with fail
  refine (energy_any A5 M c5 _ _ w5 g5 (fun j _ => ⟨tvs _ _, tvs _ _⟩) (by omega)).mono ?_
  rintro e w5' ⟨rfl, rfl⟩
  rw [HT.out]
  clear g5
  go_wp2_with (go_at_call 19; refine (known_any _).mono ?_; rintro e w10 ⟨rfl, hb10⟩)
  go_ret
  exact ⟨rfl, hb15.trans (hb10.mono hb15.size)⟩

/-! ### THE ROW's STEP around the walk. -/
theorem own_lineEnergy : ownKnob Try.prog.godebug = none := by kernel_rfl
theorem laidOut_lineEnergy : laidOutB Try.prog = true := by kernel_rfl
set_option maxRecDepth 100000 in
theorem lifted_lineEnergy (os : Os) (started : os.Started) (H : Type) (enc : TypeId × Value → H) :
    ReturnsInHanded {} Try.checked os 8 .any (Rows.lineEnergySpec.pre6 enc Try.prog Try.f8 Rows.lineEnergyRow.domain false) (Rows.lineEnergySpec.post enc Try.prog Try.f8 false true false false) := by
  refine returnsInHanded_of_change (C := Try.checked) own_lineEnergy started (by kernel_rfl) Try.func8
    (ChangeSpec.witness6 (enc := enc) (C := Try.checked) false ⟨#[], #[.slice none 0 0, .int .i64 0], []⟩ 8 (by kernel_rfl) (by kernel_rfl) (by kernel_rfl) (by kernel_rfl)) ?_
  intro W base args ds gs before hval0 hW hcnd _
  have hval : ∀ (j : Nat) t v, Try.f8.params[j]? = some t → args[j]? = some v → Value.okWide Try.prog W .any base t v := hval0
  have hW' := hW
  obtain ⟨p, q, hA0, hV, rfl, hfz, hnd⟩ := hW
  have hA : DataW.TrodAll enc Try.prog W 0 (fun _ => true) true Try.f8.params.toList args.toList ds p := hA0
  rw [Try.params8] at hA hval
  obtain ⟨v0, vs0, d0, ds0, p0, q0, hargs, rfl, rfl, h0, r0⟩ := trodAll_cons hA
  obtain ⟨v1, vs1, d1, ds1, p1, q1, rfl, rfl, rfl, h1, r1⟩ := trodAll_cons r0
  obtain ⟨rfl, rfl, rfl⟩ := trodAll_nil r1
  obtain rfl : args = #[v0, v1] := by cases args; simp_all
  obtain ⟨rfl, rfl⟩ := trodVars_none hV
  obtain ⟨A0, n0, c0, rfl⟩ := okWide_slice Try.underlying31 (hval 0 31 v0 rfl rfl)
  have k0 := h0
  have lt0 : ∀ x ∈ p0, x.block < W.heap.size := by obtain ⟨m, hm⟩ := k0; exact DataW.trod_lt m _ _ _ hm
  obtain ⟨a0, b0, s0⟩ := sees_pairs Try.underlying31 Try.underlying60 (by kernel_rfl) rfl rfl (by kernel_rfl) (by kernel_rfl) Try.underlying3 Try.underlying3 h0
  obtain ⟨a1, rfl, rfl, rfl, w1⟩ := open_int Try.underlying3 (hval 1 3 v1 rfl rfl) h1
  clear hA0 hval0
  refine (walk_lineEnergy A0 n0 c0 a0 b0 a1 W s0 (bounds_i64 w1)).mono fun e W' ⟨he, bel⟩ => ?_
  subst he
  exact ⟨_, rfl, _, _, _, [], _, [], hW', trodAll_mk1 (shut_bool Try.underlying4 _), (trodAll_cons_mk (Below.trod laidOut_lineEnergy (by kernel_rfl) (of_decide_eq_true (by kernel_rfl)) k0 bel lt0) (trodAll_cons_mk (shut_int Try.underlying3 w1) trodAll_mk0)), rfl, bel.frame _, fun h => by cases h⟩

theorem over_lineEnergy : Rows.lineEnergyRow.holds Try.pinned (OpenSpec.ofChange Rows.lineEnergySpec) :=
  OpenClaim.holds_of_wide 8 Try.f8 rfl rfl rfl rfl rfl rfl rfl ⟨rfl, rfl, rfl, rfl, rfl⟩ rfl rfl rfl rfl rfl (by kernel_rfl) Try.func8 (by kernel_rfl)
    (of_decide_eq_true (by kernel_rfl)) (by unfold Func.isWrapper; first | (rw [if_pos (by decide +kernel)]; kernel_rfl) | (rw [if_neg (by decide +kernel)]; exact ⟨rfl, rfl⟩))
    (fun os started H enc _ => lifted_lineEnergy os started H enc)

theorem proved_lineEnergy : Rows.LineEnergySaid := over_lineEnergy
end Go.Proofs.Ytgchecnfdbnnpaa
