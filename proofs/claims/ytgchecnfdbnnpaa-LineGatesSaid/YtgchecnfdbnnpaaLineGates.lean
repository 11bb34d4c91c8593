/- LineGates holds: a row is its two channels at once; a channel that is put to nought is silent. For all levels. -/
import Derived.Test.YtgchecnfdbnnpaaLineI
import Derived.Test.YtgchecnfdbnnpaaOpen2
import Derived.Test.YtgchecnfdbnnpaaMixTwo
namespace Go.Proofs.Ytgchecnfdbnnpaa
open Go.ChangeShapes Go.WideShapes Go.ChangeAt Go.RowKit
open Go.ChangeMaps (open_string shut_string)

set_option maxHeartbeats 4000000 in
theorem walk_lineGates (A : Option Addr) (n c : Nat) (a b : Nat → Int) (w : World) (h : InPairs w A n c a b) :
    Calls Try.prog 9 #[.slice A n c] w fun e w' => e = .returned (.bool true) ∧ Below w.heap.size w w' := by
  obtain ⟨hs, hn, hc⟩ := h
  obtain ⟨M, hM⟩ : ∃ M, M = min n 200 := ⟨_, rfl⟩
  have hM2 : M ≤ 200 := by omega
  have R := row_any A n c a b w hs (by omega)
  rw [← hM] at R
  have lvs : ∀ x, (lev x).natAbs < 2 ^ 50 := fun x => by have := lev_small x; omega
  have pvs : ∀ f x, (pf f (lev x)).natAbs < 2 ^ 50 := fun f x => by cases f; exact (by decide : (0 : Int).natAbs < 2 ^ 50); exact lvs x
  clear hM hs hn hc
  go_enter Try.func9, Try.ntmps9
  go_wp2_with fail
  refine R.mono ?_
  clear R
  rintro e w1 ⟨v, rfl, ho1, hb1⟩
  obtain ⟨A1, c1, rfl, -, -, g1⟩ := Owns2.form ho1
  clear ho1
  go_wp2_with fail
  refine (of_any A1 M c1 _ _ w1 g1 (by omega)).mono ?_
  rintro e w2 ⟨v, rfl, ho2, hb2⟩
  obtain ⟨A2, c2, rfl, -, -, g2⟩ := Owns.form ho2
  have hb12 := hb1.trans (hb2.mono hb1.size)
  clear ho2 g1 hb1 hb2
  go_wp2_with fail
  refine (gate_any A2 M c2 _ _ _ _ w2 g2 (by omega)).mono ?_
  rintro e w3 ⟨v, rfl, ho3, hb3⟩
  obtain ⟨A3, c3, rfl, -, -, g3⟩ := Owns.form ho3
  clear ho3
  have g2' := (g2.below hb3).more hb3.size
  go_wp2_with fail
  refine (gate_any A2 M c2 _ _ _ _ w3 g2' (by omega)).mono ?_
  rintro e w4 ⟨v, rfl, ho4, hb4⟩
  obtain ⟨A4, c4, rfl, -, -, g4⟩ := Owns.form ho4
  clear ho4
  have hb24 := hb3.trans (hb4.mono hb3.size)
  have g3' := (g3.below hb4).more hb4.size
  go_wp2_with fail
  refine (mix_two A3 A4 M M c3 c4 _ _ _ _ w4 _ g3' g4 (by omega) (by omega) (fun k => ⟨pvs _ _, pvs _ _⟩) (fun k => ⟨pvs _ _, pvs _ _⟩)).mono ?_
  rintro e w5 ⟨v, rfl, ho5, hb5⟩
  have hb25 := hb24.trans (hb5.mono hb24.size)
  rw [Nat.max_self] at ho5
  have ho5' := ho5.alike (V' := fun k => cx (lev (a k)) (lev (b k))) (fun k hk => by
    rw [if_pos hk, if_pos hk, if_pos hk, if_pos hk]
    simp [pf])
  obtain ⟨A5, c5, rfl, -, -, g5⟩ := Owns.form ho5'
  have g2'' := (g2.below hb25).more hb25.size
  clear ho5 ho5' g3 g3' g4 hb3 hb4 hb24 hb5 g2'
  go_wp2_with fail
  refine (gate_any A2 M c2 _ _ _ _ w5 g2'' (by omega)).mono ?_
  rintro e w6 ⟨v, rfl, ho6, hb6⟩
  obtain ⟨A6, c6, rfl, k1, k2, g6⟩ := Owns.form ho6
  clear ho6
  have hb26 := hb25.trans (hb6.mono hb25.size)
  have g5' := (g5.below hb6).more hb6.size
  have g2x := (g2.below hb26).more hb26.size
  go_wp2_with fail
  refine (read_any A6 M c6 _ _ w6 g6 (fun k _ => Nat.lt_trans (pvs _ _) (by decide)) (fun k _ => Nat.lt_trans (pvs _ _) (by decide)) k1 k2 (by omega)).mono ?_
  rintro e w7 ⟨K, p, L, q, rfl, t1, t2, hb7⟩
  have z1 : K = 0 := by
    rcases t1 with ⟨_, h, _⟩ | ⟨h, _⟩ | ⟨h, _⟩
    · exact h
    · exact absurd ((allZ_iff _ _).2 (fun k _ => (rfl : pf false _ = 0))) (by rw [h]; simp)
    · exact absurd ((allZ_iff _ _).2 (fun k _ => (rfl : pf false _ = 0))) (by rw [h]; simp)
  have z2 : L = 0 := by
    rcases t2 with ⟨_, h, _⟩ | ⟨h, _⟩ | ⟨h, _⟩
    · exact h
    · exact absurd ((allZ_iff _ _).2 (fun k _ => (rfl : pf false _ = 0))) (by rw [h]; simp)
    · exact absurd ((allZ_iff _ _).2 (fun k _ => (rfl : pf false _ = 0))) (by rw [h]; simp)
  subst z1
  subst z2
  clear t1 t2
  have hb27 := hb26.trans (hb7.mono hb26.size)
  have g5x := (g5'.below hb7).more hb7.size
  have g2y := (g2x.below hb7).more hb7.size
  clear g5' g2x g6 g2'' g5 hb6 hb25 hb26 hb7
  go_wp2_with fail
  refine (same_any A5 A2 M c5 c2 _ _ _ _ w7 g5x g2y (fun k _ => Nat.lt_trans (lvs _) (by decide)) (fun k _ => Nat.lt_trans (lvs _) (by decide)) (by omega)).mono ?_
  rintro e w8 ⟨rfl, d, rfl⟩
  have hb17 : Below w.heap.size w (w7.drewN d) := by
    have := hb12.trans (hb27.mono hb12.size)
    exact ⟨this.os, this.tape, this.output, this.size, this.block⟩
  have g2z : Sees (w7.drewN d) (w7.drewN d).heap.size A2 M (fun k => cx (lev (a k)) (lev (b k))) := g2y
  go_wp2_with fail
  refine (gate_any A2 M c2 _ _ _ _ (w7.drewN d) g2z (by omega)).mono ?_
  rintro e w9 ⟨v, rfl, ho9, hb9⟩
  obtain ⟨A9, c9, rfl, -, -, -⟩ := Owns.form ho9
  have hb19 := hb17.trans (hb9.mono hb17.size)
  clear ho9 g5x g2y g2z
  go_wp2_with (go_at_call 19; refine (known_any _).mono ?_; rintro e w10 ⟨rfl, hb10⟩)
  go_ret
  exact ⟨rfl, hb19.trans (hb10.mono hb19.size)⟩

/-! ### THE ROW's STEP around the walk. -/
theorem own_lineGates : ownKnob Try.prog.godebug = none := by kernel_rfl
theorem laidOut_lineGates : laidOutB Try.prog = true := by kernel_rfl
set_option maxRecDepth 100000 in
theorem lifted_lineGates (os : Os) (started : os.Started) (H : Type) (enc : TypeId × Value → H) :
    ReturnsInHanded {} Try.checked os 9 .any (Rows.lineGatesSpec.pre6 enc Try.prog Try.f9 Rows.lineGatesRow.domain false) (Rows.lineGatesSpec.post enc Try.prog Try.f9 false true false false) := by
  refine returnsInHanded_of_change (C := Try.checked) own_lineGates started (by kernel_rfl) Try.func9
    (ChangeSpec.witness6 (enc := enc) (C := Try.checked) false ⟨#[], #[.slice none 0 0], []⟩ 8 (by kernel_rfl) (by kernel_rfl) (by kernel_rfl) (by kernel_rfl)) ?_
  intro W base args ds gs before hval0 hW hcnd _
  have hval : ∀ (j : Nat) t v, Try.f9.params[j]? = some t → args[j]? = some v → Value.okWide Try.prog W .any base t v := hval0
  have hW' := hW
  obtain ⟨p, q, hA0, hV, rfl, hfz, hnd⟩ := hW
  have hA : DataW.TrodAll enc Try.prog W 0 (fun _ => true) true Try.f9.params.toList args.toList ds p := hA0
  rw [Try.params9] at hA hval
  obtain ⟨v0, vs0, d0, ds0, p0, q0, hargs, rfl, rfl, h0, r0⟩ := trodAll_cons hA
  obtain ⟨rfl, rfl, rfl⟩ := trodAll_nil r0
  obtain rfl : args = #[v0] := by cases args; simp_all
  obtain ⟨rfl, rfl⟩ := trodVars_none hV
  obtain ⟨A0, n0, c0, rfl⟩ := okWide_slice Try.underlying31 (hval 0 31 v0 rfl rfl)
  have k0 := h0
  have lt0 : ∀ x ∈ p0, x.block < W.heap.size := by obtain ⟨m, hm⟩ := k0; exact DataW.trod_lt m _ _ _ hm
  obtain ⟨a0, b0, s0⟩ := sees_pairs Try.underlying31 Try.underlying60 (by kernel_rfl) rfl rfl (by kernel_rfl) (by kernel_rfl) Try.underlying3 Try.underlying3 h0
  clear hA0 hval0
  refine (walk_lineGates A0 n0 c0 a0 b0 W s0).mono fun e W' ⟨he, bel⟩ => ?_
  subst he
  exact ⟨_, rfl, _, _, _, [], _, [], hW', trodAll_mk1 (shut_bool Try.underlying4 _), (trodAll_cons_mk (Below.trod laidOut_lineGates (by kernel_rfl) (of_decide_eq_true (by kernel_rfl)) k0 bel lt0) trodAll_mk0), rfl, bel.frame _, fun h => by cases h⟩

theorem over_lineGates : Rows.lineGatesRow.holds Try.pinned (OpenSpec.ofChange Rows.lineGatesSpec) :=
  OpenClaim.holds_of_wide 9 Try.f9 rfl rfl rfl rfl rfl rfl rfl ⟨rfl, rfl, rfl, rfl, rfl⟩ rfl rfl rfl rfl rfl (by kernel_rfl) Try.func9 (by kernel_rfl)
    (of_decide_eq_true (by kernel_rfl)) (by unfold Func.isWrapper; first | (rw [if_pos (by decide +kernel)]; kernel_rfl) | (rw [if_neg (by decide +kernel)]; exact ⟨rfl, rfl⟩))
    (fun os started H enc _ => lifted_lineGates os started H enc)

theorem proved_lineGates : Rows.LineGatesSaid := over_lineGates
end Go.Proofs.Ytgchecnfdbnnpaa
