/- LineReads holds: what both channels of any row tell; its energy. For all levels. -/
import Derived.Test.YtpjdjabpdpoedaaLineN
import Derived.Test.YtpjdjabpdpoedaaOpen2
namespace Go.Proofs.Ytpjdjabpdpoedaa
open Go.ChangeShapes Go.WideShapes Go.ChangeAt Go.RowKit
open Go.ChangeMaps (open_string shut_string)

/-- What is told, as a kind and a text. -/
def tellK (q : Nat → Int) (n : Nat) : Int := if allZ q n = true then 0 else if n % 8 = 0 ∧ allU q n = true then 2 else 1
def tellT (q : Nat → Int) (n : Nat) : ByteArray := if allZ q n = true then ByteArray.empty else if n % 8 = 0 ∧ allU q n = true then textOf (packed q) (n / 8) else ByteArray.empty
theorem run_text_nil (w : World) : (convert 36 9 (.slice none 0 0)).run Try.prog w = .ok (.string ByteArray.empty) w :=
  run_text (z := fun _ => 0) (B := 0) Sees.none_ fun _ => ⟨rfl, rfl⟩
theorem Told.text {w : World} {B : Nat} {q : Nat → Int} {n : Nat} {K : Int} {v : Value} (h : Told w B q n K v) :
    K = tellK q n ∧ (convert 36 9 v).run Try.prog w = .ok (.string (tellT q n)) w := by
  unfold tellK tellT
  rcases h with ⟨h1, rfl, rfl⟩ | ⟨h1, h2, h3, rfl, h5⟩ | ⟨h1, h2, rfl, rfl⟩
  · rw [if_pos h1, if_pos h1]
    exact ⟨rfl, run_text_nil w⟩
  · have hn : ¬ allZ q n = true := by rw [h1]; decide
    rw [if_neg hn, if_neg hn, if_pos ⟨h2, h3⟩, if_pos ⟨h2, h3⟩]
    obtain ⟨A, c, rfl, -, -, hs, hnil⟩ := Owns.formN h5
    exact ⟨rfl, run_text hs hnil⟩
  · have hn : ¬ allZ q n = true := by rw [h1]; decide
    have hn2 : ¬ (n % 8 = 0 ∧ allU q n = true) := fun h => by
      rcases h2 with h2 | h2
      · exact h2 h.1
      · rw [h2] at h; cases h.2
    rw [if_neg hn, if_neg hn, if_neg hn2, if_neg hn2]
    exact ⟨rfl, run_text_nil w⟩

set_option maxRecDepth 100000 in
set_option maxHeartbeats 4000000 in
theorem walk_lineReads (A : Option Addr) (n c : Nat) (a b : Nat → Int) (w : World) (h : InPairs w A n c a b) :
    Calls Try.prog 4 #[.slice A n c] w fun e w' => e = .returned (.bool true) ∧ Below w.heap.size w w' := by
  obtain ⟨hs, hn, hc⟩ := h
  obtain ⟨M, hM⟩ : ∃ M, M = min n 200 := ⟨_, rfl⟩
  have hM2 : M ≤ 200 := by omega
  have R := row_any A n c a b w hs (by omega)
  rw [← hM] at R
  have lvs : ∀ x, -9 ≤ lev x ∧ lev x ≤ 9 := fun x => by have := lev_small x; omega
  have lv53 : ∀ x, (lev x).natAbs < 2 ^ 53 := fun x => by have := lev_small x; omega
  have b0 := en_le (fun k => lev (a k)) (fun k => lev (b k)) M fun j _ => ⟨lvs _, lvs _⟩
  obtain ⟨E, hE⟩ : ∃ E, E = en (fun k => lev (a k)) (fun k => lev (b k)) M := ⟨_, rfl⟩
  rw [← hE] at b0
  have HE := Lib.hid hE
  have GE := order_eq E E (by omega) (by omega)
  simp only [decide_true] at GE
  clear hM hs hn hc hE b0
  go_enter Try.func4, Try.ntmps4
  go_wp2_with fail
  refine R.mono ?_
  clear R
  rintro e w1 ⟨v, rfl, ho1, hb1⟩
  obtain ⟨A1, c1, rfl, -, -, g1⟩ := Owns2.form ho1
  clear ho1
  go_wp2_with fail
  refine (of_any A1 M c1 _ _ w1 g1 (by omega)).mono ?_
  rintro e w2 ⟨v, rfl, ho2, hb2⟩
  obtain ⟨A2, c2, rfl, hc2, hc2', g2⟩ := Owns.form ho2
  have hb12 := hb1.trans (hb2.mono hb1.size)
  have g12 := (g1.below hb2).more hb2.size
  clear ho2 g1 hb1 hb2
  go_wp2_with fail
  refine (read_any A2 M c2 _ _ w2 g2 (fun k _ => lv53 _) (fun k _ => lv53 _) hc2 hc2' (by omega)).mono ?_
  rintro e w3 ⟨K, v, L, u, rfl, t1, t2, hb3⟩
  have hb13 := hb12.trans (hb3.mono hb12.size)
  have g13 := (g12.below hb3).more hb3.size
  clear g2 g12 hb12 hb3 hc2 hc2'
  go_wp2_with fail
  refine (refRead_any A1 M c1 _ _ w3 g13 (by omega)).mono ?_
  rintro e w4 ⟨K', v', L', u', rfl, t1', t2', hb4⟩
  have hb14 := hb13.trans (hb4.mono hb13.size)
  have g14 := (g13.below hb4).more hb4.size
  obtain ⟨rfl, x1⟩ := (t1.below hb4 (Nat.le_refl _)).text
  obtain ⟨rfl, x2⟩ := (t2.below hb4 (Nat.le_refl _)).text
  obtain ⟨rfl, x3⟩ := t1'.text
  obtain ⟨rfl, x4⟩ := t2'.text
  clear t1 t2 t1' t2' g13 hb13 hb4
  generalize tellK (fun k => lev (a k)) M = K1 at *
  generalize tellK (fun k => lev (b k)) M = K2 at *
  generalize tellT (fun k => lev (a k)) M = X1 at *
  generalize tellT (fun k => lev (b k)) M = X2 at *
  go_wp2_with fail
  clear x1 x2 x3 x4
  refine (of_any A1 M c1 _ _ w4 g14 (by omega)).mono ?_
  rintro e w5 ⟨y, rfl, ho5, hb5⟩
  obtain ⟨A5, c5, rfl, -, -, g5⟩ := Owns.form ho5
  have hb15 := hb14.trans (hb5.mono hb14.size)
  have g15 := (g14.below hb5).more hb5.size
  clear ho5 hb5 hb14 g14
  go_wp2_with fail
  refine (energy_any A5 M c5 _ _ w5 g5 (fun j _ => ⟨lvs _, lvs _⟩) (by omega)).mono ?_
  rintro e w5' ⟨rfl, rfl⟩
  rw [← HE.out]
  clear g5
  go_wp2_with fail
  refine (refEnergy_any A1 M c1 _ _ w5 g15 (fun j _ => ⟨lvs _, lvs _⟩) (by omega)).mono ?_
  rintro e w6 ⟨rfl, d, rfl⟩
  rw [← HE.out]
  clear g15
  have hb16 : Below w.heap.size w (w5.drewN d) := ⟨hb15.os, hb15.tape, hb15.output, hb15.size, hb15.block⟩
  clear hb15
  generalize w5.drewN d = w6 at *
  go_wp2_with (go_at_call 14; refine (known_any _).mono ?_; rintro e w10 ⟨rfl, hb10⟩)
  go_ret
  exact ⟨rfl, hb16.trans (hb10.mono hb16.size)⟩

/-! ### THE ROW's STEP around the walk. -/
theorem own_lineReads : ownKnob Try.prog.godebug = none := by kernel_rfl
theorem laidOut_lineReads : laidOutB Try.prog = true := by kernel_rfl
set_option maxRecDepth 100000 in
theorem lifted_lineReads (os : Os) (started : os.Started) (H : Type) (enc : TypeId × Value → H) :
    ReturnsInHanded {} Try.checked os 4 .any (Rows.lineReadsSpec.pre6 enc Try.prog Try.f4 Rows.lineReadsRow.domain false) (Rows.lineReadsSpec.post enc Try.prog Try.f4 false true false false) := by
  refine returnsInHanded_of_change (C := Try.checked) own_lineReads started (by kernel_rfl) Try.func4
    (ChangeSpec.witness6 (enc := enc) (C := Try.checked) false ⟨#[], #[.slice none 0 0], []⟩ 8 (by kernel_rfl) (by kernel_rfl) (by kernel_rfl) (by kernel_rfl)) ?_
  intro W base args ds gs before hval0 hW hcnd _
  have hval : ∀ (j : Nat) t v, Try.f4.params[j]? = some t → args[j]? = some v → Value.okWide Try.prog W .any base t v := hval0
  have hW' := hW
  obtain ⟨p, q, hA0, hV, rfl, hfz, hnd⟩ := hW
  have hA : DataW.TrodAll enc Try.prog W 0 (fun _ => true) true Try.f4.params.toList args.toList ds p := hA0
  rw [Try.params4] at hA hval
  obtain ⟨v0, vs0, d0, ds0, p0, q0, hargs, rfl, rfl, h0, r0⟩ := trodAll_cons hA
  obtain ⟨rfl, rfl, rfl⟩ := trodAll_nil r0
  obtain rfl : args = #[v0] := by cases args; simp_all
  obtain ⟨rfl, rfl⟩ := trodVars_none hV
  obtain ⟨A0, n0, c0, rfl⟩ := okWide_slice Try.underlying22 (hval 0 22 v0 rfl rfl)
  have k0 := h0
  have lt0 : ∀ x ∈ p0, x.block < W.heap.size := by obtain ⟨m, hm⟩ := k0; exact DataW.trod_lt m _ _ _ hm
  obtain ⟨a0, b0, s0⟩ := sees_pairs Try.underlying22 Try.underlying46 (by kernel_rfl) rfl rfl (by kernel_rfl) (by kernel_rfl) Try.underlying3 Try.underlying3 h0
  clear hA0 hval0
  refine (walk_lineReads A0 n0 c0 a0 b0 W s0).mono fun e W' ⟨he, bel⟩ => ?_
  subst he
  exact ⟨_, rfl, _, _, _, [], _, [], hW', trodAll_mk1 (shut_bool Try.underlying4 _), (trodAll_cons_mk (Below.trod laidOut_lineReads (by kernel_rfl) (of_decide_eq_true (by kernel_rfl)) k0 bel lt0) trodAll_mk0), rfl, bel.frame _, fun h => by cases h⟩

theorem over_lineReads : Rows.lineReadsRow.holds Try.pinned (OpenSpec.ofChange Rows.lineReadsSpec) :=
  OpenClaim.holds_of_wide 4 Try.f4 rfl rfl rfl rfl rfl rfl rfl ⟨rfl, rfl, rfl, rfl, rfl⟩ rfl rfl rfl rfl rfl (by kernel_rfl) Try.func4 (by kernel_rfl)
    (of_decide_eq_true (by kernel_rfl)) (by unfold Func.isWrapper; first | (rw [if_pos (by decide +kernel)]; kernel_rfl) | (rw [if_neg (by decide +kernel)]; exact ⟨rfl, rfl⟩))
    (fun os started H enc _ => lifted_lineReads os started H enc)

theorem proved_lineReads : Rows.LineReadsSaid := over_lineReads
end Go.Proofs.Ytpjdjabpdpoedaa
