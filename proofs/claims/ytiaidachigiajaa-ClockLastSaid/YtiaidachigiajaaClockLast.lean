/- ClockLast holds: of more than four the last four count. For all lists and limits. -/
import Derived.Test.YtiaidachigiajaaClMath2
import Derived.Test.YtiaidachigiajaaClO
namespace Go.Proofs.Ytiaidachigiajaa
open Go.ChangeShapes Go.WideShapes Go.ChangeAt Go.RowKit
open Clk (avg)

set_option maxRecDepth 100000 in
set_option maxHeartbeats 2000000 in
theorem walk_clockLast (l : List Int) (v : Value) (m : Int) (w : World) (h : InInts w v l) (_hm : -9223372036854775808 ≤ m ∧ m ≤ 9223372036854775807) :
    Calls Try.prog 9 #[v, .int .i64 m] w fun e w' => e = .returned (.bool true) ∧ Below w.heap.size w w' := by
  have hsee := h.sees
  obtain ⟨A, c, rfl, v1, v2, v3, -⟩ := h.sees.at_
  unfold maxLen at v2
  by_cases c1 : l.length < 4
  · have q1 : decide (((l.length : Nat) : Int) < 4) = true := decide_eq_true (by omega)
    clear h hsee v3
    go_enter Try.func9, Try.ntmps9
    go_wp2
    go_ret
    exact ⟨rfl, Below.refl _ _⟩
  have q1 : decide (((l.length : Nat) : Int) < 4) = false := decide_eq_false (by omega)
  by_cases c2 : 30 < l.length
  · have q2 : decide ((30 : Int) < ((l.length : Nat) : Int)) = true := decide_eq_true (by omega)
    clear h hsee v3
    go_enter Try.func9, Try.ntmps9
    go_wp2
    go_ret
    exact ⟨rfl, Below.refl _ _⟩
  have q2 : decide ((30 : Int) < ((l.length : Nat) : Int)) = false := decide_eq_false (by omega)
  by_cases c3 : m < 0
  · clear h hsee v3
    go_enter Try.func9, Try.ntmps9
    go_wp2
    go_ret
    exact ⟨rfl, Below.refl _ _⟩
  by_cases c4 : 1099511627776 < m
  · clear h hsee v3
    go_enter Try.func9, Try.ntmps9
    go_wp2
    go_ret
    exact ⟨rfl, Below.refl _ _⟩
  obtain ⟨b, off, rfl, hbl, hc⟩ := v3 (by omega)
  have HC : Hid (∀ W, Below w.heap.size w W → ∀ k, k < l.length → W.cell? ⟨b, off + k, none⟩ = some (.int .i64 (l.getD k 0))) := Lib.hid (fun W hW k hk => (hW.cell hbl).trans (hc k hk))
  have HT := Lib.hid (take_snoc' l)
  have HF : Hid (∀ k, k = l.length → l.take k = l) := Lib.hid (fun k hk => by rw [hk, List.take_length])
  have HM := fun (l' : List Int) n W (h : ClkAt W w.heap.size m l') => Lib.hid (measure_cl _ m l' n W h)
  have HR := fun W (hW : Below w.heap.size w W) (hs : small l) => avg_rf (last4 l) (.slice (some ⟨b, off + (l.length - 4), none⟩) (l.length - (l.length - 4)) (c - (l.length - 4))) W W.heap.size (by
    have := ((hsee.below hW).more hW.size).sub rfl (l.length - 4) l.length (by omega) (Nat.le_refl _) (by omega) (o := off + (l.length - 4)) rfl (m := l.length - (l.length - 4)) (by omega) (c' := c - (l.length - 4)) rfl
    rw [List.take_of_length_le (by simp)] at this
    exact this) (last4_small hs) (by rw [last4_length l (by omega)]; omega)
  have HTm := fun W (h : ClkAt W w.heap.size m (last4 l)) (hs : small l) => term_cl _ m (last4 l) W h (last4_small hs) (by omega)
  have HL := fun W (h : ClkAt W w.heap.size m (last4 l)) => len_cl _ m (last4 l) W h
  rw [last4_length l (by omega)] at HL
  have hbd := fun (hs : small l) => Clk.avg_bound (l := last4 l) (B := 1099511627776) (by decide) (last4_small hs) (by rw [last4_length l (by omega)]; omega)
  have hwn : (wiB m (avg (last4 l)) = true ∧ -m ≤ avg (last4 l) ∧ avg (last4 l) ≤ m) ∨ (wiB m (avg (last4 l)) = false ∧ avg (last4 l) < -m) ∨ (wiB m (avg (last4 l)) = false ∧ m < avg (last4 l)) := by
    by_cases h : -m ≤ avg (last4 l) ∧ avg (last4 l) ≤ m
    · exact .inl ⟨decide_eq_true h, h⟩
    · by_cases h' : avg (last4 l) < -m
      · exact .inr (.inl ⟨decide_eq_false h, h'⟩)
      · exact .inr (.inr ⟨decide_eq_false h, by omega⟩)
  unfold termV at HTm
  generalize avg (last4 l) = r at *
  generalize wiB m r = q at *
  have HR := fun W hW hs => Lib.hid (HR W hW hs)
  have HL := fun W h => Lib.hid (HL W h)
  have HW := Lib.hid hwn
  have HBD := Lib.hid hbd
  have z1 : IntKind.i64.wrap (((l.length : Nat) : Int) - 4) = ((l.length - 4 : Nat) : Int) := by rw [IntWalk.i64_in _ (by omega)]; omega
  have z2 : ¬ c = l.length - 4 := by omega
  clear h hsee v3 hc hwn hbd
  go_enter Try.func9, Try.ntmps9
  go_wp2_with fail
  refine (new_cl m w).mono ?_
  rintro e w1 ⟨rfl, hc1, hb1, hz1⟩
  have hz1 := Lib.hid hz1
  go_wp2
  go_loopw [6] (fun i wr => ∃ k : Nat, k ≤ l.length ∧ i = .int .i64 k ∧ ClkAt wr w.heap.size m (last4 (l.take k)) ∧ small (l.take k) ∧ Below w.heap.size w wr) (fun i _ => l.length - (intOf i).toNat)
  case atStart => exact ⟨0, by omega, rfl, by simpa [last4] using hc1, by simp [small], hb1⟩
  case round =>
    obtain ⟨k, hk, rfl, hck, hsm, hbw⟩ := hrel
    by_cases hlt : k < l.length
    · have q3 : decide (((k : Nat) : Int) < (l.length : Int)) = true := decide_eq_true (by omega)
      have hcell := HC.out wr hbw k hlt
      have HTk := Lib.hid (HT.out k hlt)
      have hkeep := Lib.hid (last4_keep (l.take k) (l.getD k 0))
      generalize l.getD k 0 = x at *
      by_cases e1 : x < -1099511627776
      · go_wp2
        go_ret
        exact ⟨rfl, hbw⟩
      by_cases e2 : 1099511627776 < x
      · go_wp2
        go_ret
        exact ⟨rfl, hbw⟩
      go_wp2_with fail
      refine (HM _ x wr hck).out.mono ?_
      rintro e w2 ⟨rfl, hc2, ho2⟩
      have hb2 := hbw.trans (ho2.below (Nat.le_refl _) hck.1.lt)
      go_wp2
      go_roundw
      case rel => exact ⟨k + 1, by omega, by go_num, by rw [HTk.out, ← hkeep.out]; exact hc2, by rw [HTk.out]; exact hsm.snoc (by omega), hb2⟩
      case measure => simp [intOf]; omega
    · have q3 : decide (((k : Nat) : Int) < (l.length : Int)) = false := decide_eq_false (by omega)
      have hkl := HF.out k (by omega)
      rw [hkl] at hck hsm
      have R1 := HR wr hbw hsm
      have L1 := fun W h => HL W h
      obtain ⟨bd1, bd2⟩ := HBD.out hsm
      have T1 := fun W h => HTm W h hsm
      clear hkl hsm HTm HBD
      have hwn := HW.out
      clear HW
      rcases hwn with ⟨rfl, d1, d2⟩ | ⟨rfl, d1⟩ | ⟨rfl, d1⟩
      all_goals
        simp only [if_true, Bool.false_eq_true, if_false] at T1
        have T1 := fun W h => Lib.hid (T1 W h)
        go_wp2_with fail
        refine R1.out.mono ?_
        rintro e w2 ⟨rfl, hb2⟩
        have hc2 := hck.below hb2 hck.1.lt
        have hb2 := hbw.trans (hb2.mono hbw.size)
        go_wp2_with fail
        refine (T1 w2 hc2).out.mono ?_
        rintro e w3 ⟨rfl, hb3⟩
        have hc3 := hc2.below hb3 hc2.1.lt
        have hb3 := hb2.trans (hb3.mono hb2.size)
        go_wp2_with fail
        refine (L1 w3 hc3).out.mono ?_
        rintro e w4 ⟨rfl, rfl⟩
        go_wp2_with fail
        refine (known_cl _).mono ?_
        rintro e w7 ⟨rfl, hb7⟩
        have hb7 := hb3.trans (hb7.mono hb3.size)
        go_wp2
        go_ret
        first | exact ⟨rfl, hb7⟩ | exact ⟨ret_bool (by simp; omega), hb7⟩

/-! ### THE ROW's STEP around the walk. -/
theorem own_clockLast : ownKnob Try.prog.godebug = none := by kernel_rfl
theorem laidOut_clockLast : laidOutB Try.prog = true := by kernel_rfl
set_option maxRecDepth 100000 in
theorem lifted_clockLast (os : Os) (started : os.Started) (H : Type) (enc : TypeId × Value → H) :
    ReturnsInHanded {} Try.checked os 9 .any (Rows.clockLastSpec.pre6 enc Try.prog Try.f9 Rows.clockLastRow.domain false) (Rows.clockLastSpec.post enc Try.prog Try.f9 false true false false) := by
  refine returnsInHanded_of_change (C := Try.checked) own_clockLast started (by kernel_rfl) Try.func9
    (ChangeSpec.witness6 (enc := enc) (C := Try.checked) false ⟨#[], #[.slice none 0 0, .int .i64 0], []⟩ 8 (by kernel_rfl) (by kernel_rfl) (by kernel_rfl) (by kernel_rfl)) ?_
  intro W base args ds gs before hval0 hW hcnd _
  have hval : ∀ (j : Nat) t v, Try.f9.params[j]? = some t → args[j]? = some v → Value.okWide Try.prog W .any base t v := hval0
  have hW' := hW
  obtain ⟨p, q, hA0, hV, rfl, hfz, hnd⟩ := hW
  have hA : DataW.TrodAll enc Try.prog W 0 (fun _ => true) true Try.f9.params.toList args.toList ds p := hA0
  rw [Try.params9] at hA hval
  obtain ⟨v0, vs0, d0, ds0, p0, q0, hargs, rfl, rfl, h0, r0⟩ := trodAll_cons hA
  obtain ⟨v1, vs1, d1, ds1, p1, q1, rfl, rfl, rfl, h1, r1⟩ := trodAll_cons r0
  obtain ⟨rfl, rfl, rfl⟩ := trodAll_nil r1
  obtain rfl : args = #[v0, v1] := by cases args; simp_all
  obtain ⟨rfl, rfl⟩ := trodVars_none hV
  obtain ⟨A0, n0, c0, rfl⟩ := okWide_slice Try.underlying22 (hval 0 22 v0 rfl rfl)
  have k0 := h0
  have lt0 : ∀ x ∈ p0, x.block < W.heap.size := by obtain ⟨m, hm⟩ := k0; exact DataW.trod_lt m _ _ _ hm
  obtain ⟨l0, s0⟩ := sees_ints Try.underlying22 Try.underlying3 (by kernel_rfl) h0
  obtain ⟨a1, rfl, rfl, rfl, w1⟩ := open_int Try.underlying3 (hval 1 3 v1 rfl rfl) h1
  clear hA0 hval0
  refine (walk_clockLast l0 _ a1 W s0 (bounds_i64 w1)).mono fun e W' ⟨he, bel⟩ => ?_
  subst he
  exact ⟨_, rfl, _, _, _, [], _, [], hW', trodAll_mk1 (shut_bool Try.underlying4 _), (trodAll_cons_mk (Below.trod laidOut_clockLast (by kernel_rfl) (of_decide_eq_true (by kernel_rfl)) k0 bel lt0) (trodAll_cons_mk (shut_int Try.underlying3 w1) trodAll_mk0)), rfl, bel.frame _, fun h => by cases h⟩

theorem over_clockLast : Rows.clockLastRow.holds Try.pinned (OpenSpec.ofChange Rows.clockLastSpec) :=
  OpenClaim.holds_of_wide 9 Try.f9 rfl rfl rfl rfl rfl rfl rfl ⟨rfl, rfl, rfl, rfl, rfl⟩ rfl rfl rfl rfl rfl (by kernel_rfl) Try.func9 (by kernel_rfl)
    (of_decide_eq_true (by kernel_rfl)) (by unfold Func.isWrapper; first | (rw [if_pos (by decide +kernel)]; kernel_rfl) | (rw [if_neg (by decide +kernel)]; exact ⟨rfl, rfl⟩))
    (fun os started H enc _ => lifted_clockLast os started H enc)

theorem proved_clockLast : Rows.ClockLastSaid := over_clockLast
end Go.Proofs.Ytiaidachigiajaa
