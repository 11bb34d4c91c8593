/- ClockOrder holds: in which order measures came does not matter to their average. For all lists. -/
import Derived.Test.YtiaidachigiajaaClD
import Derived.Test.YtiaidachigiajaaClO
namespace Go.Proofs.Ytiaidachigiajaa
open Go.ChangeShapes Go.WideShapes Go.ChangeAt Go.RowKit
open Clk (avg)

theorem small.snoc {l : List Int} {x : Int} (h : small l) (hx : -1099511627776 ≤ x ∧ x ≤ 1099511627776) : small (l ++ [x]) := fun y hy => by
  rcases List.mem_append.1 hy with hy | hy
  · exact h y hy
  · simp at hy; subst hy; exact hx

theorem drop_rev (l : List Int) (k : Nat) (h : k < l.length) : (l.drop k).reverse = (l.drop (k + 1)).reverse ++ [l.getD k 0] := by
  rw [List.drop_eq_getElem_cons h, List.reverse_cons, List.getD_eq_getElem?_getD, List.getElem?_eq_getElem h]
  rfl
set_option maxRecDepth 100000 in
set_option maxHeartbeats 2000000 in
theorem walk_clockOrder (l : List Int) (v : Value) (w : World) (h : InInts w v l) :
    Calls Try.prog 8 #[v] w fun e w' => e = .returned (.bool true) ∧ Below w.heap.size w w' := by
  have F := Lib.hid (few_cl l v w _ h.sees)
  have G := fun hb W (hw : Below w.heap.size w W) => Lib.hid (avg_cl l v W w.heap.size hw.size (h.sees.below hw) (fewB_small hb).1 (fewB_small hb).2)
  have hsee := h.sees
  obtain ⟨A, c, rfl, v1, v2, v3, -⟩ := h.sees.at_
  have HC : Hid (∀ W, Below w.heap.size w W → ∀ k, k < l.length → ∃ b off, A = some ⟨b, off, none⟩ ∧ W.cell? ⟨b, off + k, none⟩ = some (.int .i64 (l.getD k 0))) := Lib.hid (fun W hW k hk => by
    obtain ⟨b, off, e, hb, h⟩ := v3 (by omega)
    exact ⟨b, off, e, (hW.cell hb).trans (h k hk)⟩)
  clear h v3 hsee
  cases hb : fewB l
  · rw [hb] at F
    go_enter Try.func8, Try.ntmps8
    go_wp2_with fail
    refine F.out.mono ?_
    rintro e w' ⟨rfl, rfl⟩
    go_wp2
    go_ret
    exact ⟨rfl, Below.refl _ _⟩
  rw [hb] at F
  have G := G hb
  obtain ⟨hsm, hl4⟩ := fewB_small hb
  have HT := Lib.hid (drop_rev l)
  have HA : Hid (avg l.reverse = avg l) := Lib.hid (Clk.avg_perm (List.reverse_perm l))
  have HB := Lib.hid (fun k => hsm.getD k)
  have HS : Hid (small l.reverse) := Lib.hid (fun x hx => hsm x (List.mem_reverse.1 hx))
  generalize avg l = r at *
  clear hb hsm
  unfold maxLen at v2
  have w1 : IntKind.i64.wrap ((l.length : Int) - 1) = l.length - 1 := IntWalk.i64_in _ (by omega)
  go_enter Try.func8, Try.ntmps8
  go_wp2_with fail
  refine F.out.mono ?_
  rintro e w' ⟨rfl, hw⟩
  obtain rfl := hw.symm
  clear hw
  go_wp2
  go_loopw [3, 4] (fun u i wr => ∃ k : Nat, k ≤ l.length ∧ i = .int .i64 ((k : Int) - 1) ∧ OwnsI wr w.heap.size u (l.drop k).reverse ∧ Below w.heap.size w wr) (fun _ i _ => (intOf i + 1).toNat)
  case atStart => exact ⟨l.length, by omega, rfl, by simpa using OwnsI.nil, Below.refl _ _⟩
  case round =>
    obtain ⟨k, hk, rfl, ho, hbw⟩ := hrel
    by_cases hlt : 0 < k
    · obtain ⟨j, rfl⟩ : ∃ j, k = j + 1 := ⟨k - 1, by omega⟩
      have q1 : decide ((0 : Int) ≤ ((j + 1 : Nat) : Int) - 1) = true := decide_eq_true (by omega)
      have e1 : ((j + 1 : Nat) : Int) - 1 = j := by omega
      rw [e1]
      rw [e1] at q1
      have HTk := Lib.hid (HT.out j (by omega))
      obtain ⟨b, off, rfl, hc⟩ := HC.out wr hbw j (by omega)
      have hlm : (l.drop (j + 1)).reverse.length ≤ 4 := by simp; omega
      generalize (l.drop (j + 1)).reverse = m at *
      generalize l.getD j 0 = x at *
      have hsee := Lib.hid (sees_liti wr 3 #[.int .i64 x] [x] rfl (wr.heap.size + 1) (by omega) (by simp [maxLen]) _ 1 1 rfl rfl rfl)
      clear e1
      go_wp2_with (at_builtin; go_loud (refine wpList_pushI _ rfl (.tmp 16) (.tmp 21) 22 rfl w.heap.size infoInt Try.underlying22 _ m (ho.alloc _) rfl _ _ [x] rfl hsee.out (by have := hbw.size; simp; omega) (by simp; omega) ?_))
      intro v5 w5 ho5 hx5
      have hb5 := (hbw.alloc hbw.size (.cells #[.int .i64 x] 3)).trans (hx5.toBelow (B := w.heap.size) (by have := hbw.size; simp; omega) (fun j hj => (ho.lt j hj).1))
      go_wp2
      go_roundw
      case rel => exact ⟨j, by omega, by go_num, by rw [HTk.out]; exact ho5, hb5⟩
      case measure => simp [intOf]; try omega
    · obtain rfl : k = 0 := by omega
      have q1 : decide ((0 : Int) ≤ ((0 : Nat) : Int) - 1) = false := by decide
      rw [List.drop_zero] at ho
      have hlm : l.reverse.length ≤ 4 := by simp; omega
      have HS := HS.out
      generalize l.reverse = m at *
      have hem := Lib.hid (owns_emptyi wr 3 rfl wr.heap.size wr.heap.size (Nat.le_refl _) rfl)
      have hse := Lib.hid (ho.sees.alloc (.cells #[] 3))
      have hs0 := Lib.hid ho.sees
      have HR := fun W (hW : Below wr.heap.size wr W) => Lib.hid (avg_rf m _ W wr.heap.size (hs0.out.below hW) HS hlm)
      clear ho
      go_wp2_with (at_builtin; go_loud (refine wpList_pushI _ rfl (.tmp 23) (.tmp 24) 22 rfl wr.heap.size infoInt Try.underlying22 _ [] hem.out rfl _ _ m rfl hse.out (by simp) (by simp; omega) ?_))
      intro v5 w5 ho5 hx5
      have hb5 := ((Below.refl wr.heap.size wr).alloc (Nat.le_refl _) (.cells #[] 3)).trans (hx5.toBelow (B := wr.heap.size) (by simp) (fun j hj => by simp [Value.ownBlock] at hj; omega))
      have G1 := Lib.hid (avg_cl m v5 w5 w5.heap.size (Nat.le_refl _) (by simpa using ho5.sees) HS hlm)
      rw [HA.out] at G1
      go_wp2_with fail
      refine G1.out.mono ?_
      rintro e wa ⟨rfl, hba⟩
      have hba := hb5.trans (hba.mono hb5.size)
      go_wp2_with fail
      refine (G wa (hbw.trans (hba.mono hbw.size))).out.mono ?_
      rintro e wb ⟨rfl, hbb⟩
      have hbb := hba.trans (hbb.mono hba.size)
      go_wp2_with fail
      refine (HR wb hbb).out.mono ?_
      rintro e wc ⟨rfl, hbc⟩
      rw [HA.out]
      have hbc := hbb.trans (hbc.mono hbb.size)
      go_wp2_with fail
      refine (known_cl _).mono ?_
      rintro e wd ⟨rfl, hbd⟩
      have hbd := hbc.trans (hbd.mono hbc.size)
      go_wp2
      go_ret
      exact ⟨by simp, hbw.trans (hbd.mono hbw.size)⟩

/-! ### THE ROW's STEP around the walk. -/
theorem own_clockOrder : ownKnob Try.prog.godebug = none := by kernel_rfl
theorem laidOut_clockOrder : laidOutB Try.prog = true := by kernel_rfl
set_option maxRecDepth 100000 in
theorem lifted_clockOrder (os : Os) (started : os.Started) (H : Type) (enc : TypeId × Value → H) :
    ReturnsInHanded {} Try.checked os 8 .any (Rows.clockOrderSpec.pre6 enc Try.prog Try.f8 Rows.clockOrderRow.domain false) (Rows.clockOrderSpec.post enc Try.prog Try.f8 false true false false) := by
  refine returnsInHanded_of_change (C := Try.checked) own_clockOrder started (by kernel_rfl) Try.func8
    (ChangeSpec.witness6 (enc := enc) (C := Try.checked) false ⟨#[], #[.slice none 0 0], []⟩ 8 (by kernel_rfl) (by kernel_rfl) (by kernel_rfl) (by kernel_rfl)) ?_
  intro W base args ds gs before hval0 hW hcnd _
  have hval : ∀ (j : Nat) t v, Try.f8.params[j]? = some t → args[j]? = some v → Value.okWide Try.prog W .any base t v := hval0
  have hW' := hW
  obtain ⟨p, q, hA0, hV, rfl, hfz, hnd⟩ := hW
  have hA : DataW.TrodAll enc Try.prog W 0 (fun _ => true) true Try.f8.params.toList args.toList ds p := hA0
  rw [Try.params8] at hA hval
  obtain ⟨v0, vs0, d0, ds0, p0, q0, hargs, rfl, rfl, h0, r0⟩ := trodAll_cons hA
  obtain ⟨rfl, rfl, rfl⟩ := trodAll_nil r0
  obtain rfl : args = #[v0] := by cases args; simp_all
  obtain ⟨rfl, rfl⟩ := trodVars_none hV
  obtain ⟨A0, n0, c0, rfl⟩ := okWide_slice Try.underlying22 (hval 0 22 v0 rfl rfl)
  have k0 := h0
  have lt0 : ∀ x ∈ p0, x.block < W.heap.size := by obtain ⟨m, hm⟩ := k0; exact DataW.trod_lt m _ _ _ hm
  obtain ⟨l0, s0⟩ := sees_ints Try.underlying22 Try.underlying3 (by kernel_rfl) h0
  clear hA0 hval0
  refine (walk_clockOrder l0 _ W s0).mono fun e W' ⟨he, bel⟩ => ?_
  subst he
  exact ⟨_, rfl, _, _, _, [], _, [], hW', trodAll_mk1 (shut_bool Try.underlying4 _), (trodAll_cons_mk (Below.trod laidOut_clockOrder (by kernel_rfl) (of_decide_eq_true (by kernel_rfl)) k0 bel lt0) trodAll_mk0), rfl, bel.frame _, fun h => by cases h⟩

theorem over_clockOrder : Rows.clockOrderRow.holds Try.pinned (OpenSpec.ofChange Rows.clockOrderSpec) :=
  OpenClaim.holds_of_wide 8 Try.f8 rfl rfl rfl rfl rfl rfl rfl ⟨rfl, rfl, rfl, rfl, rfl⟩ rfl rfl rfl rfl rfl (by kernel_rfl) Try.func8 (by kernel_rfl)
    (of_decide_eq_true (by kernel_rfl)) (by unfold Func.isWrapper; first | (rw [if_pos (by decide +kernel)]; kernel_rfl) | (rw [if_neg (by decide +kernel)]; exact ⟨rfl, rfl⟩))
    (fun os started H enc _ => lifted_clockOrder os started H enc)

theorem proved_clockOrder : Rows.ClockOrderSaid := over_clockOrder
end Go.Proofs.Ytiaidachigiajaa
