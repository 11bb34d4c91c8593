/- GuardNew holds: a guardian of a table that may not be is refused; one that does not know passes just nodes of its own. For all numbers of nodes and senders. -/
import Derived.Test.YtjenppaikmmbjaaGdG
import Derived.Test.YtjenppaikmmbjaaGdO
namespace Go.Proofs.Ytjenppaikmmbjaa
open Go.ChangeShapes Go.WideShapes Go.ChangeAt Go.RowKit

/-- The least sender from k on. -/
def least (f : Nat → Bool) : Nat → Nat → Int
  | 0, _ => -1
  | d + 1, k => if f k then (k : Nat) else least f d (k + 1)
theorem fst_least (f : Nat → Bool) (n : Nat) : ∀ d k, k + d = n → (∀ j, j < k → f j = false) → fst f n = least f d k
  | 0, k, h, hz => by rw [least]; exact fst_none (fun j hj => hz j (by omega))
  | d + 1, k, h, hz => by
    rw [least]
    by_cases hk : f k = true
    · rw [if_pos hk]; exact fst_hit (by omega) hk hz
    · rw [if_neg hk]
      exact fst_least f n d (k + 1) (by omega) (fun j hj => by
        by_cases e : j = k
        · subst e; simpa using hk
        · exact hz j (by omega))
set_option maxRecDepth 100000 in
set_option maxHeartbeats 4000000 in
theorem walk_guardNew (n : Int) (b0 b1 b2 b3 b4 b5 b6 b7 : Bool) (w : World) (_h : -9223372036854775808 ≤ n ∧ n ≤ 9223372036854775807) :
    Calls Try.prog 9 #[.int .i64 n, bools8 (bs8 b0 b1 b2 b3 b4 b5 b6 b7)] w fun e w' => e = .returned (.bool true) ∧ Below w.heap.size w w' := by
  generalize bs8 b0 b1 b2 b3 b4 b5 b6 b7 = f
  have hB := (Below.refl w.heap.size w).alloc (Nat.le_refl _) (.cells #[.bool (f 0), .bool (f 1), .bool (f 2), .bool (f 3), .bool (f 4), .bool (f 5), .bool (f 6), .bool (f 7)] 22)
  have hX := Blk.new w _ rfl #[.bool (f 0), .bool (f 1), .bool (f 2), .bool (f 3), .bool (f 4), .bool (f 5), .bool (f 6), .bool (f 7)] 22
  have hKn := fun W => Lib.hid (known_gd W)
  unfold bools8
  generalize hw0 : w.alloc (.cells #[.bool (f 0), .bool (f 1), .bool (f 2), .bool (f 3), .bool (f 4), .bool (f 5), .bool (f 6), .bool (f 7)] 22) = w0 at *
  by_cases hok : 0 ≤ n ∧ n ≤ 8
  case neg =>
    go_enter Try.func9, Try.ntmps9
    go_wp2_with fail
    all_goals first
      | (exfalso; omega)
      | (go_ret; exact ⟨rfl, hB⟩)
  obtain ⟨N, rfl⟩ := Int.eq_ofNat_of_zero_le hok.1
  have q1 : decide ((N : Int) < 0) = false := decide_eq_false (by omega)
  have q2 : decide ((8 : Int) < (N : Int)) = false := decide_eq_false (by omega)
  have hS := fun W => Lib.hid (some_gd N 1 (by omega) (by omega) W)
  unfold someT tabV at hS
  simp only at hS
  by_cases h4 : N < 4
  · have q3 : decide ((N : Int) < 4) = true := decide_eq_true (by omega)
    have hN := fun v W B (h : OwnsD W B v (someL N)) => Lib.hid (show Calls Try.prog 10 #[.agg #[v, .int .i64 1, .int .i64 10, .int .i64 13]] W fun e w' => e = .returned (.tuple #[.pointer none, .int .i64 1]) ∧ Below W.heap.size W w' from new_no (someT N 1) v W h.sees (some_few N 1 h4))
    generalize someL N = ls at *
    go_enter Try.func9, Try.ntmps9
    go_wp2_with fail
    refine (hS w0).out.mono ?_
    rintro e w1 ⟨v1, rfl, ho1, hb⟩
    have hb1 := hB.trans (hb.mono hB.size)
    clear hb
    go_wp2_with fail
    refine (hN v1 w1 _ ho1).out.mono ?_
    rintro e w2 ⟨rfl, hb⟩
    have hb2 := hb1.trans (hb.mono hb1.size)
    clear hb
    go_wp2_with fail
    refine (hKn w2).out.mono ?_
    rintro e w3 ⟨rfl, hb⟩
    go_wp2
    go_ret
    exact ⟨rfl, hb2.trans (hb.mono hb2.size)⟩
  have q3 : decide ((N : Int) < 4) = false := decide_eq_false (by omega)
  have hN := fun v W B (h : OwnsD W B v (someL N)) => Lib.hid (show Calls Try.prog 10 #[.agg #[v, .int .i64 1, .int .i64 10, .int .i64 13]] W fun e w' => ∃ g, e = .returned (.tuple #[.pointer (some ⟨g, 0, none⟩), .int .i64 0]) ∧ W.heap.size ≤ g ∧ GAt w' g (newG (someT N 1)) ∧ Below W.heap.size W w' from new_some N 1 (by omega) (by omega) (by omega) v W h)
  have hP := fun g W (h : GAt W g (newG (someT N 1))) => Lib.hid (show Calls Try.prog 15 #[.pointer (some ⟨g, 0, none⟩), .agg #[.bool (f 0), .bool (f 1), .bool (f 2), .bool (f 3), .bool (f 4), .bool (f 5), .bool (f 6), .bool (f 7)], .agg #[.int .i64 1, .int .i64 2, .int .i64 3, .int .i64 4, .int .i64 5, .int .i64 6, .int .i64 7, .int .i64 8]] W fun e w' => e = .returned (.int .i64 (fst f N)) ∧ Below W.heap.size W w' from by
    have := pass_gd g (newG (someT N 1)) f (is8 1 2 3 4 5 6 7 8) W h (by show (someL N).length ≤ 8; rw [someL_length]; omega) (by show (0 : Nat) < 8; omega) (by unfold time newG; simp) (by unfold time; simp [newG, is8]) (by show (0 : Int) ≤ 4 * 1 + 6 ∧ (4 * 1 + 6 : Int) ≤ _; omega)
    have e : (newG (someT N 1)).pass f (is8 1 2 3 4 5 6 7 8) = fst f N := by
      show fst f (someL N).length = _
      rw [someL_length]
    rw [e] at this
    exact this)
  generalize newG (someT N 1) = s at *
  generalize someL N = ls at *
  go_enter Try.func9, Try.ntmps9
  go_wp2_with fail
  refine (hS w0).out.mono ?_
  rintro e w1 ⟨v1, rfl, ho1, hb⟩
  have hb1 := hB.trans (hb.mono hB.size)
  have hX1 := hX.below hb hX.lt
  clear hb
  go_wp2_with fail
  refine (hN v1 w1 _ ho1).out.mono ?_
  rintro e w2 ⟨g, rfl, hg, hG, hb⟩
  have hb2 := hb1.trans (hb.mono hb1.size)
  have hX2 := hX1.below hb hX1.lt
  clear hb hX1
  have HL := fun d k h1 h2 => Lib.hid (fst_least f N d k h1 h2)
  have HX : Hid (∀ k, k < 8 → w2.cell? ⟨w.heap.size, k, none⟩ = some (.bool (f k))) := Lib.hid fun k hk => hX2.cell k (b8_get f k hk)
  have x0 := HX.out 0 (by omega)
  have x1 := HX.out 1 (by omega)
  have x2 := HX.out 2 (by omega)
  have x3 := HX.out 3 (by omega)
  have x4 := HX.out 4 (by omega)
  have x5 := HX.out 5 (by omega)
  have x6 := HX.out 6 (by omega)
  have x7 := HX.out 7 (by omega)
  have z1 : IntKind.i64.wrap ((N : Int) - 1) = (N : Int) - 1 := IntWalk.i64_in _ (by omega)
  have HR : Hid (∀ k, k < N → least f (N - k) k = if f k then ((k : Nat) : Int) else least f (N - (k + 1)) (k + 1)) := Lib.hid fun k hk => by
    rw [show N - k = (N - (k + 1)) + 1 by omega]
    rfl
  have hR0 : least f (N - N) N = -1 := by rw [Nat.sub_self]; rfl
  have HL0 := Lib.hid (fst_least f N N 0 (by omega) (fun j hj => by omega))
  clear hX hX2 hS hN HL
  go_wp2_with fail
  go_loopw [7, 8] (fun a i wr => ∃ k : Nat, k ≤ N ∧ i = .int .i64 ((k : Int) - 1) ∧ a = .int .i64 (least f (N - k) k) ∧ wr = w2) (fun _ i _ => (intOf i + 1).toNat)
  case atStart => exact ⟨N, by omega, rfl, by rw [hR0], rfl⟩
  case round =>
    obtain ⟨k, hk, rfl, rfl, rfl⟩ := hrel
    cases k with
    | zero =>
      have hl0 := HL0.out
      simp only [Nat.sub_zero]
      generalize least f N 0 = r at *
      generalize fst f N = r2 at *
      subst hl0
      go_wp2_with fail
      refine (hP g _ hG).out.mono ?_
      rintro e w3 ⟨rfl, hb⟩
      have hb3 := hb2.trans (hb.mono hb2.size)
      clear hb
      go_wp2_with fail
      refine (hKn w3).out.mono ?_
      rintro e w4 ⟨rfl, hb⟩
      go_wp2
      go_ret
      exact ⟨rfl, hb3.trans (hb.mono hb3.size)⟩
    | succ j =>
      have e1 : ((j + 1 : Nat) : Int) - 1 = (j : Int) := by omega
      rw [e1]
      have q4 : decide ((0 : Int) ≤ (j : Int)) = true := decide_eq_true (by omega)
      have cj := HX.out j (by omega)
      have i1 : (0 : Int) ≤ (j : Int) := by omega
      have i2 : (j : Int) < 8 := by omega
      have hr := Lib.hid (HR.out j (by omega))
      have z2 : IntKind.i64.wrap ((j : Int) - 1) = (j : Int) - 1 := IntWalk.i64_in _ (by omega)
      clear e1
      generalize least f (N - (j + 1)) (j + 1) = r at *
      cases hf : f j
      · rw [hf] at cj
        go_wp2
        go_roundw
        case rel => exact ⟨j, by omega, rfl, by rw [hr.out, hf]; rfl, trivial⟩
        case measure => simp [intOf]
      · rw [hf] at cj
        go_wp2
        go_roundw
        case rel => exact ⟨j, by omega, rfl, by rw [hr.out, hf]; rfl, trivial⟩
        case measure => simp [intOf]

/-! ### THE ROW's STEP around the walk. -/
theorem own_guardNew : ownKnob Try.prog.godebug = none := by kernel_rfl
theorem laidOut_guardNew : laidOutB Try.prog = true := by kernel_rfl
set_option maxRecDepth 100000 in
theorem lifted_guardNew (os : Os) (started : os.Started) (H : Type) (enc : TypeId × Value → H) :
    ReturnsInHanded {} Try.checked os 9 .any (Rows.guardNewSpec.pre6 enc Try.prog Try.f9 Rows.guardNewRow.domain false) (Rows.guardNewSpec.post enc Try.prog Try.f9 false true false false) := by
  refine returnsInHanded_of_change (C := Try.checked) own_guardNew started (by kernel_rfl) Try.func9
    (ChangeSpec.witness6 (enc := enc) (C := Try.checked) false ⟨#[], #[.int .i64 0, .agg #[.bool false, .bool false, .bool false, .bool false, .bool false, .bool false, .bool false, .bool false]], []⟩ 8 (by kernel_rfl) (by kernel_rfl) (by kernel_rfl) (by kernel_rfl)) ?_
  intro W base args ds gs before hval0 hW hcnd _
  have hval : ∀ (j : Nat) t v, Try.f9.params[j]? = some t → args[j]? = some v → Value.okWide Try.prog W .any base t v := hval0
  have hW' := hW
  obtain ⟨p, q, hA0, hV, rfl, hfz, hnd⟩ := hW
  have hA : DataW.TrodAll enc Try.prog W 0 (fun _ => true) true Try.f9.params.toList args.toList ds p := hA0
  rw [Try.params9] at hA hval
  obtain ⟨v0, vs0, d0, ds0, p0, q0, hargs, rfl, rfl, h0, r0⟩ := trodAll_cons hA
  obtain ⟨v1, vs1, d1, ds1, p1, q1, rfl, rfl, rfl, h1, r1⟩ := trodAll_cons r0
  obtain ⟨rfl, rfl, rfl⟩ := trodAll_nil r1
  obtain rfl : args = #[v0, v1] := by cases args; simp_all
  obtain ⟨rfl, rfl⟩ := trodVars_none hV
  obtain ⟨a0, rfl, rfl, rfl, w0⟩ := open_int Try.underlying3 (hval 0 3 v0 rfl rfl) h0
  obtain ⟨y1_0, y1_1, y1_2, y1_3, y1_4, y1_5, y1_6, y1_7, rfl⟩ := sees_bools8 Try.underlying22 (by kernel_rfl) Try.underlying4 (by kernel_rfl) (hval 1 22 v1 rfl rfl) h1
  have k1 := h1
  have lt1 : ∀ x ∈ p1, x.block < W.heap.size := by obtain ⟨m, hm⟩ := k1; exact DataW.trod_lt m _ _ _ hm
  clear hA0 hval0
  refine (walk_guardNew a0 y1_0 y1_1 y1_2 y1_3 y1_4 y1_5 y1_6 y1_7 W (bounds_i64 w0)).mono fun e W' ⟨he, bel⟩ => ?_
  subst he
  exact ⟨_, rfl, _, _, _, [], _, [], hW', trodAll_mk1 (shut_bool Try.underlying4 _), (trodAll_cons_mk (shut_int Try.underlying3 w0) (trodAll_cons_mk (Below.trod laidOut_guardNew (by kernel_rfl) (of_decide_eq_true (by kernel_rfl)) k1 bel lt1) trodAll_mk0)), rfl, bel.frame _, fun h => by cases h⟩

theorem over_guardNew : Rows.guardNewRow.holds Try.pinned (OpenSpec.ofChange Rows.guardNewSpec) :=
  OpenClaim.holds_of_wide 9 Try.f9 rfl rfl rfl rfl rfl rfl rfl ⟨rfl, rfl, rfl, rfl, rfl⟩ rfl rfl rfl rfl rfl (by kernel_rfl) Try.func9 (by kernel_rfl)
    (of_decide_eq_true (by kernel_rfl)) (by unfold Func.isWrapper; first | (rw [if_pos (by decide +kernel)]; kernel_rfl) | (rw [if_neg (by decide +kernel)]; exact ⟨rfl, rfl⟩))
    (fun os started H enc _ => lifted_guardNew os started H enc)

theorem proved_guardNew : Rows.GuardNewSaid := over_guardNew
end Go.Proofs.Ytjenppaikmmbjaa
