/- GuardWindow holds: the slot's node is passed just within the window about the guardian's time. For all numbers. -/
import Derived.Test.YtjenppaikmmbjaaGdL
import Derived.Test.YtjenppaikmmbjaaGdO
namespace Go.Proofs.Ytjenppaikmmbjaa
open Go.ChangeShapes Go.WideShapes Go.ChangeAt Go.RowKit

set_option maxRecDepth 100000 in
set_option maxHeartbeats 8000000 in
theorem walk_guardWindow (n dr at_ off : Int) (w : World) (_h1 : -9223372036854775808 ≤ n ∧ n ≤ 9223372036854775807) (_h2 : -9223372036854775808 ≤ dr ∧ dr ≤ 9223372036854775807) (_h3 : -9223372036854775808 ≤ at_ ∧ at_ ≤ 9223372036854775807) (_h4 : -9223372036854775808 ≤ off ∧ off ≤ 9223372036854775807) :
    Calls Try.prog 4 #[.int .i64 n, .int .i64 dr, .int .i64 at_, .int .i64 off] w fun e w' => e = .returned (.bool true) ∧ Below w.heap.size w w' := by
  by_cases hok : (4 ≤ n ∧ n ≤ 8) ∧ (0 ≤ dr ∧ dr ≤ 100) ∧ (-1000 ≤ at_ ∧ at_ ≤ 1000) ∧ -1073741824 ≤ off ∧ off ≤ 1073741824
  case neg =>
    go_enter Try.func4, Try.ntmps4
    go_wp2_with fail
    all_goals first
      | (exfalso; omega)
      | (go_ret; exact ⟨rfl, Below.refl _ _⟩)
      | skip
  obtain ⟨⟨g4, g8⟩, ⟨d0, d1⟩, ⟨a0, a1⟩, o0, o1⟩ := hok
  obtain ⟨N, rfl⟩ := Int.eq_ofNat_of_zero_le (show 0 ≤ n by omega)
  have q1 : decide ((N : Int) < 4) = false := decide_eq_false (by omega)
  have q2 : decide ((8 : Int) < (N : Int)) = false := decide_eq_false (by omega)
  have q3 : decide (dr < 0) = false := decide_eq_false (by omega)
  have q4 : decide (100 < dr) = false := decide_eq_false (by omega)
  have q5 : decide (at_ < -1000) = false := decide_eq_false (by omega)
  have q6 : decide (1000 < at_) = false := decide_eq_false (by omega)
  have q7 : decide (off < -1073741824) = false := decide_eq_false (by omega)
  have q8 : decide (1073741824 < off) = false := decide_eq_false (by omega)
  have hKn := fun W => Lib.hid (known_gd W)
  have hS := fun W => Lib.hid (some_gd N dr (by omega) (by omega) W)
  unfold someT tabV at hS
  simp only at hS
  have hN := fun v W B (h : OwnsD W B v (someL N)) => Lib.hid (new_some N dr (by omega) (by omega) (by omega) v W h)
  have hE := fun W => Lib.hid (enc_law (k := 2) (s := 1) (by omega) (by omega) W)
  have hlen : (newG (someT N dr)).n = N := someL_length N
  have hEnd := fun g v W (h : GAt W g (newG (someT N dr))) (hv : SeesL W W.heap.size v (lawF 2 1).bytes) => Lib.hid (show Calls Try.prog 13 #[.pointer (some ⟨g, 0, none⟩), v, .int .i64 at_] W fun e w' => e = .returned (.tuple #[]) ∧ GAt w' g ((newG (someT N dr)).told 1 at_) ∧ Only g W w' from by
    have := end_gd g _ v _ at_ W h (newG_ok N dr (by omega) (by omega) (by omega) at_ (by omega)) hv (lawF_ok (by omega) (by omega))
    rw [show (newG (someT N dr)).ended (lawF 2 1).bytes at_ = (newG (someT N dr)).told 1 at_ from ended_told _ rfl (by omega) 1 (by omega) (by omega) at_] at this
    exact this)
  have hslot : ((newG (someT N dr)).told 1 at_).slot = 2 := by show (1 + 1) % (newG (someT N dr)).n = _; rw [hlen, Nat.mod_eq_of_lt (by omega)]
  have hpv : ((newG (someT N dr)).told 1 at_).pass (fun _ => true) (is8 0 0 (at_ + off) 0 0 0 0 0) = if decide (-(4 * dr + 6) ≤ off ∧ off ≤ 4 * dr + 6) then 2 else -1 := by
    unfold G.pass
    rw [show ((newG (someT N dr)).told 1 at_).kn = true from rfl, hslot]
    simp only [if_true, Bool.true_and]
    have : nearB (is8 0 0 (at_ + off) 0 0 0 0 0 2) ((newG (someT N dr)).told 1 at_).now ((newG (someT N dr)).told 1 at_).wi = decide (-(4 * dr + 6) ≤ off ∧ off ≤ 4 * dr + 6) := by
      show decide (-(4 * dr + 6) ≤ (at_ + off) - at_ ∧ (at_ + off) - at_ ≤ 4 * dr + 6) = _
      congr 1
      apply propext
      omega
    rw [this]
    rfl
  have hP := fun g W (h : GAt W g ((newG (someT N dr)).told 1 at_)) => Lib.hid (show Calls Try.prog 15 #[.pointer (some ⟨g, 0, none⟩), .agg #[.bool true, .bool true, .bool true, .bool true, .bool true, .bool true, .bool true, .bool true], .agg #[.int .i64 0, .int .i64 0, .int .i64 (at_ + off), .int .i64 0, .int .i64 0, .int .i64 0, .int .i64 0, .int .i64 0]] W fun e w' => e = .returned (.int .i64 (if decide (-(4 * dr + 6) ≤ off ∧ off ≤ 4 * dr + 6) then 2 else -1)) ∧ Below W.heap.size W w' from by
    have := pass_gd g _ (fun _ => true) (is8 0 0 (at_ + off) 0 0 0 0 0) W h (by show (newG (someT N dr)).n ≤ 8; omega) (by rw [hslot]; omega) (by show time at_; unfold time; omega) (by rw [hslot]; show time (at_ + off); unfold time; omega) (by show (0 : Int) ≤ 4 * dr + 6 ∧ (4 * dr + 6 : Int) ≤ _; omega)
    rw [hpv] at this
    exact this)
  have hW := fun g W (h : GAt W g ((newG (someT N dr)).told 1 at_)) => Lib.hid (show Calls Try.prog 17 #[.pointer (some ⟨g, 0, none⟩)] W fun e w' => e = .returned (.int .i64 at_) ∧ W = w' from now_gd g _ W h)
  clear hpv hslot
  generalize (newG (someT N dr)).told 1 at_ = s1 at *
  generalize newG (someT N dr) = s0 at *
  generalize someL N = ls at *
  generalize (lawF 2 1).bytes = bs at *
  have z1 : IntKind.i64.wrap (at_ + off) = at_ + off := IntWalk.i64_in _ (by omega)
  have z2 : IntKind.i64.wrap (-(4 * dr + 6)) = -(4 * dr + 6) := IntWalk.i64_in _ (by omega)
  have hdec : (decide (-(4 * dr + 6) ≤ off ∧ off ≤ 4 * dr + 6) = true ∧ decide (-(4 * dr + 6) ≤ off) = true ∧ decide (off ≤ 4 * dr + 6) = true) ∨ (decide (-(4 * dr + 6) ≤ off ∧ off ≤ 4 * dr + 6) = false ∧ decide (-(4 * dr + 6) ≤ off) = false) ∨ (decide (-(4 * dr + 6) ≤ off ∧ off ≤ 4 * dr + 6) = false ∧ decide (-(4 * dr + 6) ≤ off) = true ∧ decide (off ≤ 4 * dr + 6) = false) := by
    by_cases h1 : -(4 * dr + 6) ≤ off
    · by_cases h2 : off ≤ 4 * dr + 6
      · exact .inl ⟨decide_eq_true ⟨h1, h2⟩, decide_eq_true h1, decide_eq_true h2⟩
      · exact .inr (.inr ⟨decide_eq_false (fun h => h2 h.2), decide_eq_true h1, decide_eq_false h2⟩)
    · exact .inr (.inl ⟨decide_eq_false (fun h => h1 h.1), decide_eq_false h1⟩)
  generalize decide (-(4 * dr + 6) ≤ off ∧ off ≤ 4 * dr + 6) = okv at *
  go_enter Try.func4, Try.ntmps4
  go_wp2_with fail
  refine (hS _).out.mono ?_
  rintro e w1 ⟨v1, rfl, ho1, hb1⟩
  obtain ⟨A1, c1, rfl, -⟩ := ho1.sees.at_
  have hbx := hb1.alloc hb1.size (.cells #[.slice A1 ls.length c1, .int .i64 dr, .int .i64 (4 * dr + 6), .int .i64 (4 * dr + 9)] 30)
  have hX := Blk.new w1 _ rfl #[.slice A1 ls.length c1, .int .i64 dr, .int .i64 (4 * dr + 6), .int .i64 (4 * dr + 9)] 30
  have ho2 := ho1.alloc (.cells #[.slice A1 ls.length c1, .int .i64 dr, .int .i64 (4 * dr + 6), .int .i64 (4 * dr + 9)] 30)
  go_wp2_with fail
  generalize w1.alloc (.cells #[.slice A1 ls.length c1, .int .i64 dr, .int .i64 (4 * dr + 6), .int .i64 (4 * dr + 9)] 30) = wx at *
  refine (hN _ wx _ ho2).out.mono ?_
  rintro e w2 ⟨g, rfl, hg, hG, hb⟩
  have hb2 := hbx.trans (hb.mono hbx.size)
  have hg2 := Nat.le_trans hbx.size hg
  have hX2 := hX.below hb hX.lt
  have hgx : w1.heap.size < g := Nat.lt_of_lt_of_le hX.lt hg
  clear hb hbx ho2 ho1 hX hb1
  generalize w1.heap.size = b at *
  go_wp2_with fail
  refine (hE w2).out.mono ?_
  rintro e w3 ⟨v3, rfl, ho3, hb⟩
  have hb3 := hb2.trans (hb.mono hb2.size)
  have hG3 := hG.below hb hG.lt
  have hX3 := hX2.below hb hX2.lt
  clear hb hb2 hG hX2
  have hv3 := ho3.sees
  obtain ⟨A3, c3, rfl, -⟩ := hv3.at_
  go_wp2_with fail
  refine (hEnd g _ w3 hG3 hv3).out.mono ?_
  rintro e w4 ⟨rfl, hG4, hO⟩
  have hb4 := hb3.trans (hO.below hg2 hG3.lt)
  have hX4 := hX3.only hO (by omega)
  clear hO hG3 ho3 hv3 hb3 hX3
  go_wp2_with fail
  refine (hP g w4 hG4).out.mono ?_
  rintro e w5 ⟨rfl, hb⟩
  have hb5 := hb4.trans (hb.mono hb4.size)
  have hG5 := hG4.below hb hG4.lt
  have hX5 := hX4.below hb hX4.lt
  have t2 := hX5.cell 2 (x := .int .i64 (4 * dr + 6)) rfl
  clear hb hb4 hG4 hX4
  rcases hdec with ⟨rfl, h1, h2⟩ | ⟨rfl, h1⟩ | ⟨rfl, h1, h2⟩
  all_goals
    go_wp2_with fail
    refine (hW g w5 hG5).out.mono ?_
    rintro e w6 ⟨rfl, rfl⟩
    go_wp2_with fail
    refine (hKn _).out.mono ?_
    rintro e w7 ⟨rfl, hb⟩
    go_wp2
    go_ret
    exact ⟨rfl, hb5.trans (hb.mono hb5.size)⟩

/-! ### THE ROW's STEP around the walk. -/
theorem own_guardWindow : ownKnob Try.prog.godebug = none := by kernel_rfl
theorem laidOut_guardWindow : laidOutB Try.prog = true := by kernel_rfl
set_option maxRecDepth 100000 in
theorem lifted_guardWindow (os : Os) (started : os.Started) (H : Type) (enc : TypeId × Value → H) :
    ReturnsInHanded {} Try.checked os 4 .any (Rows.guardWindowSpec.pre6 enc Try.prog Try.f4 Rows.guardWindowRow.domain false) (Rows.guardWindowSpec.post enc Try.prog Try.f4 false true false false) := by
  refine returnsInHanded_of_change (C := Try.checked) own_guardWindow started (by kernel_rfl) Try.func4
    (ChangeSpec.witness6 (enc := enc) (C := Try.checked) false ⟨#[], #[.int .i64 0, .int .i64 0, .int .i64 0, .int .i64 0], []⟩ 8 (by kernel_rfl) (by kernel_rfl) (by kernel_rfl) (by kernel_rfl)) ?_
  intro W base args ds gs before hval0 hW hcnd _
  have hval : ∀ (j : Nat) t v, Try.f4.params[j]? = some t → args[j]? = some v → Value.okWide Try.prog W .any base t v := hval0
  have hW' := hW
  obtain ⟨p, q, hA0, hV, rfl, hfz, hnd⟩ := hW
  have hA : DataW.TrodAll enc Try.prog W 0 (fun _ => true) true Try.f4.params.toList args.toList ds p := hA0
  rw [Try.params4] at hA hval
  obtain ⟨v0, vs0, d0, ds0, p0, q0, hargs, rfl, rfl, h0, r0⟩ := trodAll_cons hA
  obtain ⟨v1, vs1, d1, ds1, p1, q1, rfl, rfl, rfl, h1, r1⟩ := trodAll_cons r0
  obtain ⟨v2, vs2, d2, ds2, p2, q2, rfl, rfl, rfl, h2, r2⟩ := trodAll_cons r1
  obtain ⟨v3, vs3, d3, ds3, p3, q3, rfl, rfl, rfl, h3, r3⟩ := trodAll_cons r2
  obtain ⟨rfl, rfl, rfl⟩ := trodAll_nil r3
  obtain rfl : args = #[v0, v1, v2, v3] := by cases args; simp_all
  obtain ⟨rfl, rfl⟩ := trodVars_none hV
  obtain ⟨a0, rfl, rfl, rfl, w0⟩ := open_int Try.underlying3 (hval 0 3 v0 rfl rfl) h0
  obtain ⟨a1, rfl, rfl, rfl, w1⟩ := open_int Try.underlying3 (hval 1 3 v1 rfl rfl) h1
  obtain ⟨a2, rfl, rfl, rfl, w2⟩ := open_int Try.underlying3 (hval 2 3 v2 rfl rfl) h2
  obtain ⟨a3, rfl, rfl, rfl, w3⟩ := open_int Try.underlying3 (hval 3 3 v3 rfl rfl) h3
  clear hA0 hval0
  refine (walk_guardWindow a0 a1 a2 a3 W (bounds_i64 w0) (bounds_i64 w1) (bounds_i64 w2) (bounds_i64 w3)).mono fun e W' ⟨he, bel⟩ => ?_
  subst he
  exact ⟨_, rfl, _, _, _, [], _, [], hW', trodAll_mk1 (shut_bool Try.underlying4 _), (trodAll_cons_mk (shut_int Try.underlying3 w0) (trodAll_cons_mk (shut_int Try.underlying3 w1) (trodAll_cons_mk (shut_int Try.underlying3 w2) (trodAll_cons_mk (shut_int Try.underlying3 w3) trodAll_mk0)))), rfl, bel.frame _, fun h => by cases h⟩

theorem over_guardWindow : Rows.guardWindowRow.holds Try.pinned (OpenSpec.ofChange Rows.guardWindowSpec) :=
  OpenClaim.holds_of_wide 4 Try.f4 rfl rfl rfl rfl rfl rfl rfl ⟨rfl, rfl, rfl, rfl, rfl⟩ rfl rfl rfl rfl rfl (by kernel_rfl) Try.func4 (by kernel_rfl)
    (of_decide_eq_true (by kernel_rfl)) (by unfold Func.isWrapper; first | (rw [if_pos (by decide +kernel)]; kernel_rfl) | (rw [if_neg (by decide +kernel)]; exact ⟨rfl, rfl⟩))
    (fun os started H enc _ => lifted_guardWindow os started H enc)

theorem proved_guardWindow : Rows.GuardWindowSaid := over_guardWindow
end Go.Proofs.Ytjenppaikmmbjaa
