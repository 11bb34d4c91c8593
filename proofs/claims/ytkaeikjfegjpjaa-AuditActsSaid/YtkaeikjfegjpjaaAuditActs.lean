/- AuditActs holds: to switch nodes on or off is not fair, to write and to acknowledge is. For all arguments. -/
import Derived.Test.YtkaeikjfegjpjaaAB10
namespace Go.Proofs.Ytkaeikjfegjpjaa
open Go.ChangeShapes Go.WideShapes Go.ChangeAt Go.RowKit
open Tb (D T)

theorem acts_fair (n : Nat) (k i : Int) (h4 : 4 ≤ n) (h8 : n ≤ 8) : auFair (gsmT n 1) [⟨5, 0, 0, [], []⟩, ⟨k, i, 0, [], []⟩] = (decide (k = 3) || decide (k = 4) || decide (k = 5)) := by
  unfold auFair
  rw [some_is n 1 h4 h8 (by omega)]
  simp only [auAt, List.length_cons, List.length_nil, List.take_succ_cons, List.take_nil, List.foldl_cons, List.foldl_nil, Bool.true_and]
  simp only [auStep, Option.bind_some]
  rw [if_neg (by omega), if_neg (by omega), if_pos (show ([] : List Ft).length = 0 from rfl)]
  simp only [Option.bind_some]
  by_cases a : k = 3
  · subst a; simp
  · by_cases b : k = 4
    · subst b; simp
    · by_cases c : k = 5
      · subst c; simp
      · simp [a, b, c]
theorem zero_fair : auFair Tb.zero [] = false := by decide +kernel
set_option maxRecDepth 100000 in
set_option maxHeartbeats 4000000 in
theorem core_auditActs (n k i : Int) (w : World) :
    Calls Try.prog 8 #[.int .i64 n, .int .i64 k, .int .i64 i] w fun e w' => e = .returned (.bool true) ∧ Below w.heap.size w w' := by
  by_cases call : 4 ≤ n ∧ n ≤ 8
  case neg =>
    go_enter Try.func8, Try.ntmps8
    go_wp2
    all_goals first
      | (exfalso; omega)
      | (go_ret; exact ⟨rfl, Below.refl _ _⟩)
      | skip
  obtain ⟨n4, n8⟩ := call
  obtain ⟨N, rfl⟩ : ∃ t : Nat, n = t := ⟨n.toNat, by omega⟩
  have q1 : decide (((N : Nat) : Int) < 4) = false := decide_eq_false (by omega)
  have q2 : decide ((8 : Int) < ((N : Nat) : Int)) = false := decide_eq_false (by omega)
  have hb1 := (Below.refl w.heap.size w).alloc (Nat.le_refl _) (.cells #[.int .i64 5, .int .i64 0, .int .i64 0, .slice none 0 0, .slice none 0 0, .int .i64 k, .int .i64 i, .int .i64 0, .slice none 0 0, .slice none 0 0] 35)
  have hX := Blk.new w _ rfl #[.int .i64 5, .int .i64 0, .int .i64 0, .slice none 0 0, .slice none 0 0, .int .i64 k, .int .i64 i, .int .i64 0, .slice none 0 0, .slice none 0 0] 35
  have hA := SeesAc.of w.heap.size 2 2 [⟨5, 0, 0, [], []⟩, ⟨k, i, 0, [], []⟩] rfl hX.lt ⟨Nat.le_refl _, by unfold maxLen; omega⟩ (fun j hj => by
    rcases (by omega : j = 0 ∨ j = 1) with rfl | rfl
    · exact hX.ac 0 ⟨5, 0, 0, [], []⟩ (.slice none 0 0) (.slice none 0 0) rfl rfl rfl rfl rfl SeesL.nil SeesF.nil
    · exact hX.ac 5 ⟨k, i, 0, [], []⟩ (.slice none 0 0) (.slice none 0 0) rfl rfl rfl rfl rfl SeesL.nil SeesF.nil) (fun x hx => by
    simp at hx
    rcases hx with rfl | rfl <;> exact bytesL_nil)
  have hs := Lib.hid (show Calls Try.prog 16 #[.int .i64 (N : Nat), .int .i64 1] (w.alloc (.cells #[.int .i64 5, .int .i64 0, .int .i64 0, .slice none 0 0, .slice none 0 0, .int .i64 k, .int .i64 i, .int .i64 0, .slice none 0 0, .slice none 0 0] 35)) fun e w' => ∃ v, e = .returned (.agg #[v, .int .i64 1, .int .i64 10, .int .i64 13]) ∧ OwnsD w' _ v (gsmL N) ∧ Below _ _ w' from some_au N 1 (by omega) (by omega) _)
  have hF := fun W v u (h : SeesT W W.heap.size v (gsmL N)) (hu : SeesAc W W.heap.size u [⟨5, 0, 0, [], []⟩, ⟨k, i, 0, [], []⟩]) => Lib.hid (show Calls Try.prog 11 #[.agg #[v, .int .i64 1, .int .i64 10, .int .i64 13], u] W fun e w' => e = .returned (.bool (decide (k = 3) || decide (k = 4) || decide (k = 5))) ∧ Below W.heap.size W w' by
    have := Fair_au (gsmT N 1) v u [⟨5, 0, 0, [], []⟩, ⟨k, i, 0, [], []⟩] W h hu (by simp)
    rw [acts_fair N k i (by omega) (by omega)] at this
    exact this)
  have hZ := fun W => Lib.hid (show Calls Try.prog 11 #[.agg #[.slice none 0 0, .int .i64 0, .int .i64 0, .int .i64 0], .slice none 0 0] W fun e w' => e = .returned (.bool false) ∧ Below W.heap.size W w' by
    have := Fair_au Tb.zero (.slice none 0 0) _ [] W SeesT.nil SeesAc.nil (by simp)
    rw [zero_fair] at this
    exact this)
  have hK := fun W => Lib.hid (known_au W)
  have hb1 := Lib.hid hb1
  clear hX
  have fin : ∀ b3 b4 b5 : Bool, (k == 3) = b3 → (k == 4) = b4 → (k == 5) = b5 → (decide (k = 3) || decide (k = 4) || decide (k = 5)) = (b3 || b4 || b5) := by
    rintro _ _ _ rfl rfl rfl
    have e : ∀ a b : Int, (a == b) = decide (a = b) := fun a b => by by_cases h : a = b <;> simp [h]
    rw [e, e, e]
  have key : ∀ b3 b4 b5 : Bool, (k == 3) = b3 → (k == 4) = b4 → (k == 5) = b5 → Calls Try.prog 8 #[.int .i64 (N : Nat), .int .i64 k, .int .i64 i] w fun e w' => e = .returned (.bool true) ∧ Below w.heap.size w w' := by
    intro b3 b4 b5 h3 h4 h5
    rw [fin b3 b4 b5 h3 h4 h5] at hF
    clear fin
    cases b3 <;> cases b4 <;> cases b5
    all_goals
      simp only [Bool.or_false, Bool.or_true] at hF
      go_enter Try.func8, Try.ntmps8
      go_wp2_with fail
      refine hs.out.mono ?_
      rintro e w2 ⟨v, rfl, ho, b2⟩
      have hv2 := hF _ _ _ ho.sees ((hA.below b2).more b2.size)
      have hb2 := Lib.hid (hb1.out.trans (b2.mono hb1.out.size))
      clear hs ho b2 hF hA hb1
      go_wp2_with fail
      refine hv2.out.mono ?_
      rintro e w3 ⟨rfl, b3⟩
      have hb3 := Lib.hid (hb2.out.trans (b3.mono hb2.out.size))
      clear hv2 hb2 b3
      go_wp2_with fail
      refine (hZ _).out.mono ?_
      rintro e w4 ⟨rfl, b4⟩
      have hb4 := Lib.hid (hb3.out.trans (b4.mono hb3.out.size))
      clear hb3 hZ b4
      go_wp2_with fail
      refine (hK _).out.mono ?_
      rintro e w5 ⟨rfl, b5⟩
      have hb5 := Lib.hid (hb4.out.trans (b5.mono hb4.out.size))
      clear hb4 hK b5
      go_wp2_with fail
      go_ret
      exact ⟨rfl, hb5.out⟩
  exact key _ _ _ rfl rfl rfl
theorem walk_auditActs (n k i : Int) (w : World) (_h_n : -9223372036854775808 ≤ n ∧ n ≤ 9223372036854775807) (_h_k : -9223372036854775808 ≤ k ∧ k ≤ 9223372036854775807) (_h_i : -9223372036854775808 ≤ i ∧ i ≤ 9223372036854775807) :
    Calls Try.prog 8 #[.int .i64 n, .int .i64 k, .int .i64 i] w fun e w' => e = .returned (.bool true) ∧ Below w.heap.size w w' := core_auditActs n k i w

/-! ### THE ROW's STEP around the walk. -/
theorem own_auditActs : ownKnob Try.prog.godebug = none := by kernel_rfl
theorem laidOut_auditActs : laidOutB Try.prog = true := by kernel_rfl
set_option maxRecDepth 100000 in
theorem lifted_auditActs (os : Os) (started : os.Started) (H : Type) (enc : TypeId × Value → H) :
    ReturnsInHanded {} Try.checked os 8 .any (Rows.auditActsSpec.pre6 enc Try.prog Try.f8 Rows.auditActsRow.domain false) (Rows.auditActsSpec.post enc Try.prog Try.f8 false true false false) := by
  refine returnsInHanded_of_change (C := Try.checked) own_auditActs started (by kernel_rfl) Try.func8
    (ChangeSpec.witness6 (enc := enc) (C := Try.checked) false ⟨#[], #[.int .i64 0, .int .i64 0, .int .i64 0], []⟩ 8 (by kernel_rfl) (by kernel_rfl) (by kernel_rfl) (by kernel_rfl)) ?_
  intro W base args ds gs before hval0 hW hcnd _
  have hval : ∀ (j : Nat) t v, Try.f8.params[j]? = some t → args[j]? = some v → Value.okWide Try.prog W .any base t v := hval0
  have hW' := hW
  obtain ⟨p, q, hA0, hV, rfl, hfz, hnd⟩ := hW
  have hA : DataW.TrodAll enc Try.prog W 0 (fun _ => true) true Try.f8.params.toList args.toList ds p := hA0
  rw [Try.params8] at hA hval
  obtain ⟨v0, vs0, d0, ds0, p0, q0, hargs, rfl, rfl, h0, r0⟩ := trodAll_cons hA
  obtain ⟨v1, vs1, d1, ds1, p1, q1, rfl, rfl, rfl, h1, r1⟩ := trodAll_cons r0
  obtain ⟨v2, vs2, d2, ds2, p2, q2, rfl, rfl, rfl, h2, r2⟩ := trodAll_cons r1
  obtain ⟨rfl, rfl, rfl⟩ := trodAll_nil r2
  obtain rfl : args = #[v0, v1, v2] := by cases args; simp_all
  obtain ⟨rfl, rfl⟩ := trodVars_none hV
  obtain ⟨a0, rfl, rfl, rfl, w0⟩ := open_int Try.underlying3 (hval 0 3 v0 rfl rfl) h0
  obtain ⟨a1, rfl, rfl, rfl, w1⟩ := open_int Try.underlying3 (hval 1 3 v1 rfl rfl) h1
  obtain ⟨a2, rfl, rfl, rfl, w2⟩ := open_int Try.underlying3 (hval 2 3 v2 rfl rfl) h2
  clear hA0 hval0
  refine (walk_auditActs a0 a1 a2 W (bounds_i64 w0) (bounds_i64 w1) (bounds_i64 w2)).mono fun e W' ⟨he, bel⟩ => ?_
  subst he
  exact ⟨_, rfl, _, _, _, [], _, [], hW', trodAll_mk1 (shut_bool Try.underlying4 _), (trodAll_cons_mk (shut_int Try.underlying3 w0) (trodAll_cons_mk (shut_int Try.underlying3 w1) (trodAll_cons_mk (shut_int Try.underlying3 w2) trodAll_mk0))), rfl, bel.frame _, fun h => by cases h⟩

theorem over_auditActs : Rows.auditActsRow.holds Try.pinned (OpenSpec.ofChange Rows.auditActsSpec) :=
  OpenClaim.holds_of_wide 8 Try.f8 rfl rfl rfl rfl rfl rfl rfl ⟨rfl, rfl, rfl, rfl, rfl⟩ rfl rfl rfl rfl rfl (by kernel_rfl) Try.func8 (by kernel_rfl)
    (of_decide_eq_true (by kernel_rfl)) (by unfold Func.isWrapper; first | (rw [if_pos (by decide +kernel)]; kernel_rfl) | (rw [if_neg (by decide +kernel)]; exact ⟨rfl, rfl⟩))
    (fun os started H enc _ => lifted_auditActs os started H enc)

theorem proved_auditActs : Rows.AuditActsSaid := over_auditActs
end Go.Proofs.Ytkaeikjfegjpjaa
