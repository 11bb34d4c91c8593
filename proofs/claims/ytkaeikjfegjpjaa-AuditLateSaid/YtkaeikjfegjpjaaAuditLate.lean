/- AuditLate holds: to be late is fair just beyond twice the window, to babble just in time. For all arguments. -/
import Derived.Test.YtkaeikjfegjpjaaAB10
namespace Go.Proofs.Ytkaeikjfegjpjaa
open Go.ChangeShapes Go.WideShapes Go.ChangeAt Go.RowKit
open Tb (D T)

theorem late_fair (a : Int) : ftFair 10 ⟨6, 0, a, []⟩ = (decide (-1000 ≤ a ∧ a ≤ 1000) && (decide (20 < a) || decide (a < -20))) := by
  have h := ftFair_iff 10 ⟨6, 0, a, []⟩
  have m : Ft.may ⟨6, 0, a, []⟩ = true ↔ _ := ftMay_iff 6 0 a 0
  rw [m] at h
  simp only at h
  cases q : ftFair 10 ⟨6, 0, a, []⟩ <;> rw [q] at h <;> symm
  · rw [Bool.and_eq_false_iff, decide_eq_false_iff_not, Bool.or_eq_false_iff, decide_eq_false_iff_not, decide_eq_false_iff_not]
    simp at h
    omega
  · rw [Bool.and_eq_true, decide_eq_true_eq, Bool.or_eq_true, decide_eq_true_eq, decide_eq_true_eq]
    simp at h
    omega
theorem babble_fair (a : Int) : ftFair 10 ⟨5, 0, a, []⟩ = decide (a = 0) := by
  have h := ftFair_iff 10 ⟨5, 0, a, []⟩
  have m : Ft.may ⟨5, 0, a, []⟩ = true ↔ _ := ftMay_iff 5 0 a 0
  rw [m] at h
  simp only at h
  cases q : ftFair 10 ⟨5, 0, a, []⟩ <;> rw [q] at h <;> symm
  · rw [decide_eq_false_iff_not]
    simp at h
    omega
  · rw [decide_eq_true_eq]
    simp at h
    omega
set_option maxRecDepth 100000 in
set_option maxHeartbeats 4000000 in
theorem core_auditLate (n a : Int) (w : World) :
    Calls Try.prog 9 #[.int .i64 n, .int .i64 a] w fun e w' => e = .returned (.bool true) ∧ Below w.heap.size w w' := by
  by_cases call : 4 ≤ n ∧ n ≤ 8
  case neg =>
    go_enter Try.func9, Try.ntmps9
    go_wp2
    all_goals first
      | (exfalso; omega)
      | (go_ret; exact ⟨rfl, Below.refl _ _⟩)
      | skip
  obtain ⟨n4, n8⟩ := call
  obtain ⟨N, rfl⟩ : ∃ t : Nat, n = t := ⟨n.toNat, by omega⟩
  have q1 : decide (((N : Nat) : Int) < 4) = false := decide_eq_false (by omega)
  have q2 : decide ((8 : Int) < ((N : Nat) : Int)) = false := decide_eq_false (by omega)
  have hs := Lib.hid (show Calls Try.prog 16 #[.int .i64 (N : Nat), .int .i64 1] w fun e w' => ∃ v, e = .returned (.agg #[v, .int .i64 1, .int .i64 10, .int .i64 13]) ∧ OwnsD w' w.heap.size v (gsmL N) ∧ Below w.heap.size w w' from some_au N 1 (by omega) (by omega) w)
  have hF := fun W v (h : SeesT W W.heap.size v (gsmL N)) => Lib.hid (show Calls Try.prog 11 #[.agg #[v, .int .i64 1, .int .i64 10, .int .i64 13], .slice (some ⟨W.heap.size + 1, 0, none⟩) 1 1] ((W.alloc (.cells #[.int .i64 6, .int .i64 0, .int .i64 a, .slice none 0 0] 32)).alloc (.cells #[.int .i64 5, .int .i64 0, .int .i64 0, .slice none 0 0, .slice (some ⟨W.heap.size, 0, none⟩) 1 1] 35)) fun e w' => e = .returned (.bool (decide (-1000 ≤ a ∧ a ≤ 1000) && (decide (20 < a) || decide (a < -20)))) ∧ Below W.heap.size W w' by
    have := Fair_slot1 N (by omega) (by omega) ⟨6, 0, a, []⟩ (.slice none 0 0) v W h _ rfl SeesL.nil bytesL_nil
    rw [late_fair] at this
    exact this)
  have hG := fun W v (h : SeesT W W.heap.size v (gsmL N)) => Lib.hid (show Calls Try.prog 11 #[.agg #[v, .int .i64 1, .int .i64 10, .int .i64 13], .slice (some ⟨W.heap.size + 1, 0, none⟩) 1 1] ((W.alloc (.cells #[.int .i64 5, .int .i64 0, .int .i64 a, .slice none 0 0] 32)).alloc (.cells #[.int .i64 5, .int .i64 0, .int .i64 0, .slice none 0 0, .slice (some ⟨W.heap.size, 0, none⟩) 1 1] 35)) fun e w' => e = .returned (.bool (decide (a = 0))) ∧ Below W.heap.size W w' by
    have := Fair_slot1 N (by omega) (by omega) ⟨5, 0, a, []⟩ (.slice none 0 0) v W h _ rfl SeesL.nil bytesL_nil
    rw [babble_fair] at this
    exact this)
  have hK := fun W => Lib.hid (known_au W)
  have key : ∀ b0 b1 b2 b3 b4 : Bool, decide ((-1000 : Int) ≤ a) = b0 → decide (a ≤ (1000 : Int)) = b1 → decide ((20 : Int) < a) = b2 → decide (a < (-20 : Int)) = b3 → (a == 0) = b4 → Calls Try.prog 9 #[.int .i64 (N : Nat), .int .i64 a] w fun e w' => e = .returned (.bool true) ∧ Below w.heap.size w w' := by
    intro b0 b1 b2 b3 b4 h0 h1 h2 h3 h4
    have e0 : (decide (-1000 ≤ a ∧ a ≤ 1000) && (decide (20 < a) || decide (a < -20))) = ((b0 && b1) && (b2 || b3)) := by
      rw [← h0, ← h1, ← h2, ← h3, Bool.decide_and]
    have e1 : decide (a = 0) = b4 := by rw [← h4]; by_cases h : a = 0 <;> simp [h]
    rw [e0] at hF
    rw [e1] at hG
    generalize hr : ((b0 && b1) && (b2 || b3)) = r at *
    have hr := Lib.hid hr
    clear e0 e1
    go_enter Try.func9, Try.ntmps9
    go_wp2_with fail
    refine hs.out.mono ?_
    rintro e w1 ⟨v, rfl, ho, hb1⟩
    obtain ⟨VA, vc, hvv, -⟩ := ho.sees.at_
    rw [gsmL_length N] at hvv
    subst hvv
    have hv1 := ho.sees
    clear ho hs
    have hT := Blk.new w1 w1.heap.size rfl #[.slice VA N vc, .int .i64 1, .int .i64 10, .int .i64 13] 24
    have hb2 := hb1.alloc hb1.size (.cells #[.slice VA N vc, .int .i64 1, .int .i64 10, .int .i64 13] 24)
    have hv2 := (hv1.below ((Below.refl _ w1).alloc (Nat.le_refl _) (.cells #[.slice VA N vc, .int .i64 1, .int .i64 10, .int .i64 13] 24))).more (by simp : _ ≤ (w1.alloc (.cells #[.slice VA N vc, .int .i64 1, .int .i64 10, .int .i64 13] 24)).heap.size)
    have hFF := hF _ _ hv2
    have ez : (w1.alloc (.cells #[.slice VA N vc, .int .i64 1, .int .i64 10, .int .i64 13] 24)).heap.size = w1.heap.size + 1 := by simp
    rw [ez] at hFF
    have hFF := Lib.hid (hFF.out.mono fun e w' he => (⟨he.1, hb2.trans (he.2.mono (by have := hb2.size; omega)), (hT.below he.2 (Nat.lt_succ_self _)), (hv2.below (he.2.mono (by omega))).more (by have := he.2.size; omega)⟩ : e = .returned (.bool r) ∧ Below w.heap.size w w' ∧ Blk w' w1.heap.size #[.slice VA N vc, .int .i64 1, .int .i64 10, .int .i64 13] 24 ∧ SeesT w' w'.heap.size (.slice VA N vc) (gsmL N)))
    clear hF hb1 hv1 hb2 hv2 hT
    cases b0 <;> cases b1
    all_goals
      go_wp2_with fail
      refine hFF.out.mono ?_
      rintro e w3 ⟨rfl, hb3, hT3, hv3⟩
      have hGG := hG _ _ hv3
      have t0 := hT3.cell 0 rfl
      have t1 := hT3.cell 1 rfl
      have t2 := hT3.cell 2 rfl
      have t3 := hT3.cell 3 rfl
      have hGG := Lib.hid (hGG.out.mono fun e w' he => (⟨he.1, hb3.trans (he.2.mono hb3.size), (hT3.below he.2 hT3.lt)⟩ : e = .returned (.bool b4) ∧ Below w.heap.size w w' ∧ Blk w' w1.heap.size #[.slice VA N vc, .int .i64 1, .int .i64 10, .int .i64 13] 24))
      clear hFF hT3 hv3 hG hb3
      go_wp2_with fail
      refine hGG.out.mono ?_
      rintro e w4 ⟨rfl, hb4, hT4⟩
      clear t0 t1 t2 t3 hGG
      have t2 := hT4.cell 2 rfl
      clear hT4
      have hr := hr.out
      cases b2 <;> cases b3 <;> subst hr
      all_goals
        go_wp2_with fail
        refine (hK _).out.mono ?_
        rintro e w5 ⟨rfl, b5⟩
        have hb5 := Lib.hid (hb4.trans (b5.mono hb4.size))
        clear b5 hb4 hK t2
        go_wp2_with fail
        go_ret
        exact ⟨rfl, hb5.out⟩
  exact key _ _ _ _ _ rfl rfl rfl rfl rfl
theorem walk_auditLate (n a : Int) (w : World) (_h_n : -9223372036854775808 ≤ n ∧ n ≤ 9223372036854775807) (_h_a : -9223372036854775808 ≤ a ∧ a ≤ 9223372036854775807) :
    Calls Try.prog 9 #[.int .i64 n, .int .i64 a] w fun e w' => e = .returned (.bool true) ∧ Below w.heap.size w w' := core_auditLate n a w

/-! ### THE ROW's STEP around the walk. -/
theorem own_auditLate : ownKnob Try.prog.godebug = none := by kernel_rfl
theorem laidOut_auditLate : laidOutB Try.prog = true := by kernel_rfl
set_option maxRecDepth 100000 in
theorem lifted_auditLate (os : Os) (started : os.Started) (H : Type) (enc : TypeId × Value → H) :
    ReturnsInHanded {} Try.checked os 9 .any (Rows.auditLateSpec.pre6 enc Try.prog Try.f9 Rows.auditLateRow.domain false) (Rows.auditLateSpec.post enc Try.prog Try.f9 false true false false) := by
  refine returnsInHanded_of_change (C := Try.checked) own_auditLate started (by kernel_rfl) Try.func9
    (ChangeSpec.witness6 (enc := enc) (C := Try.checked) false ⟨#[], #[.int .i64 0, .int .i64 0], []⟩ 8 (by kernel_rfl) (by kernel_rfl) (by kernel_rfl) (by kernel_rfl)) ?_
  intro W base args ds gs before hval0 hW hcnd _
  have hval : ∀ (j : Nat) t v, Try.f9.params[j]? = some t → args[j]? = some v → Value.okWide Try.prog W .any base t v := hval0
  have hW' := hW
  obtain ⟨p, q, hA0, hV, rfl, hfz, hnd⟩ := hW
  have hA : DataW.TrodAll enc Try.prog W 0 (fun _ => true) true Try.f9.params.toList args.toList ds p := hA0
  rw [Try.params9] at hA hval
  obtain ⟨v0, vs0, d0, ds0, p0, q0, hargs, rfl, rfl, h0, r0⟩ := trodAll_cons hA
  obtain ⟨v1, vs1, d1, ds1, p1, q1, rfl, rfl, rfl, h1, r1⟩ := trodAll_cons r0
  obtain ⟨rfl, rfl, rfl⟩ := trodAll_nil r1
  obtain rfl : args = #[v0, v1] := by cases args; simp_all
  obtain ⟨rfl, rfl⟩ := trodVars_none hV
  obtain ⟨a0, rfl, rfl, rfl, w0⟩ := open_int Try.underlying3 (hval 0 3 v0 rfl rfl) h0
  obtain ⟨a1, rfl, rfl, rfl, w1⟩ := open_int Try.underlying3 (hval 1 3 v1 rfl rfl) h1
  clear hA0 hval0
  refine (walk_auditLate a0 a1 W (bounds_i64 w0) (bounds_i64 w1)).mono fun e W' ⟨he, bel⟩ => ?_
  subst he
  exact ⟨_, rfl, _, _, _, [], _, [], hW', trodAll_mk1 (shut_bool Try.underlying4 _), (trodAll_cons_mk (shut_int Try.underlying3 w0) (trodAll_cons_mk (shut_int Try.underlying3 w1) trodAll_mk0)), rfl, bel.frame _, fun h => by cases h⟩

theorem over_auditLate : Rows.auditLateRow.holds Try.pinned (OpenSpec.ofChange Rows.auditLateSpec) :=
  OpenClaim.holds_of_wide 9 Try.f9 rfl rfl rfl rfl rfl rfl rfl ⟨rfl, rfl, rfl, rfl, rfl⟩ rfl rfl rfl rfl rfl (by kernel_rfl) Try.func9 (by kernel_rfl)
    (of_decide_eq_true (by kernel_rfl)) (by unfold Func.isWrapper; first | (rw [if_pos (by decide +kernel)]; kernel_rfl) | (rw [if_neg (by decide +kernel)]; exact ⟨rfl, rfl⟩))
    (fun os started H enc _ => lifted_auditLate os started H enc)

theorem proved_auditLate : Rows.AuditLateSaid := over_auditLate
end Go.Proofs.Ytkaeikjfegjpjaa
