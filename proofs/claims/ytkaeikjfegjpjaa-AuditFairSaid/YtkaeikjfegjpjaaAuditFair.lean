/- AuditFair holds: of any table and script whether it is fair, and which nodes are hit. For all arguments. -/
import Derived.Test.YtkaeikjfegjpjaaAB10
namespace Go.Proofs.Ytkaeikjfegjpjaa
open Go.ChangeShapes Go.WideShapes Go.ChangeAt Go.RowKit
open Tb (D T)

set_option maxRecDepth 100000 in
set_option maxHeartbeats 4000000 in
theorem core_auditFair (t : T) (tv : Value) (l : List Ac) (v : Value) (w : World) (ht : SeesT w w.heap.size tv t.ns) (hl : SeesAc w w.heap.size v l) :
    Calls Try.prog 3 #[tabV t tv, v] w fun e w' => e = .returned (.bool true) ∧ Below w.heap.size w w' := by
  have hF := fun W (h : Below w.heap.size w W) (h4 : l.length < 1000000) => Lib.hid (Fair_au t tv v l W ((ht.below h).more h.size) ((hl.below h).more h.size) h4)
  have hG := fun W (h : Below w.heap.size w W) (h4 : l.length < 1000000) => Lib.hid (FairR_au t tv v l W ((ht.below h).more h.size) ((hl.below h).more h.size) h4)
  have hH := fun W (h : Below w.heap.size w W) => Lib.hid (Hit_au v l W ((hl.below h).more h.size))
  have hI := fun W (h : Below w.heap.size w W) => Lib.hid (HitR_au v l W ((hl.below h).more h.size))
  have hS := fun W (h : Below w.heap.size w W) => Lib.hid (short_au v l W ((hl.below h).more h.size))
  have hK := fun W => Lib.hid (known_au W)
  obtain ⟨TA, tc, rfl, htc, -⟩ := ht.at_
  obtain ⟨A, c, rfl, -⟩ := hl.at_
  generalize hQ : auFair t l = Q at *
  generalize hP : auHit l = P at *
  have hll := Lib.hid (rfl : l.length = l.length)
  obtain ⟨ns, dr, wi, lm⟩ := t
  unfold tabV at *
  simp only at *
  clear hQ hP ht
  have hb0 := (Below.refl w.heap.size w).alloc (Nat.le_refl _) (.cells #[.slice TA ns.length tc, .int .i64 dr, .int .i64 wi, .int .i64 lm] 24)
  have hT := Blk.new w _ rfl #[.slice TA ns.length tc, .int .i64 dr, .int .i64 wi, .int .i64 lm] 24
  have hS := hS _ hb0
  have hT' := hT.lt
  generalize ns.length = n at *
  by_cases h20 : 20 < n
  · have q1 : decide ((20 : Int) < (n : Nat)) = true := decide_eq_true (by omega)
    have q1n : decide (20 < n) = true := decide_eq_true h20
    go_enter Try.func3, Try.ntmps3
    go_wp2
    go_ret
    exact ⟨rfl, hb0⟩
  · have q1 : decide ((20 : Int) < (n : Nat)) = false := decide_eq_false (by omega)
    have q1n : decide (20 < n) = false := decide_eq_false h20
    go_enter Try.func3, Try.ntmps3
    go_wp2_with fail
    refine hS.out.mono ?_
    rintro e w1 ⟨q, rfl, hq, rfl⟩
    cases q
    · go_wp2
      go_ret
      exact ⟨rfl, hb0⟩
    · have h4 : l.length < 1000000 := by have := hq rfl; omega
      have hF := fun W h => hF W h h4
      have hG := fun W h => hG W h h4
      clear hS hq hl hll h4
      have HS : ∀ W, Blk W w.heap.size #[.slice TA n tc, .int .i64 dr, .int .i64 wi, .int .i64 lm] 24 → W.cell? ⟨w.heap.size, 0, none⟩ = some (.slice TA n tc) ∧ W.cell? ⟨w.heap.size, 1, none⟩ = some (.int .i64 dr) ∧ W.cell? ⟨w.heap.size, 2, none⟩ = some (.int .i64 wi) ∧ W.cell? ⟨w.heap.size, 3, none⟩ = some (.int .i64 lm) := fun W h => ⟨h.cell 0 rfl, h.cell 1 rfl, h.cell 2 rfl, h.cell 3 rfl⟩
      have HS := Lib.hid HS
      generalize w.alloc (.cells #[.slice TA n tc, .int .i64 dr, .int .i64 wi, .int .i64 lm] 24) = w1 at *
      have hB1 := Lib.hid hb0.drew
      have hT1 := Lib.hid hT.drew
      have S1 := HS.out _ hT1.out
      clear hb0 hT
      go_wp2_with fail
      go_region_held3 (fun W => W.cell? ⟨w.heap.size, 0, none⟩ = some (.slice TA n tc) ∧ W.cell? ⟨w.heap.size, 1, none⟩ = some (.int .i64 dr) ∧ W.cell? ⟨w.heap.size, 2, none⟩ = some (.int .i64 wi) ∧ W.cell? ⟨w.heap.size, 3, none⟩ = some (.int .i64 lm))
        (first | exact S1 | exact S2 | exact S3 | exact S4 | exact S5 | exact S6)
        (first
          | (go_at_call 11; refine (hF _ hB1.out).out.mono ?_; rintro e w2 ⟨rfl, b2⟩; have hB2 := Lib.hid (hB1.out.trans (b2.mono hB1.out.size)); have hT2 := Lib.hid (hT1.out.below b2 hT1.out.lt); have S2 := HS.out _ hT2.out)
          | (go_at_call 12; refine (hG _ hB2.out).out.mono ?_; rintro e w3 ⟨rfl, b3⟩; have hB3 := Lib.hid (hB2.out.trans (b3.mono hB2.out.size)); have hT3 := Lib.hid (hT2.out.below b3 hT2.out.lt); have S3 := HS.out _ hT3.out)
          | (go_at_call 13; refine (hH _ hB3.out).out.mono ?_; rintro e w4 ⟨rfl, b4⟩; have hB4 := Lib.hid (hB3.out.trans (b4.mono hB3.out.size)); have hT4 := Lib.hid (hT3.out.below b4 hT3.out.lt); have S4 := HS.out _ hT4.out)
          | (go_at_call 14; refine (hI _ hB4.out).out.mono ?_; rintro e w5 ⟨rfl, b5⟩; have hB5 := Lib.hid (hB4.out.trans (b5.mono hB4.out.size)); have hT5 := Lib.hid (hT4.out.below b5 hT4.out.lt); have S5 := HS.out _ hT5.out)
          | (go_at_call 15; refine (hK _).out.mono ?_; rintro e w6 ⟨rfl, b6⟩; have hB6 := Lib.hid (hB5.out.trans (b6.mono hB5.out.size)); have hT6 := Lib.hid (hT5.out.below b6 hT5.out.lt); have S6 := HS.out _ hT6.out)
          | fail)
      all_goals
        go_wp2
        go_ret
        exact ⟨rfl, hB6.out⟩
theorem walk_auditFair (t : T) (tv : Value) (l : List Ac) (v : Value) (w : World) (ht : InTable w t tv) (hl : SeesAc w w.heap.size v l) :
    Calls Try.prog 3 #[tabV t tv, v] w fun e w' => e = .returned (.bool true) ∧ Below w.heap.size w w' := core_auditFair t tv l v w ht.sees hl

/-! ### THE ROW's STEP around the walk. -/
theorem own_auditFair : ownKnob Try.prog.godebug = none := by kernel_rfl
theorem laidOut_auditFair : laidOutB Try.prog = true := by kernel_rfl
set_option maxRecDepth 100000 in
theorem lifted_auditFair (os : Os) (started : os.Started) (H : Type) (enc : TypeId × Value → H) :
    ReturnsInHanded {} Try.checked os 3 .any (Rows.auditFairSpec.pre6 enc Try.prog Try.f3 Rows.auditFairRow.domain false) (Rows.auditFairSpec.post enc Try.prog Try.f3 false true false false) := by
  refine returnsInHanded_of_change (C := Try.checked) own_auditFair started (by kernel_rfl) Try.func3
    (ChangeSpec.witness6 (enc := enc) (C := Try.checked) false ⟨#[], #[.agg #[.slice none 0 0, .int .i64 0, .int .i64 0, .int .i64 0], .slice none 0 0], []⟩ 8 (by kernel_rfl) (by kernel_rfl) (by kernel_rfl) (by kernel_rfl)) ?_
  intro W base args ds gs before hval0 hW hcnd _
  have hval : ∀ (j : Nat) t v, Try.f3.params[j]? = some t → args[j]? = some v → Value.okWide Try.prog W .any base t v := hval0
  have hW' := hW
  obtain ⟨p, q, hA0, hV, rfl, hfz, hnd⟩ := hW
  have hA : DataW.TrodAll enc Try.prog W 0 (fun _ => true) true Try.f3.params.toList args.toList ds p := hA0
  rw [Try.params3] at hA hval
  obtain ⟨v0, vs0, d0, ds0, p0, q0, hargs, rfl, rfl, h0, r0⟩ := trodAll_cons hA
  obtain ⟨v1, vs1, d1, ds1, p1, q1, rfl, rfl, rfl, h1, r1⟩ := trodAll_cons r0
  obtain ⟨rfl, rfl, rfl⟩ := trodAll_nil r1
  obtain rfl : args = #[v0, v1] := by cases args; simp_all
  obtain ⟨rfl, rfl⟩ := trodVars_none hV
  obtain ⟨y0, x0, rfl, s0⟩ := sees_table Try.underlying24 (by kernel_rfl) ⟨rfl, rfl⟩ ⟨rfl, rfl⟩ ⟨rfl, rfl⟩ ⟨rfl, rfl⟩ Try.underlying22 (by kernel_rfl) Try.underlying41 (by kernel_rfl) ⟨rfl, rfl⟩ ⟨rfl, rfl⟩ ⟨rfl, rfl⟩ ⟨rfl, rfl⟩ Try.underlying3 Try.underlying4 (by kernel_rfl) (by kernel_rfl) (hval 0 24 v0 rfl rfl) h0
  have k0 := h0
  have lt0 : ∀ x ∈ p0, x.block < W.heap.size := by obtain ⟨m, hm⟩ := k0; exact DataW.trod_lt m _ _ _ hm
  obtain ⟨A1, n1, c1, rfl⟩ := okWide_slice Try.underlying25 (hval 1 25 v1 rfl rfl)
  obtain ⟨l1, s1⟩ := sees_acs Try.underlying25 Try.underlying35 (by kernel_rfl) ⟨rfl, rfl⟩ ⟨rfl, rfl⟩ ⟨rfl, rfl⟩ ⟨rfl, rfl⟩ ⟨rfl, rfl⟩ Try.underlying33 Try.underlying32 (by kernel_rfl) ⟨rfl, rfl⟩ ⟨rfl, rfl⟩ ⟨rfl, rfl⟩ ⟨rfl, rfl⟩ Try.underlying3 Try.underlying30 Try.underlying5 (by kernel_rfl) (by kernel_rfl) (by kernel_rfl) (by kernel_rfl) h1
  have k1 := h1
  have lt1 : ∀ x ∈ p1, x.block < W.heap.size := by obtain ⟨m, hm⟩ := k1; exact DataW.trod_lt m _ _ _ hm
  clear hA0 hval0
  refine (walk_auditFair y0 x0 l1 _ W s0 s1).mono fun e W' ⟨he, bel⟩ => ?_
  subst he
  exact ⟨_, rfl, _, _, _, [], _, [], hW', trodAll_mk1 (shut_bool Try.underlying4 _), (trodAll_cons_mk (Below.trod laidOut_auditFair (by kernel_rfl) (of_decide_eq_true (by kernel_rfl)) k0 bel lt0) (trodAll_cons_mk (Below.trod laidOut_auditFair (by kernel_rfl) (of_decide_eq_true (by kernel_rfl)) k1 bel lt1) trodAll_mk0)), rfl, bel.frame _, fun h => by cases h⟩

theorem over_auditFair : Rows.auditFairRow.holds Try.pinned (OpenSpec.ofChange Rows.auditFairSpec) :=
  OpenClaim.holds_of_wide 3 Try.f3 rfl rfl rfl rfl rfl rfl rfl ⟨rfl, rfl, rfl, rfl, rfl⟩ rfl rfl rfl rfl rfl (by kernel_rfl) Try.func3 (by kernel_rfl)
    (of_decide_eq_true (by kernel_rfl)) (by unfold Func.isWrapper; first | (rw [if_pos (by decide +kernel)]; kernel_rfl) | (rw [if_neg (by decide +kernel)]; exact ⟨rfl, rfl⟩))
    (fun os started H enc _ => lifted_auditFair os started H enc)

theorem proved_auditFair : Rows.AuditFairSaid := over_auditFair
end Go.Proofs.Ytkaeikjfegjpjaa
