/- AuditLead holds: it takes as many slots to begin as the least node waits, and a round. For all arguments. -/
import Derived.Test.YtkaeikjfegjpjaaAB10
namespace Go.Proofs.Ytkaeikjfegjpjaa
open Go.ChangeShapes Go.WideShapes Go.ChangeAt Go.RowKit
open Tb (D T)

/-- The least that listens of the first k, the first's ahead of all. -/
def leastF (l : List D) (k : Nat) : Int := if k = 0 then (l.getD 0 default).li else leastL l k
theorem leastF_succ {t : T} (h : t.is = true) (k : Nat) (hk : k < t.ns.length) : leastF t.ns (k + 1) = if (t.ns.getD k default).li < leastF t.ns k then (t.ns.getD k default).li else leastF t.ns k := by
  unfold leastF
  rw [if_neg (by omega), leastL_succ _ _ hk]
  by_cases h0 : k = 0
  · subst h0
    rw [if_pos rfl, leastL_zero]
    have := is_li h 0 hk
    split <;> split <;> omega
  · rw [if_neg h0]
set_option maxRecDepth 100000 in
set_option maxHeartbeats 4000000 in
theorem core_auditLead (t : T) (tv : Value) (w : World) (ht : SeesT w w.heap.size tv t.ns) :
    Calls Try.prog 6 #[tabV t tv] w fun e w' => e = .returned (.bool true) ∧ Below w.heap.size w w' := by
  have hL := fun W (h : Below w.heap.size w W) => Lib.hid (Lead_au t tv W ((ht.below h).more h.size))
  have hI := fun W (h : Below w.heap.size w W) => Lib.hid (is_rf t tv W _ (Nat.le_refl _) ((ht.below h).more h.size))
  have hK := fun W => Lib.hid (known_au W)
  obtain ⟨TA, tc, rfl, htc, htc2, hsee, -⟩ := ht.at_
  have hfew := @is_few t
  have hSu := @leastF_succ t
  have hbd := @leastL_bd t
  have her : t.is = true → leadV t = leastL t.ns t.ns.length + t.ns.length := fun h => by unfold leadV; rw [if_pos h]
  generalize leadV t = Q at *
  obtain ⟨ns, dr, wi, lm⟩ := t
  unfold tabV at *
  simp only at *
  clear ht
  have hb0 := (Below.refl w.heap.size w).alloc (Nat.le_refl _) (.cells #[.slice TA ns.length tc, .int .i64 dr, .int .i64 wi, .int .i64 lm] 24)
  have hT := Blk.new w _ rfl #[.slice TA ns.length tc, .int .i64 dr, .int .i64 wi, .int .i64 lm] 24
  have hI := hI _ hb0
  by_cases h20 : 20 < ns.length
  · have q1 : decide ((20 : Int) < (ns.length : Nat)) = true := decide_eq_true (by omega)
    have q1n : decide (20 < ns.length) = true := decide_eq_true h20
    go_enter Try.func6, Try.ntmps6
    go_wp2
    go_ret
    exact ⟨rfl, hb0⟩
  · have q1 : decide ((20 : Int) < (ns.length : Nat)) = false := decide_eq_false (by omega)
    have q1n : decide (20 < ns.length) = false := decide_eq_false h20
    cases his : T.is ⟨ns, dr, wi, lm⟩
    · rw [his] at hI
      go_enter Try.func6, Try.ntmps6
      go_wp2_with fail
      refine hI.out.mono ?_
      rintro e w1 ⟨rfl, b1⟩
      go_wp2
      go_ret
      exact ⟨rfl, hb0.trans (b1.mono hb0.size)⟩
    · rw [his] at hI
      have hn := hfew his
      have hSu := fun k h => Lib.hid (hSu his k h)
      have her := her his
      have hbd := hbd his
      have hp0 : (0 : Int) < (ns.length : Nat) := by omega
      have hZ : Hid (leastF ns 0 = (ns.getD 0 default).li) := Lib.hid rfl
      have hF := Lib.hid (show leastF ns ns.length = leastL ns ns.length by unfold leastF; rw [if_neg (by omega)])
      clear hfew his
      go_enter Try.func6, Try.ntmps6
      go_wp2_with fail
      refine hI.out.mono ?_
      rintro e w1 ⟨rfl, b1⟩
      have hB1 := hb0.trans (b1.mono hb0.size)
      have hT1 := hT.below b1 hT.lt
      have t0 := hT1.cell 0 rfl
      obtain ⟨b, off, rfl, hbb, hd⟩ := hsee.below hB1 (by omega)
      obtain ⟨e0, e1, e2, e3⟩ := hd 0 (by omega)
      simp only [Nat.zero_mul, Nat.add_zero] at e0 e1 e2 e3
      rw [← hZ.out] at e2
      clear hT b1 hI hb0
      go_wp2_with fail
      clear t0 e0 e1 e2 e3 hd hbb
      go_loopw [3, 4] (fun m i wr => ∃ k : Nat, k ≤ ns.length ∧ i = .int .i64 k ∧ m = .int .i64 (leastF ns k) ∧ wr = w1) (fun _ i _ => ns.length - (intOf i).toNat)
      case atStart => exact ⟨0, by omega, rfl, rfl, rfl⟩
      case round =>
        obtain ⟨k, hk, rfl, rfl, rfl⟩ := hrel
        have t0 := hT1.cell 0 rfl
        by_cases hlt : k < ns.length
        · have r1 : decide ((k : Int) < (ns.length : Nat)) = true := by simp; omega
          obtain ⟨b', off', hbe, hbb, hd⟩ := hsee.below hB1 (by omega)
          obtain ⟨rfl, rfl⟩ : b' = b ∧ off' = off := by simp at hbe; omega
          obtain ⟨e0, e1, e2, e3⟩ := hd k hlt
          have hSu := hSu k hlt
          generalize leastF ns k = M at *
          generalize ns.getD k default = d at *
          clear hd hsee hbd hT1 hL hK
          by_cases hm : d.li < M
          · rw [if_pos hm] at hSu
            have r2 : decide (d.li < M) = true := decide_eq_true hm
            go_wp2
            go_roundw
            case rel => exact ⟨k + 1, by omega, by go_num, by rw [hSu.out], trivial⟩
            case measure => simp [intOf]; omega
          · rw [if_neg hm] at hSu
            have r2 : decide (d.li < M) = false := decide_eq_false hm
            go_wp2
            go_roundw
            case rel => exact ⟨k + 1, by omega, by go_num, by rw [hSu.out], trivial⟩
            case measure => simp [intOf]; omega
        · obtain rfl : k = ns.length := by omega
          have r1 : decide ((ns.length : Int) < (ns.length : Nat)) = false := by simp
          have hb' := hbd ns.length (by omega)
          rw [hF.out]
          have z1 : IntKind.i64.wrap (leastL ns ns.length + (ns.length : Int)) = leastL ns ns.length + (ns.length : Int) := IntWalk.i64_in _ (by omega)
          generalize leastL ns ns.length = M at *
          subst her
          have HS : ∀ W, Blk W w.heap.size #[.slice (some ⟨b, off, none⟩) ns.length tc, .int .i64 dr, .int .i64 wi, .int .i64 lm] 24 → W.cell? ⟨w.heap.size, 0, none⟩ = some (.slice (some ⟨b, off, none⟩) ns.length tc) ∧ W.cell? ⟨w.heap.size, 1, none⟩ = some (.int .i64 dr) ∧ W.cell? ⟨w.heap.size, 2, none⟩ = some (.int .i64 wi) ∧ W.cell? ⟨w.heap.size, 3, none⟩ = some (.int .i64 lm) := fun W h => ⟨h.cell 0 rfl, h.cell 1 rfl, h.cell 2 rfl, h.cell 3 rfl⟩
          have HS := Lib.hid HS
          have hB2 := Lib.hid hB1.drew
          have hT2 := Lib.hid hT1.drew
          have S1 := HS.out _ hT2.out
          clear hbd hSu hF hZ
          go_wp2_with fail
          go_region_held3 (fun W => W.cell? ⟨w.heap.size, 0, none⟩ = some (.slice (some ⟨b, off, none⟩) ns.length tc) ∧ W.cell? ⟨w.heap.size, 1, none⟩ = some (.int .i64 dr) ∧ W.cell? ⟨w.heap.size, 2, none⟩ = some (.int .i64 wi) ∧ W.cell? ⟨w.heap.size, 3, none⟩ = some (.int .i64 lm))
            (first | exact S1 | exact S2 | exact S3)
            (first
              | (go_at_call 18; refine (hL _ hB2.out).out.mono ?_; rintro e w2 ⟨rfl, b2⟩; have hB3 := Lib.hid (hB2.out.trans (b2.mono hB2.out.size)); have hT3 := Lib.hid (hT2.out.below b2 hT2.out.lt); have S2 := HS.out _ hT3.out)
              | (go_at_call 15; refine (hK _).out.mono ?_; rintro e w3 ⟨rfl, b3⟩; have hB4 := Lib.hid (hB3.out.trans (b3.mono hB3.out.size)); have S3 := HS.out _ (hT3.out.below b3 hT3.out.lt))
              | fail)
          all_goals
            go_wp2
            go_ret
            exact ⟨rfl, hB4.out⟩
theorem walk_auditLead (t : T) (tv : Value) (w : World) (ht : InTable w t tv) :
    Calls Try.prog 6 #[tabV t tv] w fun e w' => e = .returned (.bool true) ∧ Below w.heap.size w w' := core_auditLead t tv w ht.sees

/-! ### THE ROW's STEP around the walk. -/
theorem own_auditLead : ownKnob Try.prog.godebug = none := by kernel_rfl
theorem laidOut_auditLead : laidOutB Try.prog = true := by kernel_rfl
set_option maxRecDepth 100000 in
theorem lifted_auditLead (os : Os) (started : os.Started) (H : Type) (enc : TypeId × Value → H) :
    ReturnsInHanded {} Try.checked os 6 .any (Rows.auditLeadSpec.pre6 enc Try.prog Try.f6 Rows.auditLeadRow.domain false) (Rows.auditLeadSpec.post enc Try.prog Try.f6 false true false false) := by
  refine returnsInHanded_of_change (C := Try.checked) own_auditLead started (by kernel_rfl) Try.func6
    (ChangeSpec.witness6 (enc := enc) (C := Try.checked) false ⟨#[], #[.agg #[.slice none 0 0, .int .i64 0, .int .i64 0, .int .i64 0]], []⟩ 8 (by kernel_rfl) (by kernel_rfl) (by kernel_rfl) (by kernel_rfl)) ?_
  intro W base args ds gs before hval0 hW hcnd _
  have hval : ∀ (j : Nat) t v, Try.f6.params[j]? = some t → args[j]? = some v → Value.okWide Try.prog W .any base t v := hval0
  have hW' := hW
  obtain ⟨p, q, hA0, hV, rfl, hfz, hnd⟩ := hW
  have hA : DataW.TrodAll enc Try.prog W 0 (fun _ => true) true Try.f6.params.toList args.toList ds p := hA0
  rw [Try.params6] at hA hval
  obtain ⟨v0, vs0, d0, ds0, p0, q0, hargs, rfl, rfl, h0, r0⟩ := trodAll_cons hA
  obtain ⟨rfl, rfl, rfl⟩ := trodAll_nil r0
  obtain rfl : args = #[v0] := by cases args; simp_all
  obtain ⟨rfl, rfl⟩ := trodVars_none hV
  obtain ⟨y0, x0, rfl, s0⟩ := sees_table Try.underlying24 (by kernel_rfl) ⟨rfl, rfl⟩ ⟨rfl, rfl⟩ ⟨rfl, rfl⟩ ⟨rfl, rfl⟩ Try.underlying22 (by kernel_rfl) Try.underlying41 (by kernel_rfl) ⟨rfl, rfl⟩ ⟨rfl, rfl⟩ ⟨rfl, rfl⟩ ⟨rfl, rfl⟩ Try.underlying3 Try.underlying4 (by kernel_rfl) (by kernel_rfl) (hval 0 24 v0 rfl rfl) h0
  have k0 := h0
  have lt0 : ∀ x ∈ p0, x.block < W.heap.size := by obtain ⟨m, hm⟩ := k0; exact DataW.trod_lt m _ _ _ hm
  clear hA0 hval0
  refine (walk_auditLead y0 x0 W s0).mono fun e W' ⟨he, bel⟩ => ?_
  subst he
  exact ⟨_, rfl, _, _, _, [], _, [], hW', trodAll_mk1 (shut_bool Try.underlying4 _), (trodAll_cons_mk (Below.trod laidOut_auditLead (by kernel_rfl) (of_decide_eq_true (by kernel_rfl)) k0 bel lt0) trodAll_mk0), rfl, bel.frame _, fun h => by cases h⟩

theorem over_auditLead : Rows.auditLeadRow.holds Try.pinned (OpenSpec.ofChange Rows.auditLeadSpec) :=
  OpenClaim.holds_of_wide 6 Try.f6 rfl rfl rfl rfl rfl rfl rfl ⟨rfl, rfl, rfl, rfl, rfl⟩ rfl rfl rfl rfl rfl (by kernel_rfl) Try.func6 (by kernel_rfl)
    (of_decide_eq_true (by kernel_rfl)) (by unfold Func.isWrapper; first | (rw [if_pos (by decide +kernel)]; kernel_rfl) | (rw [if_neg (by decide +kernel)]; exact ⟨rfl, rfl⟩))
    (fun os started H enc _ => lifted_auditLead os started H enc)

theorem proved_auditLead : Rows.AuditLeadSaid := over_auditLead
end Go.Proofs.Ytkaeikjfegjpjaa
