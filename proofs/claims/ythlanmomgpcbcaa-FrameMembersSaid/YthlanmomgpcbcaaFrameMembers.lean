/- FrameMembers holds: by states that differ in their members, or their slot alone a Normal frame is not read. For all states and numbers. -/
import Derived.Test.YthlanmomgpcbcaaFrP
namespace Go.Proofs.Ythlanmomgpcbcaa
open Go.ChangeShapes Go.WideShapes Go.ChangeAt Go.RowKit
open Go.ChangeMaps (open_string shut_string)
open Fr (St F)

set_option maxRecDepth 100000 in
set_option maxHeartbeats 4000000 in
theorem walk_frameMembers (s : St) (m l : Int) (w : World) (_hs : InState s) (_hm : -9223372036854775808 ≤ m ∧ m ≤ 9223372036854775807) (_hl : -9223372036854775808 ≤ l ∧ l ≤ 9223372036854775807) :
    Calls Try.prog 14 #[stV s, .int .i64 m, .int .i64 l] w fun e w' => e = .returned (.bool true) ∧ Below w.heap.size w w' := by
  have R4 := fun W => may_ref s W
  have hbox := Lib.hid (box3 w (.int .i64 s.r) (.int .i64 s.s) (.int .i64 s.m) 23)
  have early : s.may = false ∨ (s.may = true ∧ decide (m < 0) = true) ∨ (s.may = true ∧ decide (m < 0) = false ∧ decide ((255 : Int) < m) = true) ∨ (s.may = true ∧ decide (m < 0) = false ∧ decide ((255 : Int) < m) = false ∧ decide (l < 0) = true) ∨ (s.may = true ∧ decide (m < 0) = false ∧ decide ((255 : Int) < m) = false ∧ decide (l < 0) = false ∧ decide ((7 : Int) < l) = true) ∨ (s.may = true ∧ decide (m < 0) = false ∧ decide ((255 : Int) < m) = false ∧ decide (l < 0) = false ∧ decide ((7 : Int) < l) = false) := by
    cases s.may <;> simp <;> omega
  rcases early with hm | ⟨hm, q1⟩ | ⟨hm, q1, q2⟩ | ⟨hm, q1, q2, q3⟩ | ⟨hm, q1, q2, q3, q4⟩ | ⟨hm, q1, q2, q3, q4⟩
  · rw [hm] at R4
    unfold stV at R4 ⊢
    have Q4 := fun W => Lib.hid (R4 W)
    clear hm R4
    go_enter Try.func14, Try.ntmps14
    go_wp2_with fail
    refine (Q4 _).out.mono ?_
    rintro e w1 ⟨rfl, hb⟩
    have hb := hbox.out.below.trans (hb.mono hbox.out.below.size)
    go_wp2
    go_ret
    exact ⟨rfl, hb⟩
  · rw [hm] at R4
    unfold stV at R4 ⊢
    have Q4 := fun W => Lib.hid (R4 W)
    clear hm R4
    go_enter Try.func14, Try.ntmps14
    go_wp2_with fail
    refine (Q4 _).out.mono ?_
    rintro e w1 ⟨rfl, hb⟩
    have hb := hbox.out.below.trans (hb.mono hbox.out.below.size)
    go_wp2
    go_ret
    exact ⟨rfl, hb⟩
  · rw [hm] at R4
    unfold stV at R4 ⊢
    have Q4 := fun W => Lib.hid (R4 W)
    clear hm R4
    go_enter Try.func14, Try.ntmps14
    go_wp2_with fail
    refine (Q4 _).out.mono ?_
    rintro e w1 ⟨rfl, hb⟩
    have hb := hbox.out.below.trans (hb.mono hbox.out.below.size)
    go_wp2
    go_ret
    exact ⟨rfl, hb⟩
  · rw [hm] at R4
    unfold stV at R4 ⊢
    have Q4 := fun W => Lib.hid (R4 W)
    clear hm R4
    go_enter Try.func14, Try.ntmps14
    go_wp2_with fail
    refine (Q4 _).out.mono ?_
    rintro e w1 ⟨rfl, hb⟩
    have hb := hbox.out.below.trans (hb.mono hbox.out.below.size)
    go_wp2
    go_ret
    exact ⟨rfl, hb⟩
  · rw [hm] at R4
    unfold stV at R4 ⊢
    have Q4 := fun W => Lib.hid (R4 W)
    clear hm R4
    go_enter Try.func14, Try.ntmps14
    go_wp2_with fail
    refine (Q4 _).out.mono ?_
    rintro e w1 ⟨rfl, hb⟩
    have hb := hbox.out.below.trans (hb.mono hbox.out.below.size)
    go_wp2
    go_ret
    exact ⟨rfl, hb⟩
  rw [hm] at R4
  have hmb : 0 ≤ m ∧ m ≤ 255 := by simp at q1 q2; omega
  have hlb : 0 ≤ l ∧ l < 8 := by simp at q3 q4; omega
  have hi : F.is ⟨1, s, []⟩ = true := (F.is_iff _).2 ⟨⟨by show (1 : Int) ≤ 1; omega, by show (1 : Int) ≤ 3; omega⟩, hm, by simp⟩
  have hd : bytesL (F.mk 1 s []).d := fun x hx => by cases hx
  have R1 := fun W => encode_dev ⟨1, s, []⟩ (.slice none 0 0) W SeesL.nil hd
  unfold Enc at R1
  rw [(encR_is hi).1, (encR_is hi).2] at R1
  have hs2 := s.may_iff.1 hm
  have ma : (St.mk s.r s.s m).may = true := (St.may_iff _).2 ⟨hs2.1, hs2.2.1, hmb⟩
  have mc : (St.mk s.r l s.m).may = true := (St.may_iff _).2 ⟨hs2.1, hlb, hs2.2.2⟩
  have key : ∀ o : St, o.may = true → (o.seed = s.seed → Fr.err (F.bytes ⟨1, s, []⟩) o = 0 ∧ Fr.res (F.bytes ⟨1, s, []⟩) o = ⟨1, o, []⟩) ∧ (o.seed ≠ s.seed → Fr.err (F.bytes ⟨1, s, []⟩) o = 3 ∧ Fr.res (F.bytes ⟨1, s, []⟩) o = Fr.zero) := fun o ho => by
    obtain ⟨a, b, c⟩ := Fr.back hi o ho
    rw [if_pos rfl] at b
    constructor
    · intro h
      have c := c.2 fun _ => h
      exact ⟨by rw [Fr.err, a, c]; rfl, by rw [Fr.res, a, c]; exact b⟩
    · intro h
      have c : Fr.sumB (F.bytes ⟨1, s, []⟩) o = false := by rw [Bool.eq_false_iff]; exact fun e => h (c.1 e rfl)
      exact ⟨by rw [Fr.err, a, c]; rfl, by rw [Fr.res, a, c]; rfl⟩
  have ka := key _ ma
  have kc := key _ mc
  have sa := Fr.seed_members hm hmb
  have sc := Fr.seed_slot hm hlb
  have R2 := fun V W (hs : SeesL W W.heap.size V (F.bytes ⟨1, s, []⟩)) => decode_dev V _ ⟨s.r, s.s, m⟩ W hs (F.bytes_ok hi hd)
  have R3 := fun V W (hs : SeesL W W.heap.size V (F.bytes ⟨1, s, []⟩)) => decode_dev V _ ⟨s.r, l, s.m⟩ W hs (F.bytes_ok hi hd)
  unfold Dec at R2 R3
  -- what is read of them, in one form
  have ra : ∃ (E : Int) (x0 x1 x2 x3 : Int), ((E == 0) = (m == s.m)) ∧ Fr.err (F.bytes ⟨1, s, []⟩) ⟨s.r, s.s, m⟩ = E ∧ Fr.res (F.bytes ⟨1, s, []⟩) ⟨s.r, s.s, m⟩ = ⟨x0, ⟨x1, x2, x3⟩, []⟩ := by
    by_cases e : m = s.m
    · obtain ⟨a, b⟩ := ka.1 (sa.2 e)
      exact ⟨_, _, _, _, _, by simp [e], a, b⟩
    · obtain ⟨a, b⟩ := ka.2 fun h => e (sa.1 h)
      exact ⟨_, _, _, _, _, by simp [e], a, b⟩
  have rc : ∃ (E : Int) (x0 x1 x2 x3 : Int), ((E == 0) = (l == s.s)) ∧ Fr.err (F.bytes ⟨1, s, []⟩) ⟨s.r, l, s.m⟩ = E ∧ Fr.res (F.bytes ⟨1, s, []⟩) ⟨s.r, l, s.m⟩ = ⟨x0, ⟨x1, x2, x3⟩, []⟩ := by
    by_cases e : l = s.s
    · obtain ⟨a, b⟩ := kc.1 (sc.2 e)
      exact ⟨_, _, _, _, _, by simp [e], a, b⟩
    · obtain ⟨a, b⟩ := kc.2 fun h => e (sc.1 h)
      exact ⟨_, _, _, _, _, by simp [e], a, b⟩
  obtain ⟨E, a0, a1, a2, a3, qE, e1, e2⟩ := ra
  obtain ⟨G, g0, g1, g2, g3, qG, e3, e4⟩ := rc
  rw [e1, e2] at R2
  rw [e3, e4] at R3
  clear hmb hlb hi hd hs2 ma mc key ka kc sa sc e1 e2 e3 e4 hm
  unfold frV at R1 R2 R3
  unfold stV at R2 R3 R4 ⊢
  have Q1 := fun W => Lib.hid (R1 W)
  have Q2 := fun V W hs => Lib.hid (R2 V W hs)
  have Q3 := fun V W hs => Lib.hid (R3 V W hs)
  have Q4 := fun W => Lib.hid (R4 W)
  clear R1 R2 R3 R4
  generalize F.bytes ⟨1, s, []⟩ = L at *
  go_enter Try.func14, Try.ntmps14
  go_wp2_with fail
  generalize w.alloc (.cells #[.int .i64 s.r, .int .i64 s.s, .int .i64 s.m] 23) = w0 at *
  have hz0 : w0.heap.size ≤ w.heap.size + 1 ∧ w.heap.size + 1 ≤ w0.heap.size := by have := hbox.out.size; omega
  refine (Q4 _).out.mono ?_
  rintro e wa ⟨rfl, hba⟩
  obtain ⟨z1, x0, x1, x2⟩ := hbox.out.cell wa hba
  go_wp2_with fail
  refine (Q1 _).out.mono ?_
  rintro e wb ⟨v1, rfl, ho1, hb⟩
  have hbb := hba.trans (hb.mono hba.size)
  obtain ⟨A1, d1, rfl, -⟩ := ho1.sees.at_
  have hs1 := ho1.sees
  clear x0 x1 x2 z1 hb hba Q4 Q1 ho1
  obtain ⟨z1, x0, x1, x2⟩ := hbox.out.cell wb hbb
  go_wp2_with fail
  have zb : w.heap.size < wb.heap.size := z1

  go_region
  all_goals clear x0 x1 x2 z1
  · have hX := Lib.hid (box33 wb (.int .i64 s.r) (.int .i64 s.s) (.int .i64 m) (.int .i64 s.r) (.int .i64 l) (.int .i64 s.m) 23 23)
    have hs2 := (hs1.below hX.out.below.drew).more (show _ ≤ ((wb.alloc (.cells #[.int .i64 s.r, .int .i64 s.s, .int .i64 m] 23)).alloc (.cells #[.int .i64 s.r, .int .i64 l, .int .i64 s.m] 23)).drew.heap.size from hX.out.below.size)
    have hbX := (hbb.trans (hX.out.below.mono hbb.size)).drew
    have zX : wb.heap.size + 2 ≤ ((wb.alloc (.cells #[.int .i64 s.r, .int .i64 s.s, .int .i64 m] 23)).alloc (.cells #[.int .i64 s.r, .int .i64 l, .int .i64 s.m] 23)).heap.size := by have := hX.out.size; omega
    have hX0 := (Below.refl ((wb.alloc (.cells #[.int .i64 s.r, .int .i64 s.s, .int .i64 m] 23)).alloc (.cells #[.int .i64 s.r, .int .i64 l, .int .i64 s.m] 23)).heap.size ((wb.alloc (.cells #[.int .i64 s.r, .int .i64 s.s, .int .i64 m] 23)).alloc (.cells #[.int .i64 s.r, .int .i64 l, .int .i64 s.m] 23))).drew
    clear hs1 hbb
    go_wp2_with fail
    generalize (wb.alloc (.cells #[.int .i64 s.r, .int .i64 s.s, .int .i64 m] 23)).alloc (.cells #[.int .i64 s.r, .int .i64 l, .int .i64 s.m] 23) = X at *
    refine (Q2 _ _ hs2).out.mono ?_
    rintro e wc ⟨v2, rfl, ho2, hb⟩
    obtain ⟨A2, d2, rfl⟩ : ∃ A d, v2 = .slice A 0 d := by
      obtain ⟨A, d, h, -⟩ := ho2.sees.at_
      exact ⟨A, d, h⟩
    have hbc := hbX.trans (hb.mono hbX.size)
    have hbXc := hX0.trans (hb.mono hX0.size)
    have hs3 := (hs2.below hb).more hb.size
    have hs4 := (hs3.below ((Below.refl _ _).alloc (Nat.le_refl _) (.cells #[.int .i64 a0, .int .i64 a1, .int .i64 a2, .int .i64 a3, .slice A2 0 d2] 26))).more (show _ ≤ (wc.alloc (.cells #[.int .i64 a0, .int .i64 a1, .int .i64 a2, .int .i64 a3, .slice A2 0 d2] 26)).heap.size by simp)
    have hbY := hbc.alloc hbc.size (.cells #[.int .i64 a0, .int .i64 a1, .int .i64 a2, .int .i64 a3, .slice A2 0 d2] 26)
    have hbXY := hbXc.alloc hbXc.size (.cells #[.int .i64 a0, .int .i64 a1, .int .i64 a2, .int .i64 a3, .slice A2 0 d2] 26)
    obtain ⟨z2, ⟨x0, x1, x2⟩, y0, y1, y2⟩ := hX.out.cell wc hbXc
    have z3 : wb.heap.size < wc.heap.size := by omega
    clear hs2 hs3 ho2 Q2 hb hX0
    go_wp2_with fail
    generalize wc.alloc (.cells #[.int .i64 a0, .int .i64 a1, .int .i64 a2, .int .i64 a3, .slice A2 0 d2] 26) = Y at *
    refine (Q3 _ _ hs4).out.mono ?_
    rintro e wd ⟨v4, rfl, ho4, hb⟩
    obtain ⟨A4, d4, rfl⟩ : ∃ A d, v4 = .slice A 0 d := by
      obtain ⟨A, d, h, -⟩ := ho4.sees.at_
      exact ⟨A, d, h⟩
    have hbd := hbY.trans (hb.mono hbY.size)
    clear x0 x1 x2 y0 y1 y2 hs4 Q3 ho4 hbXY hbXc hbc z2
    obtain ⟨z2, x0, x1, x2⟩ := hbox.out.cell wd hbd
    go_wp2_with (go_at_call 22; refine (knownFr_any _).mono ?_; rintro e wf ⟨rfl, hb6⟩)
    go_ret
    have hb7 := hbox.out.below.trans (hbd.mono (by omega))
    have hb8 := hb7.alloc hb7.size (.cells #[.int .i64 g0, .int .i64 g1, .int .i64 g2, .int .i64 g3, .slice A4 0 d4] 26)
    exact ⟨by simp, hb8.trans (hb6.mono hb8.size)⟩
  · have hX := Lib.hid (box33 wb (.int .i64 s.r) (.int .i64 l) (.int .i64 s.m) (.int .i64 s.r) (.int .i64 s.s) (.int .i64 m) 23 23)
    have hs2 := (hs1.below hX.out.below.drew).more (show _ ≤ ((wb.alloc (.cells #[.int .i64 s.r, .int .i64 l, .int .i64 s.m] 23)).alloc (.cells #[.int .i64 s.r, .int .i64 s.s, .int .i64 m] 23)).drew.heap.size from hX.out.below.size)
    have hbX := (hbb.trans (hX.out.below.mono hbb.size)).drew
    have zX : wb.heap.size + 2 ≤ ((wb.alloc (.cells #[.int .i64 s.r, .int .i64 l, .int .i64 s.m] 23)).alloc (.cells #[.int .i64 s.r, .int .i64 s.s, .int .i64 m] 23)).heap.size := by have := hX.out.size; omega
    have hX0 := (Below.refl ((wb.alloc (.cells #[.int .i64 s.r, .int .i64 l, .int .i64 s.m] 23)).alloc (.cells #[.int .i64 s.r, .int .i64 s.s, .int .i64 m] 23)).heap.size ((wb.alloc (.cells #[.int .i64 s.r, .int .i64 l, .int .i64 s.m] 23)).alloc (.cells #[.int .i64 s.r, .int .i64 s.s, .int .i64 m] 23))).drew
    clear hs1 hbb
    go_wp2_with fail
    generalize (wb.alloc (.cells #[.int .i64 s.r, .int .i64 l, .int .i64 s.m] 23)).alloc (.cells #[.int .i64 s.r, .int .i64 s.s, .int .i64 m] 23) = X at *
    refine (Q2 _ _ hs2).out.mono ?_
    rintro e wc ⟨v2, rfl, ho2, hb⟩
    obtain ⟨A2, d2, rfl⟩ : ∃ A d, v2 = .slice A 0 d := by
      obtain ⟨A, d, h, -⟩ := ho2.sees.at_
      exact ⟨A, d, h⟩
    have hbc := hbX.trans (hb.mono hbX.size)
    have hbXc := hX0.trans (hb.mono hX0.size)
    have hs3 := (hs2.below hb).more hb.size
    have hs4 := (hs3.below ((Below.refl _ _).alloc (Nat.le_refl _) (.cells #[.int .i64 a0, .int .i64 a1, .int .i64 a2, .int .i64 a3, .slice A2 0 d2] 26))).more (show _ ≤ (wc.alloc (.cells #[.int .i64 a0, .int .i64 a1, .int .i64 a2, .int .i64 a3, .slice A2 0 d2] 26)).heap.size by simp)
    have hbY := hbc.alloc hbc.size (.cells #[.int .i64 a0, .int .i64 a1, .int .i64 a2, .int .i64 a3, .slice A2 0 d2] 26)
    have hbXY := hbXc.alloc hbXc.size (.cells #[.int .i64 a0, .int .i64 a1, .int .i64 a2, .int .i64 a3, .slice A2 0 d2] 26)
    obtain ⟨z2, ⟨x0, x1, x2⟩, y0, y1, y2⟩ := hX.out.cell wc hbXc
    have z3 : wb.heap.size < wc.heap.size := by omega
    clear hs2 hs3 ho2 Q2 hb hX0
    go_wp2_with fail
    generalize wc.alloc (.cells #[.int .i64 a0, .int .i64 a1, .int .i64 a2, .int .i64 a3, .slice A2 0 d2] 26) = Y at *
    refine (Q3 _ _ hs4).out.mono ?_
    rintro e wd ⟨v4, rfl, ho4, hb⟩
    obtain ⟨A4, d4, rfl⟩ : ∃ A d, v4 = .slice A 0 d := by
      obtain ⟨A, d, h, -⟩ := ho4.sees.at_
      exact ⟨A, d, h⟩
    have hbd := hbY.trans (hb.mono hbY.size)
    clear x0 x1 x2 y0 y1 y2 hs4 Q3 ho4 hbXY hbXc hbc z2
    obtain ⟨z2, x0, x1, x2⟩ := hbox.out.cell wd hbd
    go_wp2_with (go_at_call 22; refine (knownFr_any _).mono ?_; rintro e wf ⟨rfl, hb6⟩)
    go_ret
    have hb7 := hbox.out.below.trans (hbd.mono (by omega))
    have hb8 := hb7.alloc hb7.size (.cells #[.int .i64 g0, .int .i64 g1, .int .i64 g2, .int .i64 g3, .slice A4 0 d4] 26)
    exact ⟨by simp, hb8.trans (hb6.mono hb8.size)⟩

/-! ### THE ROW's STEP around the walk. -/
theorem own_frameMembers : ownKnob Try.prog.godebug = none := by kernel_rfl
theorem laidOut_frameMembers : laidOutB Try.prog = true := by kernel_rfl
set_option maxRecDepth 100000 in
theorem lifted_frameMembers (os : Os) (started : os.Started) (H : Type) (enc : TypeId × Value → H) :
    ReturnsInHanded {} Try.checked os 14 .any (Rows.frameMembersSpec.pre6 enc Try.prog Try.f14 Rows.frameMembersRow.domain false) (Rows.frameMembersSpec.post enc Try.prog Try.f14 false true false false) := by
  refine returnsInHanded_of_change (C := Try.checked) own_frameMembers started (by kernel_rfl) Try.func14
    (ChangeSpec.witness6 (enc := enc) (C := Try.checked) false ⟨#[], #[.agg #[.int .i64 0, .int .i64 0, .int .i64 0], .int .i64 0, .int .i64 0], []⟩ 8 (by kernel_rfl) (by kernel_rfl) (by kernel_rfl) (by kernel_rfl)) ?_
  intro W base args ds gs before hval0 hW hcnd _
  have hval : ∀ (j : Nat) t v, Try.f14.params[j]? = some t → args[j]? = some v → Value.okWide Try.prog W .any base t v := hval0
  have hW' := hW
  obtain ⟨p, q, hA0, hV, rfl, hfz, hnd⟩ := hW
  have hA : DataW.TrodAll enc Try.prog W 0 (fun _ => true) true Try.f14.params.toList args.toList ds p := hA0
  rw [Try.params14] at hA hval
  obtain ⟨v0, vs0, d0, ds0, p0, q0, hargs, rfl, rfl, h0, r0⟩ := trodAll_cons hA
  obtain ⟨v1, vs1, d1, ds1, p1, q1, rfl, rfl, rfl, h1, r1⟩ := trodAll_cons r0
  obtain ⟨v2, vs2, d2, ds2, p2, q2, rfl, rfl, rfl, h2, r2⟩ := trodAll_cons r1
  obtain ⟨rfl, rfl, rfl⟩ := trodAll_nil r2
  obtain rfl : args = #[v0, v1, v2] := by cases args; simp_all
  obtain ⟨rfl, rfl⟩ := trodVars_none hV
  obtain ⟨y0, rfl, s0⟩ := sees_state Try.underlying23 (by kernel_rfl) ⟨rfl, rfl⟩ ⟨rfl, rfl⟩ ⟨rfl, rfl⟩ Try.underlying3 (by kernel_rfl) (hval 0 23 v0 rfl rfl) h0
  have k0 := h0
  have lt0 : ∀ x ∈ p0, x.block < W.heap.size := by obtain ⟨m, hm⟩ := k0; exact DataW.trod_lt m _ _ _ hm
  obtain ⟨a1, rfl, rfl, rfl, w1⟩ := open_int Try.underlying3 (hval 1 3 v1 rfl rfl) h1
  obtain ⟨a2, rfl, rfl, rfl, w2⟩ := open_int Try.underlying3 (hval 2 3 v2 rfl rfl) h2
  clear hA0 hval0
  refine (walk_frameMembers y0 a1 a2 W s0 (bounds_i64 w1) (bounds_i64 w2)).mono fun e W' ⟨he, bel⟩ => ?_
  subst he
  exact ⟨_, rfl, _, _, _, [], _, [], hW', trodAll_mk1 (shut_bool Try.underlying4 _), (trodAll_cons_mk (Below.trod laidOut_frameMembers (by kernel_rfl) (of_decide_eq_true (by kernel_rfl)) k0 bel lt0) (trodAll_cons_mk (shut_int Try.underlying3 w1) (trodAll_cons_mk (shut_int Try.underlying3 w2) trodAll_mk0))), rfl, bel.frame _, fun h => by cases h⟩

theorem over_frameMembers : Rows.frameMembersRow.holds Try.pinned (OpenSpec.ofChange Rows.frameMembersSpec) :=
  OpenClaim.holds_of_wide 14 Try.f14 rfl rfl rfl rfl rfl rfl rfl ⟨rfl, rfl, rfl, rfl, rfl⟩ rfl rfl rfl rfl rfl (by kernel_rfl) Try.func14 (by kernel_rfl)
    (of_decide_eq_true (by kernel_rfl)) (by unfold Func.isWrapper; first | (rw [if_pos (by decide +kernel)]; kernel_rfl) | (rw [if_neg (by decide +kernel)]; exact ⟨rfl, rfl⟩))
    (fun os started H enc _ => lifted_frameMembers os started H enc)

theorem proved_frameMembers : Rows.FrameMembersSaid := over_frameMembers
end Go.Proofs.Ythlanmomgpcbcaa
