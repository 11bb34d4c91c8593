/- FrameStates holds: a told state that may not be is not read. For all numbers. -/
import Derived.Test.YthlanmomgpcbcaaFrP
namespace Go.Proofs.Ythlanmomgpcbcaa
open Go.ChangeShapes Go.WideShapes Go.ChangeAt Go.RowKit
open Go.ChangeMaps (open_string shut_string)
open Fr (St F)

theorem mask3 (a : Int) : bits BinOp.and IntKind.i64 a 7 = (((a % 8).toNat : Nat) : Int) := by
  show IntKind.i64.wrap ((BitVec.ofInt 64 a &&& BitVec.ofInt 64 7).toNat : Int) = _
  rw [BitVec.toNat_and, show (BitVec.ofInt 64 7).toNat = 2 ^ 3 - 1 by decide, Nat.and_two_pow_sub_one_eq_mod, BitVec.toNat_ofInt, IntKind.wrap_i64]
  omega
theorem mask8 (a : Int) : bits BinOp.and IntKind.i64 a 255 = (((a % 256).toNat : Nat) : Int) := by
  show IntKind.i64.wrap ((BitVec.ofInt 64 a &&& BitVec.ofInt 64 255).toNat : Int) = _
  rw [BitVec.toNat_and, show (BitVec.ofInt 64 255).toNat = 2 ^ 8 - 1 by decide, Nat.and_two_pow_sub_one_eq_mod, BitVec.toNat_ofInt, IntKind.wrap_i64]
  omega

set_option maxRecDepth 100000 in
set_option maxHeartbeats 4000000 in
theorem walk_frameStates (r s m k : Int) (w : World) (_hr : -9223372036854775808 ≤ r ∧ r ≤ 9223372036854775807) (_hs : -9223372036854775808 ≤ s ∧ s ≤ 9223372036854775807) (_hm : -9223372036854775808 ≤ m ∧ m ≤ 9223372036854775807) (_hk : -9223372036854775808 ≤ k ∧ k ≤ 9223372036854775807) :
    Calls Try.prog 12 #[.int .i64 r, .int .i64 s, .int .i64 m, .int .i64 k] w fun e w' => e = .returned (.bool true) ∧ Below w.heap.size w w' := by
  by_cases hk : k = 2 ∨ k = 3
  rotate_left
  · have q2 : (k != 2) = true := by simp; omega
    have q3 : (k != 3) = true := by simp; omega
    go_enter Try.func12, Try.ntmps12
    go_wp2
    go_ret
    exact ⟨rfl, Below.refl _ _⟩
  have hmr := mask16 r
  have hms := mask3 s
  have hmm := mask8 m
  obtain ⟨R, hR⟩ : ∃ R : Int, R = (((r % 65536).toNat : Nat) : Int) := ⟨_, rfl⟩
  obtain ⟨S, hS⟩ : ∃ S : Int, S = (((s % 8).toNat : Nat) : Int) := ⟨_, rfl⟩
  obtain ⟨M, hM⟩ : ∃ M : Int, M = (((m % 256).toNat : Nat) : Int) := ⟨_, rfl⟩
  rw [← hR] at hmr
  rw [← hS] at hms
  rw [← hM] at hmm
  have hmay : (St.mk R S M).may = true := (St.may_iff _).2 ⟨⟨by simp; omega, by simp; omega⟩, ⟨by simp; omega, by simp; omega⟩, by simp; omega, by simp; omega⟩
  obtain ⟨f, hf⟩ : ∃ f : F, f = ⟨k, ⟨R, S, M⟩, []⟩ := ⟨_, rfl⟩
  have fk : f.k = k := by rw [hf]
  have fs : f.st = ⟨R, S, M⟩ := by rw [hf]
  have fd : f.d = [] := by rw [hf]
  have hi : f.is = true := f.is_iff.2 ⟨by rw [fk]; omega, by rw [fs]; exact hmay, by rw [fd]; simp⟩
  have hd : bytesL f.d := by rw [fd]; exact fun x hx => by cases hx
  have hk1 : f.k ≠ 1 := by rw [fk]; omega
  have R1 := fun W => encode_dev f (.slice none 0 0) W (by rw [fd]; exact SeesL.nil) hd
  unfold Enc at R1
  rw [(encR_is hi).1, (encR_is hi).2] at R1
  have hLl : f.bytes.length = 8 := by rw [f.bytes_length, fd, F.hl, if_neg hk1]; rfl
  have hLb : bytesL f.bytes := F.bytes_ok hi hd
  have h0 : (St.mk 0 0 0).may = true := by decide
  obtain ⟨a, b, c⟩ := Fr.back hi ⟨0, 0, 0⟩ h0
  have c := c.2 fun e => absurd e hk1
  rw [if_neg hk1] at b
  have E1 : Fr.err f.bytes ⟨0, 0, 0⟩ = 0 := by rw [Fr.err, a, c]; rfl
  have Z1 : Fr.res f.bytes ⟨0, 0, 0⟩ = f := by rw [Fr.res, a, c]; exact b
  have a8 : Fr.formB f.bytes ⟨0, 8, 0⟩ = false := by simp [Fr.formB, St.may]
  have E2 : Fr.err f.bytes ⟨0, 8, 0⟩ = 2 := by rw [Fr.err, a8]; rfl
  have Z2 : Fr.res f.bytes ⟨0, 8, 0⟩ = Fr.zero := by rw [Fr.res, a8]; rfl
  have R2 := fun V W (hs : SeesL W W.heap.size V f.bytes) => decode_dev V f.bytes ⟨0, 0, 0⟩ W hs hLb
  have R3 := fun V W (hs : SeesL W W.heap.size V f.bytes) => decode_dev V f.bytes ⟨0, 8, 0⟩ W hs hLb
  unfold Dec at R2 R3
  rw [E1, Z1] at R2
  rw [E2, Z2] at R3
  clear hR hS hM hmay hi hd hk1 hLb h0 a b c E1 Z1 a8 E2 Z2
  generalize f.bytes = L at *
  subst hf
  unfold frV at R1 R2 R3
  unfold Fr.zero at R3
  unfold stV at R2 R3
  have Q1 := fun W => Lib.hid (R1 W)
  have Q2 := fun V W hs => Lib.hid (R2 V W hs)
  have Q3 := fun V W hs => Lib.hid (R3 V W hs)
  clear R1 R2 R3
  clear fk fs fd
  rcases hk with hk | hk
  case' inl => have q2 : (k != 2) = false := by simpa using hk
  case' inr =>
    have q2 : (k != 2) = true := by simp [hk]
    have q3 : (k != 3) = false := by simpa using hk
  all_goals
    clear hk
    go_enter Try.func12, Try.ntmps12
    go_wp2_with fail
    have hbox := Lib.hid (box5 w (.int .i64 k) (.int .i64 R) (.int .i64 S) (.int .i64 M) (.slice none 0 0) 26)
    generalize w.alloc (.cells #[.int .i64 k, .int .i64 R, .int .i64 S, .int .i64 M, .slice none 0 0] 26) = w0 at *
    have hz0 : w0.heap.size ≤ w.heap.size + 1 ∧ w.heap.size + 1 ≤ w0.heap.size := by have := hbox.out.size; omega
    refine (Q1 _).out.mono ?_
    rintro e w1 ⟨v1, rfl, ho1, hb1⟩
    obtain ⟨A1, d1, rfl⟩ : ∃ A d, v1 = .slice A 8 d := by
      obtain ⟨A, d, h, -⟩ := ho1.sees.at_
      exact ⟨A, d, h.trans (by rw [hLl])⟩
    have hs1 := ho1.sees
    clear ho1 Q1
    have z1 : w0.heap.size ≤ w1.heap.size := hb1.size
    go_wp2_with fail
    refine (Q2 _ _ hs1).out.mono ?_
    rintro e wc ⟨v2, rfl, ho2, hb⟩
    have hbc := hb1.trans (hb.mono hb1.size)
    obtain ⟨A2, d2, rfl⟩ : ∃ A d, v2 = .slice A 0 d := by
      obtain ⟨A, d, h, -⟩ := ho2.sees.at_
      exact ⟨A, d, h⟩
    have hbg := Lib.hid (box5 wc (.int .i64 k) (.int .i64 R) (.int .i64 S) (.int .i64 M) (.slice A2 0 d2) 26)
    have zc : w1.heap.size ≤ wc.heap.size := hb.size
    have z2 : w.heap.size < wc.heap.size := by omega
    obtain ⟨-, x0, x1, x2, x3, x4⟩ := hbox.out.cell wc hbc
    have hs2 := (hs1.below hb).more hb.size
    have hs3 := (hs2.below ((Below.refl _ _).alloc (Nat.le_refl _) (.cells #[.int .i64 k, .int .i64 R, .int .i64 S, .int .i64 M, .slice A2 0 d2] 26))).more (show _ ≤ (wc.alloc (.cells #[.int .i64 k, .int .i64 R, .int .i64 S, .int .i64 M, .slice A2 0 d2] 26)).heap.size by simp)
    have hb3 := hbc.alloc hbc.size (.cells #[.int .i64 k, .int .i64 R, .int .i64 S, .int .i64 M, .slice A2 0 d2] 26)
    clear hs1 hs2 ho2 Q2 hb hb1 hbc
    go_wp2_with fail
    generalize wc.alloc (.cells #[.int .i64 k, .int .i64 R, .int .i64 S, .int .i64 M, .slice A2 0 d2] 26) = w3 at *
    have hz3 : w3.heap.size ≤ wc.heap.size + 1 ∧ wc.heap.size + 1 ≤ w3.heap.size := by have := hbg.out.size; omega
    refine (Q3 _ _ hs3).out.mono ?_
    rintro e wd ⟨v4, rfl, ho4, hb4⟩
    obtain ⟨A4, d4, rfl⟩ : ∃ A d, v4 = .slice A 0 d := by
      obtain ⟨A, d, h, -⟩ := ho4.sees.at_
      exact ⟨A, d, h⟩
    have zd : w3.heap.size ≤ wd.heap.size := hb4.size
    have hb4' := (Below.refl w3.heap.size w3).trans hb4
    have hbd := hb3.trans (hb4.mono hb3.size)
    clear x0 x1 x2 x3 x4 hs3 Q3 ho4
    obtain ⟨-, x0, x1, x2, x3, x4⟩ := hbox.out.cell wd hbd
    obtain ⟨-, y0, y1, y2, y3, y4⟩ := hbg.out.cell wd hb4'
    have z5 : w.heap.size < wd.heap.size := by omega
    have z6 : wc.heap.size < wd.heap.size := by omega
    go_wp2_with (go_at_call 22; refine (knownFr_any _).mono ?_; rintro e wf ⟨rfl, hb6⟩)
    go_ret
    have hb7 := hbox.out.below.trans (hbd.mono (by omega))
    have hb8 := hb7.alloc hb7.size (.cells #[.int .i64 0, .int .i64 0, .int .i64 0, .int .i64 0, .slice A4 0 d4] 26)
    exact ⟨by simp, hb8.trans (hb6.mono hb8.size)⟩

/-! ### THE ROW's STEP around the walk. -/
theorem own_frameStates : ownKnob Try.prog.godebug = none := by kernel_rfl
theorem laidOut_frameStates : laidOutB Try.prog = true := by kernel_rfl
set_option maxRecDepth 100000 in
theorem lifted_frameStates (os : Os) (started : os.Started) (H : Type) (enc : TypeId × Value → H) :
    ReturnsInHanded {} Try.checked os 12 .any (Rows.frameStatesSpec.pre6 enc Try.prog Try.f12 Rows.frameStatesRow.domain false) (Rows.frameStatesSpec.post enc Try.prog Try.f12 false true false false) := by
  refine returnsInHanded_of_change (C := Try.checked) own_frameStates started (by kernel_rfl) Try.func12
    (ChangeSpec.witness6 (enc := enc) (C := Try.checked) false ⟨#[], #[.int .i64 0, .int .i64 0, .int .i64 0, .int .i64 0], []⟩ 8 (by kernel_rfl) (by kernel_rfl) (by kernel_rfl) (by kernel_rfl)) ?_
  intro W base args ds gs before hval0 hW hcnd _
  have hval : ∀ (j : Nat) t v, Try.f12.params[j]? = some t → args[j]? = some v → Value.okWide Try.prog W .any base t v := hval0
  have hW' := hW
  obtain ⟨p, q, hA0, hV, rfl, hfz, hnd⟩ := hW
  have hA : DataW.TrodAll enc Try.prog W 0 (fun _ => true) true Try.f12.params.toList args.toList ds p := hA0
  rw [Try.params12] at hA hval
  obtain ⟨v0, vs0, d0, ds0, p0, q0, hargs, rfl, rfl, h0, r0⟩ := trodAll_cons hA
  obtain ⟨v1, vs1, d1, ds1, p1, q1, rfl, rfl, rfl, h1, r1⟩ := trodAll_cons r0
  obtain ⟨v2, vs2, d2, ds2, p2, q2, rfl, rfl, rfl, h2, r2⟩ := trodAll_cons r1
  obtain ⟨v3, vs3, d3, ds3, p3, q3, rfl, rfl, rfl, h3, r3⟩ := trodAll_cons r2
  obtain ⟨rfl, rfl, rfl⟩ := trodAll_nil r3
  obtain rfl : args = #[v0, v1, v2, v3] := by cases args; simp_all
  obtain ⟨rfl, rfl⟩ := trodVars_none hV
  obtain ⟨a0, rfl, rfl, rfl, w0⟩ := open_int Try.underlying3 (hval 0 3 v0 rfl rfl) h0
  obtain ⟨a1, rfl, rfl, rfl, w1⟩ := open_int Try.underlying3 (hval 1 3 v1 rfl rfl) h1
  obtain ⟨a2, rfl, rfl, rfl, w2⟩ := open_int Try.underlying3 (hval 2 3 v2 rfl rfl) h2
  obtain ⟨a3, rfl, rfl, rfl, w3⟩ := open_int Try.underlying3 (hval 3 3 v3 rfl rfl) h3
  clear hA0 hval0
  refine (walk_frameStates a0 a1 a2 a3 W (bounds_i64 w0) (bounds_i64 w1) (bounds_i64 w2) (bounds_i64 w3)).mono fun e W' ⟨he, bel⟩ => ?_
  subst he
  exact ⟨_, rfl, _, _, _, [], _, [], hW', trodAll_mk1 (shut_bool Try.underlying4 _), (trodAll_cons_mk (shut_int Try.underlying3 w0) (trodAll_cons_mk (shut_int Try.underlying3 w1) (trodAll_cons_mk (shut_int Try.underlying3 w2) (trodAll_cons_mk (shut_int Try.underlying3 w3) trodAll_mk0)))), rfl, bel.frame _, fun h => by cases h⟩

theorem over_frameStates : Rows.frameStatesRow.holds Try.pinned (OpenSpec.ofChange Rows.frameStatesSpec) :=
  OpenClaim.holds_of_wide 12 Try.f12 rfl rfl rfl rfl rfl rfl rfl ⟨rfl, rfl, rfl, rfl, rfl⟩ rfl rfl rfl rfl rfl (by kernel_rfl) Try.func12 (by kernel_rfl)
    (of_decide_eq_true (by kernel_rfl)) (by unfold Func.isWrapper; first | (rw [if_pos (by decide +kernel)]; kernel_rfl) | (rw [if_neg (by decide +kernel)]; exact ⟨rfl, rfl⟩))
    (fun os started H enc _ => lifted_frameStates os started H enc)

theorem proved_frameStates : Rows.FrameStatesSaid := over_frameStates
end Go.Proofs.Ythlanmomgpcbcaa
