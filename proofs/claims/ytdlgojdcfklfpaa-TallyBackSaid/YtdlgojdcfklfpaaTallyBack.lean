/- TallyBack holds: who was wrong is a member again, once it is right. For all arguments. -/
import Derived.Test.YtdlgojdcfklfpaaTlD
import Derived.Test.YtdlgojdcfklfpaaTlK
import Derived.Test.YtdlgojdcfklfpaaOpen
namespace Go.Proofs.Ytdlgojdcfklfpaa
open Go.ChangeShapes Go.WideShapes Go.ChangeAt Go.RowKit

theorem del_del {m k : Nat} (hm : m < 256) (hk : k < 8) : del (del m k) k = del m k := by
  have : ∀ (a : Fin 256) (b : Fin 8), del (del a.val b.val) b.val = del a.val b.val := by decide +kernel
  exact this ⟨m, hm⟩ ⟨k, hk⟩
/-- So many times wrong. -/
def wrongs (q t i : Nat) : TS := ⟨if i = 0 then q else del q t, 0, i⟩
theorem wrongs_succ {q : Nat} (hq : q < 256) (n : Int) (hn : 0 ≤ n ∧ n < 8) (i : Nat) : (wrongs q n.toNat i).wrong n = wrongs q n.toNat (i + 1) := by
  unfold wrongs TS.wrong
  rw [if_pos hn]
  by_cases h : i = 0
  · simp [h]
  · simp [h, del_del hq (show n.toNat < 8 by omega)]
theorem wrongs_right {q : Nat} (hq : q < 256) (n : Int) (hn : 0 ≤ n ∧ n < 8) (i : Nat) (hi : 0 < i) : (wrongs q n.toNat i).right n = ⟨ins q n.toNat, 1, i⟩ := by
  unfold wrongs TS.right
  rw [if_pos hn]
  simp [ins_del hq (show n.toNat < 8 by omega), Nat.ne_of_gt hi]
theorem wrongs_is {q : Nat} (hq : q < 256) (n : Int) (hn : 0 ≤ n ∧ n < 8) (i : Nat) (hi : 0 < i) : isB (wrongs q n.toNat i).m n = false := by
  unfold wrongs isB
  simp [del_has hq (show n.toNat < 8 by omega), Nat.ne_of_gt hi]
set_option maxRecDepth 100000 in
set_option maxHeartbeats 2000000 in
theorem walk_tallyBack (a n k : Int) (w : World) (_ha : -9223372036854775808 ≤ a ∧ a ≤ 9223372036854775807) (_hn : -9223372036854775808 ≤ n ∧ n ≤ 9223372036854775807) (_hk : -9223372036854775808 ≤ k ∧ k ≤ 9223372036854775807) :
    Calls Try.prog 9 #[.int .i64 a, .int .i64 n, .int .i64 k] w fun e w' => e = .returned (.bool true) ∧ Below w.heap.size w w' := by
  by_cases call : 0 ≤ n ∧ n ≤ 7 ∧ 1 ≤ k ∧ k ≤ 10
  case neg =>
    go_enter Try.func9, Try.ntmps9
    go_wp2
    all_goals first
      | (exfalso; omega)
      | (go_ret; exact ⟨rfl, Below.refl _ _⟩)
      | skip
  obtain ⟨c1, c2, c3, c4⟩ := call
  obtain ⟨t, rfl⟩ : ∃ t : Nat, k = t := ⟨k.toNat, by omega⟩
  have hU : IntKind.u64.wrap n = n := by rw [IntKind.wrap_u64]; omega
  have HA := and_low a
  have hq := low_lt a
  have hN := new_tl a
  generalize (a % 256).toNat = q at *
  have hN := fun W => Lib.hid (hN W)
  have hd : 0 ≤ n ∧ n < 8 := by omega
  have HX := or_w hq (k := n.toNat) (by omega)
  have HW := fun g i W (h : TAt 45 W g (wrongs q n.toNat i)) (hi : (wrongs q n.toNat i).f < 1000) => Lib.hid (wrong_tl g (wrongs q n.toNat i) n W h hi)
  have HI := fun g W (h : TAt 45 W g (wrongs q n.toNat t)) => Lib.hid (is_tl g (wrongs q n.toNat t) n W h)
  have HR := fun g W (h : TAt 45 W g (wrongs q n.toNat t)) => Lib.hid (right_tl g (wrongs q n.toNat t) n W h (by simp [wrongs]))
  have HJ := fun g W (h : TAt 45 W g ⟨ins q n.toNat, 1, t⟩) => Lib.hid (is_tl g ⟨ins q n.toNat, 1, t⟩ n W h)
  have HC := fun g W (h : TAt 45 W g ⟨ins q n.toNat, 1, t⟩) => Lib.hid (counts_tl g ⟨ins q n.toNat, 1, t⟩ W h)
  have HM := fun g W (h : TAt 45 W g ⟨ins q n.toNat, 1, t⟩) => Lib.hid (members_tl g ⟨ins q n.toNat, 1, t⟩ W h)
  have HQ := fun g W (h : TAt 45 W g ⟨ins q n.toNat, 1, t⟩) => Lib.hid (clique_tl g ⟨ins q n.toNat, 1, t⟩ W h)
  have hj : isB (ins q n.toNat) n = true := by unfold isB; rw [decide_eq_true (by omega), ins_has hq (by omega)]; rfl
  have he : decide (((t : Nat) : Int) ≤ 1) = decide (t ≤ 1) := by simp; omega
  simp only [wrongs_succ hq n hd] at HW
  simp only [wrongs_is hq n hd t (by omega)] at HI
  simp only [wrongs_right hq n hd t (by omega)] at HR
  simp only [hj] at HJ
  have hw0 : wrongs q n.toNat 0 = ⟨q, 0, 0⟩ := rfl
  have hwf : ∀ i, (wrongs q n.toNat i).f = i := fun i => rfl
  simp only [hwf] at HW
  rw [← hw0] at hN
  clear hw0 hwf hd hj
  generalize wrongs q n.toNat = st at *
  generalize ins q n.toNat = P1 at *
  generalize decide (t ≤ 1) = Q1 at *
  go_enter Try.func9, Try.ntmps9
  go_wp2_with fail
  refine (hN _).out.mono ?_
  rintro _ w1 ⟨rfl, h1, b1, -⟩
  go_wp2_with fail
  go_loopw [8] (fun i wr => ∃ k : Nat, k ≤ t ∧ i = .int .i64 k ∧ TAt 45 wr w.heap.size (st k) ∧ Below w.heap.size w wr) (fun i _ => t - (intOf i).toNat)
  case atStart => exact ⟨0, by omega, rfl, h1, b1⟩
  case round =>
    clear h1 b1
    obtain ⟨k, hk, rfl, h2, b2⟩ := hrel
    by_cases hlt : k < t
    · have r1 : decide ((k : Int) < (t : Int)) = true := decide_eq_true (by omega)
      go_wp2_with fail
      refine (HW _ _ _ h2 (by omega)).out.mono ?_
      rintro _ w3 ⟨rfl, h3, o3⟩
      have b3 := b2.trans (o3.below (Nat.le_refl _) h2.lt)
      clear h2 b2 o3
      go_wp2
      go_roundw
      case rel => exact ⟨k + 1, by omega, by go_num, h3, b3⟩
      case measure => simp [intOf]; omega
    · obtain rfl : k = t := by omega
      go_wp2_with fail
      refine (HI _ _ h2).out.mono ?_
      rintro _ _ ⟨rfl, mm, rfl⟩
      replace h2 := h2.drewN mm
      replace b2 := below_drewN b2 mm
      generalize World.drewN _ mm = ww at *
      clear mm
      go_wp2_with fail
      refine (HR _ _ h2).out.mono ?_
      rintro _ w3 ⟨rfl, h3, o3⟩
      have b3 := b2.trans (o3.below (Nat.le_refl _) h2.lt)
      clear h2 b2 o3
      go_wp2_with fail
      refine (HC _ _ h3).out.mono ?_
      rintro _ _ ⟨rfl, mm, rfl⟩
      replace h3 := h3.drewN mm
      replace b3 := below_drewN b3 mm
      generalize World.drewN _ mm = ww at *
      clear mm
      go_wp2_with fail
      refine (HJ _ _ h3).out.mono ?_
      rintro _ _ ⟨rfl, mm, rfl⟩
      replace h3 := h3.drewN mm
      replace b3 := below_drewN b3 mm
      generalize World.drewN _ mm = ww at *
      clear mm
      go_wp2_with fail
      refine (HM _ _ h3).out.mono ?_
      rintro _ _ ⟨rfl, mm, rfl⟩
      replace h3 := h3.drewN mm
      replace b3 := below_drewN b3 mm
      generalize World.drewN _ mm = ww at *
      clear mm
      go_wp2_with fail
      refine (HQ _ _ h3).out.mono ?_
      rintro _ _ ⟨rfl, mm, rfl⟩
      replace h3 := h3.drewN mm
      replace b3 := below_drewN b3 mm
      generalize World.drewN _ mm = ww at *
      clear mm
      go_wp2_with fail
      refine (known_tl _).mono ?_
      rintro _ wk ⟨rfl, bk⟩
      replace bk := b3.trans (bk.mono b3.size)
      go_wp2
      go_ret
      exact ⟨rfl, bk⟩

/-! ### THE ROW's STEP around the walk. -/
theorem own_tallyBack : ownKnob Try.prog.godebug = none := by kernel_rfl
theorem laidOut_tallyBack : laidOutB Try.prog = true := by kernel_rfl
set_option maxRecDepth 100000 in
theorem lifted_tallyBack (os : Os) (started : os.Started) (H : Type) (enc : TypeId × Value → H) :
    ReturnsInHanded {} Try.checked os 9 .any (Rows.tallyBackSpec.pre6 enc Try.prog Try.f9 Rows.tallyBackRow.domain false) (Rows.tallyBackSpec.post enc Try.prog Try.f9 false true false false) := by
  refine returnsInHanded_of_change (C := Try.checked) own_tallyBack started (by kernel_rfl) Try.func9
    (ChangeSpec.witness6 (enc := enc) (C := Try.checked) false ⟨#[], #[.int .i64 0, .int .i64 0, .int .i64 0], []⟩ 8 (by kernel_rfl) (by kernel_rfl) (by kernel_rfl) (by kernel_rfl)) ?_
  intro W base args ds gs before hval0 hW hcnd _
  have hval : ∀ (j : Nat) t v, Try.f9.params[j]? = some t → args[j]? = some v → Value.okWide Try.prog W .any base t v := hval0
  have hW' := hW
  obtain ⟨p, q, hA0, hV, rfl, hfz, hnd⟩ := hW
  have hA : DataW.TrodAll enc Try.prog W 0 (fun _ => true) true Try.f9.params.toList args.toList ds p := hA0
  rw [Try.params9] at hA hval
  obtain ⟨v0, vs0, d0, ds0, p0, q0, hargs, rfl, rfl, h0, r0⟩ := trodAll_cons hA
  obtain ⟨v1, vs1, d1, ds1, p1, q1, rfl, rfl, rfl, h1, r1⟩ := trodAll_cons r0
  obtain ⟨v2, vs2, d2, ds2, p2, q2, rfl, rfl, rfl, h2, r2⟩ := trodAll_cons r1
  obtain ⟨rfl, rfl, rfl⟩ := trodAll_nil r2
  obtain rfl : args = #[v0, v1, v2] := by cases args; simp_all
  obtain ⟨rfl, rfl⟩ := trodVars_none hV
  obtain ⟨a0, rfl, rfl, rfl, w0⟩ := open_int Try.underlying3 (hval 0 3 v0 rfl rfl) h0
  obtain ⟨a1, rfl, rfl, rfl, w1⟩ := open_int Try.underlying3 (hval 1 3 v1 rfl rfl) h1
  obtain ⟨a2, rfl, rfl, rfl, w2⟩ := open_int Try.underlying3 (hval 2 3 v2 rfl rfl) h2
  clear hA0 hval0
  refine (walk_tallyBack a0 a1 a2 W (bounds_i64 w0) (bounds_i64 w1) (bounds_i64 w2)).mono fun e W' ⟨he, bel⟩ => ?_
  subst he
  exact ⟨_, rfl, _, _, _, [], _, [], hW', trodAll_mk1 (shut_bool Try.underlying4 _), (trodAll_cons_mk (shut_int Try.underlying3 w0) (trodAll_cons_mk (shut_int Try.underlying3 w1) (trodAll_cons_mk (shut_int Try.underlying3 w2) trodAll_mk0))), rfl, bel.frame _, fun h => by cases h⟩

theorem over_tallyBack : Rows.tallyBackRow.holds Try.pinned (OpenSpec.ofChange Rows.tallyBackSpec) :=
  OpenClaim.holds_of_wide 9 Try.f9 rfl rfl rfl rfl rfl rfl rfl ⟨rfl, rfl, rfl, rfl, rfl⟩ rfl rfl rfl rfl rfl (by kernel_rfl) Try.func9 (by kernel_rfl)
    (of_decide_eq_true (by kernel_rfl)) (by unfold Func.isWrapper; first | (rw [if_pos (by decide +kernel)]; kernel_rfl) | (rw [if_neg (by decide +kernel)]; exact ⟨rfl, rfl⟩))
    (fun os started H enc _ => lifted_tallyBack os started H enc)

theorem proved_tallyBack : Rows.TallyBackSaid := over_tallyBack
end Go.Proofs.Ytdlgojdcfklfpaa
