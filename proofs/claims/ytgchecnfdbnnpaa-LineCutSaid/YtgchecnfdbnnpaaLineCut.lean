/- LineCut holds: a row that is cut within a byte is noise in the channels that are driven. For all bytes, numbers and bools. -/
import Derived.Test.YtgchecnfdbnnpaaLineG
import Derived.Test.YtgchecnfdbnnpaaOpen
import Derived.StillTailTactics
namespace Go.Proofs.Ytgchecnfdbnnpaa
open Go.ChangeShapes Go.WideShapes Go.ChangeAt Go.RowKit
open Go.ChangeMaps (open_string shut_string)

theorem and_small (x : Int) : ∃ y : Nat, y ≤ 65535 ∧ bits BinOp.and IntKind.i64 x 65535 = y := by
  refine ⟨((BitVec.ofInt 64 x) &&& (BitVec.ofInt 64 65535)).toNat, ?_, ?_⟩
  · rw [BitVec.toNat_and]
    exact Nat.and_le_right
  · have h : ((BitVec.ofInt 64 x) &&& (BitVec.ofInt 64 65535)).toNat ≤ 65535 := by
      rw [BitVec.toNat_and]
      exact Nat.and_le_right
    show IntKind.i64.wrap ((((BitVec.ofInt 64 x) &&& (BitVec.ofInt 64 65535)).toNat : Nat) : Int) = _
    rw [IntKind.wrap_i64]
    omega

theorem told_cut {w' : World} {B : Nat} {z : Nat → Int} {n k : Nat} {K : Int} {v : Value} (h : Told w' B (lv true z) k K v) (h0 : 0 < k) (hk : k ≤ 8 * n) (hz : ∀ k, k < n → 0 ≤ z k ∧ z k < 256) :
    (k % 8 = 0 ∧ K = 2 ∧ Owns w' B 5 v (k / 8) (fun j => .int .u8 (z j))) ∨ (k % 8 ≠ 0 ∧ K = 1 ∧ v = .slice none 0 0) := by
  rcases h with ⟨h1, _⟩ | ⟨_, h8, _, h2, h3⟩ | ⟨_, h4, h5, h6⟩
  · rw [lv_loud z _ h0] at h1; cases h1
  · exact .inl ⟨h8, h2, h3.alike fun j hj => by rw [packed_lv z j (hz j (by omega))]⟩
  · rcases h4 with h4 | h4
    · exact .inr ⟨h4, h5, h6⟩
    · rw [lv_units] at h4; cases h4
theorem told_off {w' : World} {B : Nat} {z : Nat → Int} {n : Nat} {K : Int} {v : Value} (h : Told w' B (lv false z) n K v) : K = 0 ∧ v = .slice none 0 0 := by
  rcases h with ⟨_, h1, h2⟩ | ⟨h1, _⟩ | ⟨h1, _⟩
  · exact ⟨h1, h2⟩
  · rw [lv_silent] at h1; cases h1
  · rw [lv_silent] at h1; cases h1

attribute [local irreducible] wpStill
set_option maxHeartbeats 4000000 in
theorem walk_lineCut (A : Option Addr) (n c : Nat) (z : Nat → Int) (x : Int) (s : Bool) (w : World) (h : InBytes w A n c z) (hx : -9223372036854775808 ≤ x ∧ x ≤ 9223372036854775807) :
    Calls Try.prog 14 #[.slice A n c, .int .i64 x, .bool s] w fun e w' => e = .returned (.bool true) ∧ Below w.heap.size w w' := by
  obtain ⟨hs, hz, hn, hc⟩ := h
  have hc' := hc
  unfold maxLen at hc'
  by_cases h0 : n < 1
  · go_enter Try.func14, Try.ntmps14
    go_wp2
    go_ret
    exact ⟨rfl, Below.refl _ _⟩
  by_cases h1 : 40 < n
  · go_enter Try.func14, Try.ntmps14
    go_wp2
    go_ret
    exact ⟨rfl, Below.refl _ _⟩
  have hd0 : decide ((n : Int) < 1) = false := by simp; omega
  have hd1 : decide ((40 : Int) < n) = false := by simp; omega
  obtain ⟨y, hy1, hy2⟩ := and_small x
  obtain ⟨k, hk⟩ : ∃ k : Nat, k = 1 + y % (8 * n) := ⟨_, rfl⟩
  have hk1 : 1 + (y : Int) % (8 * (n : Int)) = k := by rw [hk]; simp
  have hk2 : 1 ≤ k := by omega
  have hk3 : k ≤ 8 * n := by have := Nat.mod_lt y (show 8 * n > 0 by omega); omega
  clear hk
  cases s
  all_goals
    go_enter Try.func14, Try.ntmps14
    go_wp2_with fail
    refine (drive_cx A n c z _ _ w hs hz hn hc).mono ?_
    rintro e w1 ⟨v, rfl, ho1, hb1⟩
    rw [show min n 50 = n by omega] at ho1
    obtain ⟨A2, c2, rfl, g1, g2, g3⟩ := Owns.form ho1
    have g2' := g2
    unfold maxLen at g2'
    have g3' : Sees w1 w1.heap.size A2 k (fun k => cx (lv true z k) (lv _ z k)) := g3.less hk3
    clear hy2 hk1
    go_wp2_with fail
    refine (read_any A2 k c2 _ _ w1 g3' (fun k _ => lv_small _ z k) (fun k _ => lv_small _ z k) (by omega) g2 (by omega)).mono ?_
    rintro e w2 ⟨K, p, L, q, rfl, t1, t2, hb2⟩
    have hb3 : Below w.heap.size w w2 := hb1.trans (hb2.mono hb1.size)
    clear ho1 g3 g3' hb1 hb2
    rcases told_cut t1 hk2 hk3 hz with ⟨e8, rfl, o1⟩ | ⟨e8, rfl, rfl⟩
    · have hin := run_string_later (c := c) ((hs.less (show k / 8 ≤ n by omega)).below hb3) (by omega)
      obtain ⟨A3, c3, rfl, -, -, m1⟩ := Owns.form o1
      have hx := run_string_later (c := c3) m1 (by omega)
      first
        | obtain ⟨_, rfl, o2⟩ | ⟨e9, _⟩ := told_cut t2 hk2 hk3 hz
          rotate_left
          · exact absurd e8 e9
        | obtain ⟨rfl, rfl⟩ := told_off t2
      have hk8 : ((k : Int) % 8 == 0) = true := by simp; omega
      have q1 : (0 : Int) ≤ (k : Int) / 8 := by omega
      have q2 : (k : Int) / 8 ≤ (c : Int) := by omega
      have q3 : ((k : Int) / 8).toNat = k / 8 := by omega
      have q4 : IntKind.i64.wrap ((k : Int) / 8) = (k : Int) / 8 := IntWalk.i64_in _ (by omega)
      clear t1 t2 o1 m1 hs hz hn hc hc' g1 g2 g2' hd0 hd1 hy1
      go_wp2
      go_still_tail 23, (by kernel_rfl)
      go_wp2_with (go_at_call 19; refine (known_any _).mono ?_; rintro e w3 ⟨rfl, hb4⟩)
      go_ret
      exact ⟨rfl, hb3.drew.trans (hb4.mono hb3.size)⟩
    · first
        | obtain ⟨e9, _⟩ | ⟨_, rfl, rfl⟩ := told_cut t2 hk2 hk3 hz
          · exact absurd e9 e8
        | obtain ⟨rfl, rfl⟩ := told_off t2
      have hk8 : ((k : Int) % 8 == 0) = false := by simp; omega
      clear t1 t2
      go_wp2
      go_still_tail 23, (by kernel_rfl)
      go_wp2_with (go_at_call 19; refine (known_any _).mono ?_; rintro e w3 ⟨rfl, hb4⟩)
      go_ret
      exact ⟨rfl, hb3.drew.trans (hb4.mono hb3.size)⟩

/-! ### THE ROW's STEP around the walk. -/
theorem own_lineCut : ownKnob Try.prog.godebug = none := by kernel_rfl
theorem laidOut_lineCut : laidOutB Try.prog = true := by kernel_rfl
set_option maxRecDepth 100000 in
theorem lifted_lineCut (os : Os) (started : os.Started) (H : Type) (enc : TypeId × Value → H) :
    ReturnsInHanded {} Try.checked os 14 .any (Rows.lineCutSpec.pre6 enc Try.prog Try.f14 Rows.lineCutRow.domain false) (Rows.lineCutSpec.post enc Try.prog Try.f14 false true false false) := by
  refine returnsInHanded_of_change (C := Try.checked) own_lineCut started (by kernel_rfl) Try.func14
    (ChangeSpec.witness6 (enc := enc) (C := Try.checked) false ⟨#[], #[.slice none 0 0, .int .i64 0, .bool false], []⟩ 8 (by kernel_rfl) (by kernel_rfl) (by kernel_rfl) (by kernel_rfl)) ?_
  intro W base args ds gs before hval0 hW hcnd _
  have hval : ∀ (j : Nat) t v, Try.f14.params[j]? = some t → args[j]? = some v → Value.okWide Try.prog W .any base t v := hval0
  have hW' := hW
  obtain ⟨p, q, hA0, hV, rfl, hfz, hnd⟩ := hW
  have hA : DataW.TrodAll enc Try.prog W 0 (fun _ => true) true Try.f14.params.toList args.toList ds p := hA0
  rw [Try.params14] at hA hval
  obtain ⟨v0, vs0, d0, ds0, p0, q0, hargs, rfl, rfl, h0, r0⟩ := trodAll_cons hA
  obtain ⟨v1, vs1, d1, ds1, p1, q1, rfl, rfl, rfl, h1, r1⟩ := trodAll_cons r0
  obtain ⟨v2, vs2, d2, ds2, p2, q2, rfl, rfl, rfl, h2, r2⟩ := trodAll_cons r1
  obtain ⟨rfl, rfl, rfl⟩ := trodAll_nil r2
  obtain rfl : args = #[v0, v1, v2] := by cases args; simp_all
  obtain ⟨rfl, rfl⟩ := trodVars_none hV
  obtain ⟨A0, n0, c0, rfl⟩ := okWide_slice Try.underlying22 (hval 0 22 v0 rfl rfl)
  have k0 := h0
  have lt0 : ∀ x ∈ p0, x.block < W.heap.size := by obtain ⟨m, hm⟩ := k0; exact DataW.trod_lt m _ _ _ hm
  obtain ⟨z0, s0⟩ := sees_bytes Try.underlying22 Try.underlying5 (by kernel_rfl) h0
  obtain ⟨a1, rfl, rfl, rfl, w1⟩ := open_int Try.underlying3 (hval 1 3 v1 rfl rfl) h1
  obtain ⟨a2, rfl, rfl, rfl⟩ := open_bool Try.underlying4 (hval 2 4 v2 rfl rfl) h2
  clear hA0 hval0
  refine (walk_lineCut A0 n0 c0 z0 a1 a2 W s0 (bounds_i64 w1)).mono fun e W' ⟨he, bel⟩ => ?_
  subst he
  exact ⟨_, rfl, _, _, _, [], _, [], hW', trodAll_mk1 (shut_bool Try.underlying4 _), (trodAll_cons_mk (Below.trod laidOut_lineCut (by kernel_rfl) (of_decide_eq_true (by kernel_rfl)) k0 bel lt0) (trodAll_cons_mk (shut_int Try.underlying3 w1) (trodAll_cons_mk (shut_bool Try.underlying4 _) trodAll_mk0))), rfl, bel.frame _, fun h => by cases h⟩

theorem over_lineCut : Rows.lineCutRow.holds Try.pinned (OpenSpec.ofChange Rows.lineCutSpec) :=
  OpenClaim.holds_of_wide 14 Try.f14 rfl rfl rfl rfl rfl rfl rfl ⟨rfl, rfl, rfl, rfl, rfl⟩ rfl rfl rfl rfl rfl (by kernel_rfl) Try.func14 (by kernel_rfl)
    (of_decide_eq_true (by kernel_rfl)) (by unfold Func.isWrapper; first | (rw [if_pos (by decide +kernel)]; kernel_rfl) | (rw [if_neg (by decide +kernel)]; exact ⟨rfl, rfl⟩))
    (fun os started H enc _ => lifted_lineCut os started H enc)

theorem proved_lineCut : Rows.LineCutSaid := over_lineCut
end Go.Proofs.Ytgchecnfdbnnpaa
