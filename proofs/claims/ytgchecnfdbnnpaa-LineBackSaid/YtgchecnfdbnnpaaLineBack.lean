/- LineBack holds: bytes that are driven are read in the channels that were asked for; the others are silent. For all bytes and bools. -/
import Derived.Test.YtgchecnfdbnnpaaLineG
import Derived.Test.YtgchecnfdbnnpaaOpen
namespace Go.Proofs.Ytgchecnfdbnnpaa
open Go.ChangeShapes Go.WideShapes Go.ChangeAt Go.RowKit
open Go.ChangeMaps (open_string shut_string)

theorem told_on {w' : World} {B : Nat} {z : Nat → Int} {n : Nat} {K : Int} {v : Value} (h : Told w' B (lv true z) (8 * n) K v) (h0 : 0 < n) (hz : ∀ k, k < n → 0 ≤ z k ∧ z k < 256) : K = 2 ∧ Owns w' B 5 v n (fun j => .int .u8 (z j)) := by
  rcases h with ⟨h1, _⟩ | ⟨_, _, _, h2, h3⟩ | ⟨_, h4, _⟩
  · rw [lv_loud z _ (by omega)] at h1; cases h1
  · rw [show 8 * n / 8 = n by omega] at h3
    exact ⟨h2, h3.alike fun k hk => by rw [packed_lv z k (hz k hk)]⟩
  · rcases h4 with h4 | h4
    · omega
    · rw [lv_units] at h4; cases h4
theorem told_off {w' : World} {B : Nat} {z : Nat → Int} {n : Nat} {K : Int} {v : Value} (h : Told w' B (lv false z) n K v) : K = 0 ∧ v = .slice none 0 0 := by
  rcases h with ⟨_, h1, h2⟩ | ⟨h1, _⟩ | ⟨h1, _⟩
  · exact ⟨h1, h2⟩
  · rw [lv_silent] at h1; cases h1
  · rw [lv_silent] at h1; cases h1

set_option maxHeartbeats 1000000 in
theorem walk_lineBack (A : Option Addr) (n c : Nat) (z : Nat → Int) (f s : Bool) (w : World) (h : InBytes w A n c z) :
    Calls Try.prog 6 #[.slice A n c, .bool f, .bool s] w fun e w' => e = .returned (.bool true) ∧ Below w.heap.size w w' := by
  obtain ⟨hs, hz, hn, hc⟩ := h
  have hc' := hc
  unfold maxLen at hc'
  by_cases h0 : n < 1
  · go_enter Try.func6, Try.ntmps6
    go_wp2
    go_ret
    exact ⟨rfl, Below.refl _ _⟩
  by_cases h1 : 50 < n
  · go_enter Try.func6, Try.ntmps6
    go_wp2
    go_ret
    exact ⟨rfl, Below.refl _ _⟩
  have hd0 : decide ((n : Int) < 1) = false := by simp; omega
  have hd1 : decide ((50 : Int) < n) = false := by simp; omega
  cases f <;> cases s
  all_goals
    go_enter Try.func6, Try.ntmps6
    go_wp2_with fail
    refine (drive_cx A n c z _ _ w hs hz hn hc).mono ?_
    rintro e w1 ⟨v, rfl, ho1, hb1⟩
    rw [show min n 50 = n by omega] at ho1
    obtain ⟨A2, c2, rfl, g1, g2, g3⟩ := Owns.form ho1
    go_wp2_with fail
    refine (read_any A2 (8 * n) c2 _ _ w1 g3 (fun k _ => lv_small _ z k) (fun k _ => lv_small _ z k) g1 g2 (by omega)).mono ?_
    rintro e w2 ⟨K, x, L, y, rfl, t1, t2, hb2⟩
    have hb3 : Below w.heap.size w w2 := hb1.trans (hb2.mono hb1.size)
    have hin := run_string (c := c) (hs.below hb3) (by omega)
    clear ho1 g3 hb1 hb2
    first
      | obtain ⟨rfl, o1⟩ := told_on t1 (by omega) hz
        obtain ⟨A3, c3, rfl, -, -, m1⟩ := Owns.form o1
        have hx := run_string (c := c3) m1 (by omega)
        clear o1 m1
      | obtain ⟨rfl, rfl⟩ := told_off t1
    first
      | obtain ⟨rfl, o2⟩ := told_on t2 (by omega) hz
        obtain ⟨A4, c4, rfl, -, -, m2⟩ := Owns.form o2
        have hy := run_string (c := c4) m2 (by omega)
        clear o2 m2
      | obtain ⟨rfl, rfl⟩ := told_off t2
    clear t1 t2
    go_wp2_with (go_at_call 19; refine (known_any _).mono ?_; rintro e w3 ⟨rfl, hb4⟩)
    go_ret
    exact ⟨rfl, hb3.trans (hb4.mono hb3.size)⟩

/-! ### THE ROW's STEP around the walk. -/
theorem own_lineBack : ownKnob Try.prog.godebug = none := by kernel_rfl
theorem laidOut_lineBack : laidOutB Try.prog = true := by kernel_rfl
set_option maxRecDepth 100000 in
theorem lifted_lineBack (os : Os) (started : os.Started) (H : Type) (enc : TypeId × Value → H) :
    ReturnsInHanded {} Try.checked os 6 .any (Rows.lineBackSpec.pre6 enc Try.prog Try.f6 Rows.lineBackRow.domain false) (Rows.lineBackSpec.post enc Try.prog Try.f6 false true false false) := by
  refine returnsInHanded_of_change (C := Try.checked) own_lineBack started (by kernel_rfl) Try.func6
    (ChangeSpec.witness6 (enc := enc) (C := Try.checked) false ⟨#[], #[.slice none 0 0, .bool false, .bool false], []⟩ 8 (by kernel_rfl) (by kernel_rfl) (by kernel_rfl) (by kernel_rfl)) ?_
  intro W base args ds gs before hval0 hW hcnd _
  have hval : ∀ (j : Nat) t v, Try.f6.params[j]? = some t → args[j]? = some v → Value.okWide Try.prog W .any base t v := hval0
  have hW' := hW
  obtain ⟨p, q, hA0, hV, rfl, hfz, hnd⟩ := hW
  have hA : DataW.TrodAll enc Try.prog W 0 (fun _ => true) true Try.f6.params.toList args.toList ds p := hA0
  rw [Try.params6] at hA hval
  obtain ⟨v0, vs0, d0, ds0, p0, q0, hargs, rfl, rfl, h0, r0⟩ := trodAll_cons hA
  obtain ⟨v1, vs1, d1, ds1, p1, q1, rfl, rfl, rfl, h1, r1⟩ := trodAll_cons r0
  obtain ⟨v2, vs2, d2, ds2, p2, q2, rfl, rfl, rfl, h2, r2⟩ := trodAll_cons r1
  obtain ⟨rfl, rfl, rfl⟩ := trodAll_nil r2
  obtain rfl : args = #[v0, v1, v2] := by cases args; simp_all
  obtain ⟨rfl, rfl⟩ := trodVars_none hV
  obtain ⟨A0, n0, c0, rfl⟩ := okWide_slice Try.underlying22 (hval 0 22 v0 rfl rfl)
  have k0 := h0
  have lt0 : ∀ x ∈ p0, x.block < W.heap.size := by obtain ⟨m, hm⟩ := k0; exact DataW.trod_lt m _ _ _ hm
  obtain ⟨z0, s0⟩ := sees_bytes Try.underlying22 Try.underlying5 (by kernel_rfl) h0
  obtain ⟨a1, rfl, rfl, rfl⟩ := open_bool Try.underlying4 (hval 1 4 v1 rfl rfl) h1
  obtain ⟨a2, rfl, rfl, rfl⟩ := open_bool Try.underlying4 (hval 2 4 v2 rfl rfl) h2
  clear hA0 hval0
  refine (walk_lineBack A0 n0 c0 z0 a1 a2 W s0).mono fun e W' ⟨he, bel⟩ => ?_
  subst he
  exact ⟨_, rfl, _, _, _, [], _, [], hW', trodAll_mk1 (shut_bool Try.underlying4 _), (trodAll_cons_mk (Below.trod laidOut_lineBack (by kernel_rfl) (of_decide_eq_true (by kernel_rfl)) k0 bel lt0) (trodAll_cons_mk (shut_bool Try.underlying4 _) (trodAll_cons_mk (shut_bool Try.underlying4 _) trodAll_mk0))), rfl, bel.frame _, fun h => by cases h⟩

theorem over_lineBack : Rows.lineBackRow.holds Try.pinned (OpenSpec.ofChange Rows.lineBackSpec) :=
  OpenClaim.holds_of_wide 6 Try.f6 rfl rfl rfl rfl rfl rfl rfl ⟨rfl, rfl, rfl, rfl, rfl⟩ rfl rfl rfl rfl rfl (by kernel_rfl) Try.func6 (by kernel_rfl)
    (of_decide_eq_true (by kernel_rfl)) (by unfold Func.isWrapper; first | (rw [if_pos (by decide +kernel)]; kernel_rfl) | (rw [if_neg (by decide +kernel)]; exact ⟨rfl, rfl⟩))
    (fun os started H enc _ => lifted_lineBack os started H enc)

theorem proved_lineBack : Rows.LineBackSaid := over_lineBack
end Go.Proofs.Ytgchecnfdbnnpaa
