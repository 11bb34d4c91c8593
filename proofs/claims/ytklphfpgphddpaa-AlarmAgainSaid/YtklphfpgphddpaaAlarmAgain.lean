/- AlarmAgain holds: what was acknowledged rings anew. For all numbers. -/
import Derived.Test.YtklphfpgphddpaaAlL
import Derived.Test.YtklphfpgphddpaaOpen
namespace Go.Proofs.Ytklphfpgphddpaa
open Go.ChangeShapes Go.WideShapes Go.ChangeAt Go.RowKit

set_option maxRecDepth 100000 in
set_option maxHeartbeats 2000000 in
theorem walk_alarmAgain (n : Int) (w : World) (_h : -9223372036854775808 ≤ n ∧ n ≤ 9223372036854775807) :
    Calls Try.prog 10 #[.int .i64 n] w fun e w' => e = .returned (.bool true) ∧ Below w.heap.size w w' := by
  by_cases call : 1 ≤ n ∧ n ≤ 10
  case neg =>
    go_enter Try.func10, Try.ntmps10
    go_wp2
    all_goals first
      | (exfalso; omega)
      | (go_ret; exact ⟨rfl, Below.refl _ _⟩)
      | skip
  obtain ⟨k2, k3⟩ := call
  obtain ⟨N, rfl⟩ : ∃ t : Nat, n = t := ⟨n.toNat, by omega⟩
  have d2 : decide (((N : Nat) : Int) < 1) = false := decide_eq_false (by omega)
  have d3 : decide ((10 : Int) < ((N : Nat) : Int)) = false := decide_eq_false (by omega)
  have hmf : ∀ (fn : Fn) (first cap : Array Value) (w : World), (Instr.makeFunc fn first cap).run Try.prog w = .ok (.func fn first cap) w := fun _ _ _ _ => rfl
  have H1 := fun W k hk => Lib.hid (new1 ⟨0, 0, 100, 9⟩ (by decide) W 23 k hk)
  go_enter Try.func10, Try.ntmps10
  go_wp2_with fail
  refine (H1 _ _ rfl).out.mono ?_
  rintro _ w1 ⟨ga, rfl, hga, hA, b1⟩
  replace hA := A1.start hA
  have hal := A1.lt hA
  clear H1
  have hP := pat_new [ga] w1 38
  have hk := Below.refl w1.heap.size w1 |>.alloc (Nat.le_refl _) (.cells (stc (fun _ => .slice none 0 0) (fun _ => 0) (fun _ => false)) 38)
  replace hA : A1 [w1.heap.size, ga] _ ga _ _ _ := AAt.more hA hk (f := w1.heap.size) (Nat.le_refl _)
  replace b1 := b1.trans (hk.mono b1.size)
  clear hk
  go_wp2_with fail
  generalize w1.heap.size = gs at *
  have hgs2 : ga ≠ gs := by omega
  have hgs3 : w.heap.size ≤ gs := by omega
  go_loopw [6] (fun i wr => ∃ (k : Nat) (s : MS), k ≤ N ∧ i = .int .i64 k ∧ A1 [gs, ga] wr ga ⟨0, 0, 100, 9⟩ 0 0 ∧ PAt 38 [ga] wr gs s ∧ Below w.heap.size w wr) (fun i _ => N - (intOf i).toNat)
  case atStart => exact ⟨0, MS.z0, by omega, rfl, hA, hP, b1⟩
  case round =>
    clear hA hP b1 hal
    obtain ⟨k, s, hk, rfl, hA, hP, b⟩ := hrel
    by_cases hlt : k < N
    · have r1 : decide ((k : Int) < (N : Int)) = true := decide_eq_true (by omega)
      have hF : ∀ f, f ∈ [ga] → f < wr.heap.size := fun f hf => by
        rw [List.mem_singleton.1 hf]
        exact A1.lt hA
      obtain ⟨hP', o⟩ := say_at (u := 5) hP 0 (by omega) 200 (by omega) true hF
      have hA' := A1.only hA o hgs2 (by simp)
      have b' := b.trans (o.below (B := w.heap.size) (by omega) hP.lt)
      clear hF o
      obtain ⟨A0, c0, s0, s1, s2, -⟩ := hP.first
      have f0 := hP.frozen 0
      have f1 := hP.frozen 1
      have f2 := hP.frozen 2
      have hgl := hP.lt
      go_wp2_with fail
      clear s0 s1 s2 f0 f1 f2 hgl
      refine (look1 [gs, ga] [ga] _ ga gs _ _ _ _ _ hA' (by simp) hP').mono ?_
      rintro _ w2 ⟨rfl, h2, o2⟩
      rw [show whyS ⟨0, 0, 100, 9⟩ ⟨upd s.d 0 [200], upd s.a 0 0, upd s.g 0 true⟩ = 2 from by unfold whyS MS.gd MS.ga MS.gg; simp [isN, upd, whyM], show (0 ||| 2 : Nat) = 2 from rfl] at h2
      replace hP := hP'.kq (o2.kq (F := [ga]) (by simp)) (by simp; omega)
      replace b := b'.trans (o2.below (by omega) (A1.lt hA'))
      clear o2 hA' hP' b' hA
      go_wp2_with fail
      refine (rings1 _ ga _ _ _ _ h2).mono ?_
      rintro _ _ ⟨rfl, rfl⟩
      go_wp2_with fail
      refine (ack1 _ ga _ _ _ _ h2 (by simp)).mono ?_
      rintro _ w3 ⟨rfl, hA, o3⟩
      rw [show andn 2 2 = 0 by decide, if_pos rfl] at hA
      rw [show andn 2 2 = 0 by decide, if_pos rfl]
      replace hP := hP.kq (o3.kq (F := [ga]) (by simp)) (by simp; omega)
      replace b := b.trans (o3.below (by omega) (A1.lt h2))
      clear o3 h2
      have hF : ∀ f, f ∈ [ga] → f < w3.heap.size := fun f hf => by
        rw [List.mem_singleton.1 hf]
        exact A1.lt hA
      obtain ⟨hP', o⟩ := say_at (u := 5) hP 0 (by omega) 50 (by omega) true hF
      have hA' := A1.only hA o hgs2 (by simp)
      have b' := b.trans (o.below (B := w.heap.size) (by omega) hP.lt)
      clear hF o
      obtain ⟨A0, c0, s0, s1, s2, -⟩ := hP.first
      have f0 := hP.frozen 0
      have f1 := hP.frozen 1
      have f2 := hP.frozen 2
      have hgl := hP.lt
      go_wp2_with fail
      clear s0 s1 s2 f0 f1 f2 hgl
      refine (look1 [gs, ga] [ga] _ ga gs _ _ _ _ _ hA' (by simp) hP').mono ?_
      rintro _ w4 ⟨rfl, h2, o2⟩
      rw [show ∀ (d : Nat → List Int) (a : Nat → Int) (q : Nat → Bool), whyS ⟨0, 0, 100, 9⟩ ⟨upd d 0 [50], upd a 0 0, upd q 0 true⟩ = 0 from fun d a q => by unfold whyS MS.gd MS.ga MS.gg; simp [isN, upd, whyM], show (2 ||| 0 : Nat) = 2 from rfl] at h2
      replace hP := hP'.kq (o2.kq (F := [ga]) (by simp)) (by simp; omega)
      replace b := b'.trans (o2.below (by omega) (A1.lt hA'))
      clear o2 hA' hP' b' hA
      go_wp2_with fail
      refine (rings1 _ ga _ _ _ _ h2).mono ?_
      rintro _ _ ⟨rfl, rfl⟩
      go_wp2_with fail
      refine (now1 _ ga _ _ _ _ h2).mono ?_
      rintro _ _ ⟨rfl, rfl⟩
      go_wp2_with fail
      refine (ack1 _ ga _ _ _ _ h2 (by simp)).mono ?_
      rintro _ w5 ⟨rfl, hA, o3⟩
      rw [show andn 2 0 = 2 by decide, if_neg (by decide)] at hA
      rw [show andn 2 0 = 2 by decide, if_neg (by decide)]
      replace hP := hP.kq (o3.kq (F := [ga]) (by simp)) (by simp; omega)
      replace b := b.trans (o3.below (by omega) (A1.lt h2))
      clear o3 h2
      go_wp2_with fail
      refine (rings1 _ ga _ _ _ _ hA).mono ?_
      rintro _ _ ⟨rfl, rfl⟩
      go_wp2
      go_roundw
      case rel => exact ⟨k + 1, _, by omega, by go_num, hA, hP, b⟩
      case measure => simp [intOf]; omega
    · obtain rfl : k = N := by omega
      have r1 : decide ((k : Int) < (k : Int)) = false := decide_eq_false (by omega)
      clear hlt
      go_wp2_with fail
      refine (ack_out _ ga _ _ _ _ hA (by simp)).mono ?_
      rintro _ w6 ⟨rfl, h6, o⟩
      replace b := b.trans (o.below (by omega) (A1.lt hA))
      go_wp2_with fail
      refine (known_al _).mono ?_
      rintro _ wk ⟨rfl, bk⟩
      replace bk := b.trans (bk.mono b.size)
      go_wp2
      go_ret
      exact ⟨rfl, bk⟩

/-! ### THE ROW's STEP around the walk. -/
theorem own_alarmAgain : ownKnob Try.prog.godebug = none := by kernel_rfl
theorem laidOut_alarmAgain : laidOutB Try.prog = true := by kernel_rfl
set_option maxRecDepth 100000 in
theorem lifted_alarmAgain (os : Os) (started : os.Started) (H : Type) (enc : TypeId × Value → H) :
    ReturnsInHanded {} Try.checked os 10 .any (Rows.alarmAgainSpec.pre6 enc Try.prog Try.f10 Rows.alarmAgainRow.domain false) (Rows.alarmAgainSpec.post enc Try.prog Try.f10 false true false false) := by
  refine returnsInHanded_of_change (C := Try.checked) own_alarmAgain started (by kernel_rfl) Try.func10
    (ChangeSpec.witness6 (enc := enc) (C := Try.checked) false ⟨#[], #[.int .i64 0], []⟩ 8 (by kernel_rfl) (by kernel_rfl) (by kernel_rfl) (by kernel_rfl)) ?_
  intro W base args ds gs before hval0 hW hcnd _
  have hval : ∀ (j : Nat) t v, Try.f10.params[j]? = some t → args[j]? = some v → Value.okWide Try.prog W .any base t v := hval0
  have hW' := hW
  obtain ⟨p, q, hA0, hV, rfl, hfz, hnd⟩ := hW
  have hA : DataW.TrodAll enc Try.prog W 0 (fun _ => true) true Try.f10.params.toList args.toList ds p := hA0
  rw [Try.params10] at hA hval
  obtain ⟨v0, vs0, d0, ds0, p0, q0, hargs, rfl, rfl, h0, r0⟩ := trodAll_cons hA
  obtain ⟨rfl, rfl, rfl⟩ := trodAll_nil r0
  obtain rfl : args = #[v0] := by cases args; simp_all
  obtain ⟨rfl, rfl⟩ := trodVars_none hV
  obtain ⟨a0, rfl, rfl, rfl, w0⟩ := open_int Try.underlying3 (hval 0 3 v0 rfl rfl) h0
  clear hA0 hval0
  refine (walk_alarmAgain a0 W (bounds_i64 w0)).mono fun e W' ⟨he, bel⟩ => ?_
  subst he
  exact ⟨_, rfl, _, _, _, [], _, [], hW', trodAll_mk1 (shut_bool Try.underlying4 _), (trodAll_cons_mk (shut_int Try.underlying3 w0) trodAll_mk0), rfl, bel.frame _, fun h => by cases h⟩

theorem over_alarmAgain : Rows.alarmAgainRow.holds Try.pinned (OpenSpec.ofChange Rows.alarmAgainSpec) :=
  OpenClaim.holds_of_wide 10 Try.f10 rfl rfl rfl rfl rfl rfl rfl ⟨rfl, rfl, rfl, rfl, rfl⟩ rfl rfl rfl rfl rfl (by kernel_rfl) Try.func10 (by kernel_rfl)
    (of_decide_eq_true (by kernel_rfl)) (by unfold Func.isWrapper; first | (rw [if_pos (by decide +kernel)]; kernel_rfl) | (rw [if_neg (by decide +kernel)]; exact ⟨rfl, rfl⟩))
    (fun os started H enc _ => lifted_alarmAgain os started H enc)

theorem proved_alarmAgain : Rows.AlarmAgainSaid := over_alarmAgain
end Go.Proofs.Ytklphfpgphddpaa
