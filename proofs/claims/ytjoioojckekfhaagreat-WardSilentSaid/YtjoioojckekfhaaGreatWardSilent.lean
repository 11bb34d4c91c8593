/- WardSilent holds: nobody on, nothing said: slots pass, and nobody is heard. For all arguments. -/
import Derived.Test.YtjoioojckekfhaaGreatVB52
namespace Go.Proofs.YtjoioojckekfhaaGreat
open Go.ChangeShapes Go.WideShapes Go.ChangeAt Go.RowKit

theorem WAt.state_ {B : Nat} {P : List Nat} {N x : Nat} {u : WM} {W : World} (h : WAt B P N W x u) (i : Nat) (hi : i < N) : Calls Tryz.prog 17 #[.pointer (some ⟨x, 0, none⟩), .int .i64 (i : Nat)] W fun e w' => e = .returned (.int .i64 ((u.ms i).st : Nat)) ∧ Below W.heap.size W w' := by
  obtain ⟨q, h⟩ := h
  exact wstate_in h i hi
theorem WAt.view_ {B : Nat} {P : List Nat} {N x : Nat} {u : WM} {W : World} (h : WAt B P N W x u) (i : Nat) (hi : i < N) : Calls Tryz.prog 18 #[.pointer (some ⟨x, 0, none⟩), .int .i64 (i : Nat)] W fun e w' => e = .returned (csV (u.ms i).rd (u.ms i).sl (u.ms i).ty.m) ∧ Below W.heap.size W w' := by
  obtain ⟨q, h⟩ := h
  exact wview_in h i hi
/-- Behind so many slots with nobody on. -/
def wq (n j : Nat) : WM := { WM.new (gsmT n 1) (List.replicate n 0) [] with sl := j }
theorem wq_ok (n j : Nat) (h4 : 4 ≤ n) (h8 : n ≤ 8) : WOk n (wq n j) := by
  obtain ⟨a1, a2, a3, a4, a5, a6, a7, a8, a9, a10⟩ := WOk.new n 1 (List.replicate n 0) [] h4 h8 (by omega)
  exact ⟨a1, a2, a3, a4, a5, a6, a7, a8, a9, a10⟩
theorem wq_next (n j : Nat) (h4 : 4 ≤ n) (h8 : n ≤ 8) : (wq n j).slot n = wq n (j + 1) :=
  slot_off (fun _ _ => ⟨rfl, rfl⟩) (wq_ok n j h4 h8) rfl

set_option maxRecDepth 100000 in
set_option maxHeartbeats 4000000 in
theorem core_wardSilent (n k : Int) (w : World) :
    Calls Tryz.prog 8 #[.int .i64 n, .int .i64 k] w fun e w' => e = .returned (.bool true) ∧ Below w.heap.size w w' := by
  by_cases call : 4 ≤ n ∧ n ≤ 8 ∧ 0 ≤ k ∧ k ≤ 50
  case neg =>
    go_enter Tryz.func8, Tryz.ntmps8
    go_wp2
    all_goals first
      | (exfalso; omega)
      | (go_ret; exact ⟨rfl, Below.refl _ _⟩)
      | skip
  obtain ⟨n4, n8, k0, k50⟩ := call
  obtain ⟨N, rfl⟩ : ∃ t : Nat, n = t := ⟨n.toNat, by omega⟩
  obtain ⟨K, rfl⟩ : ∃ t : Nat, k = t := ⟨k.toNat, by omega⟩
  have q1 : decide (((N : Nat) : Int) < 4) = false := decide_eq_false (by omega)
  have q2 : decide ((8 : Int) < ((N : Nat) : Int)) = false := decide_eq_false (by omega)
  have q3 : decide (((K : Nat) : Int) < 0) = false := decide_eq_false (by omega)
  have q4 : decide ((50 : Int) < ((K : Nat) : Int)) = false := decide_eq_false (by omega)
  have N4 : 4 ≤ N := by omega
  have N8 : N ≤ 8 := by omega
  have hs := fun W => Lib.hid (show Calls Tryz.prog 14 #[.int .i64 (N : Nat), .int .i64 1] W fun e w' => ∃ v, e = .returned (.agg #[v, .int .i64 1, .int .i64 10, .int .i64 13]) ∧ OwnsD w' W.heap.size v (gsmL N) ∧ Below W.heap.size W w' from some_wd N 1 (by omega) (by omega) W)
  have hmk : ∀ W : World, (Instr.makeSlice 31 (.int .i64 (N : Nat)) (.int .i64 (N : Nat))).run Tryz.prog W = .ok (.slice (some ⟨W.heap.size, 0, none⟩) N N) (W.alloc (.cells (ics N) 3)) := fun W => run_makeI N (by omega) W
  have hN := fun v dv W (hv : SeesT W W.heap.size v (gsmL N)) (hdv : SeesI W W.heap.size dv (List.replicate N 0)) => Lib.hid (wnew_some N 1 (.slice none 0 0) [] (by omega) (by omega) (by omega) (by simp) (fun k hk => by simp at hk) v dv W hv hdv SeesRs.nil)
  have hI := fun W => Lib.hid (sees_ics N (by omega) W)
  have hKn := fun W => Lib.hid (known_wd W)
  have hQ := fun j => Lib.hid (wq_ok N j N4 N8)
  go_enter Tryz.func8, Tryz.ntmps8
  go_wp2_with fail
  go_region_with (first
    | (go_at_call 14; refine (hs _).out.mono ?_; rintro e w1 ⟨v, rfl, ho, hb1⟩)
    | (go_at_call 13; refine (hN _ _ _ ?_ ?_).out.mono ?_; (focus (first | exact ho.sees | exact (ho.sees.below ((Below.refl _ _).alloc (Nat.le_refl _) _)).more (by simp))); (focus (first | exact (hI w1).out.more (by simp) | exact (((hI w).out.below ((Below.refl _ _).drew)).below (hb1.mono (by simp))).more (by have := hb1.size; simpa using this))); rintro e w2 ⟨x, rfl, hw, hb2⟩; (have hB : Below w.heap.size w w2 := by (first | exact ((Below.refl _ _).drew.trans (hb1.alloc hb1.size _)).trans (hb2.mono (by have := hb1.size; simp; exact Nat.le_succ_of_le this)) | exact ((((Below.refl _ _).alloc (Nat.le_refl _) _).drew).trans (hb1.mono (by simp))).trans (hb2.mono (by have := hb1.size; simp at this; omega)))))
    | fail)
  all_goals
    have hw0 : WAt w.heap.size [] N w2 x (wq N 0) := hw.lower (by first | (have := hb1.size; simp at this ⊢; omega) | (have := hb1.size; simp at this; omega))
    have hB := Lib.hid hB
    have hw0 := Lib.hid hw0
    clear hw hs hN hI ho hb1 hb2 hmk
    go_wp2_with fail
    go_loopw [7] (fun i wr => ∃ j : Nat, j ≤ K ∧ i = .int .i64 j ∧ WAt w.heap.size [] N wr x (wq N j) ∧ Below w.heap.size w wr) (fun i _ => K - (intOf i).toNat)
    case atStart => exact ⟨0, by omega, rfl, hw0.out, hB.out⟩
    case round =>
      clear hw0 hB
      obtain ⟨j, hj, rfl, hW, hB⟩ := hrel
      by_cases hlt : j < K
      · have r1 : decide ((j : Int) < (K : Nat)) = true := by simp; omega
        have hst := wstep_slot hW (hQ j).out (by show j ≤ 1000000; omega)
        rw [wq_next N j N4 N8] at hst
        have hst := Lib.hid hst
        have hB := Lib.hid hB
        clear hW hQ
        go_wp2_with fail
        refine hst.out.mono ?_
        rintro _ w3 ⟨rfl, hw3, b3⟩
        have hB3 := Lib.hid (hB.out.trans b3.b)
        have hw3 := Lib.hid hw3
        clear hst hB b3
        go_wp2_with fail
        go_roundw
        case rel => exact ⟨j + 1, by omega, by go_num, hw3.out, hB3.out⟩
        case measure => simp [intOf]; omega
      · have r1 : decide ((j : Int) < (K : Nat)) = false := by simp; omega
        obtain rfl : j = K := by omega
        have hW := Lib.hid hW
        have hB := Lib.hid hB
        have hs := fun W (h : WAt w.heap.size [] N W x (wq N j)) i hi => Lib.hid (show Calls Tryz.prog 17 #[.pointer (some ⟨x, 0, none⟩), .int .i64 (i : Nat)] W fun e w' => e = .returned (.int .i64 0) ∧ Below W.heap.size W w' from h.state_ i hi)
        have hv := fun W (h : WAt w.heap.size [] N W x (wq N j)) i hi => Lib.hid (show Calls Tryz.prog 18 #[.pointer (some ⟨x, 0, none⟩), .int .i64 (i : Nat)] W fun e w' => e = .returned (.agg #[.int .i64 0, .int .i64 0, .int .i64 0]) ∧ Below W.heap.size W w' from h.view_ i hi)
        have hl := fun W (h : WAt w.heap.size [] N W x (wq N j)) => Lib.hid (show Calls Tryz.prog 26 #[.pointer (some ⟨x, 0, none⟩)] W fun e w' => e = .returned (.int .i64 (j : Nat)) ∧ w' = W from h.slots_)
        clear hQ
        go_wp2_with fail
        go_loopw [8] (fun i wz => ∃ m : Nat, m ≤ N ∧ i = .int .i64 m ∧ WAt w.heap.size [] N wz x (wq N j) ∧ Below w.heap.size w wz) (fun i _ => N - (intOf i).toNat)
        case atStart => exact ⟨0, by omega, rfl, hW.out, hB.out⟩
        case round =>
          clear hW hB
          obtain ⟨m, hm, rfl, hW, hB⟩ := hrel
          by_cases hlm : m < N
          · have r2 : decide ((m : Int) < (N : Nat)) = true := by simp; omega
            have h1 := hs _ hW m hlm
            have hW := Lib.hid hW
            have hB := Lib.hid hB
            clear hl hs
            go_wp2_with fail
            refine h1.out.mono ?_
            rintro _ w4 ⟨rfl, b4⟩
            have hW4 := hW.out.below b4
            have hB4 := Lib.hid (hB.out.trans (b4.mono hB.out.size))
            have h2 := hv _ hW4 m hlm
            have hW4 := Lib.hid hW4
            clear hW hB h1 hv b4
            go_wp2_with fail
            refine h2.out.mono ?_
            rintro _ w5 ⟨rfl, b5⟩
            have hW5 := Lib.hid (hW4.out.below b5)
            have hB5 := Lib.hid (hB4.out.trans (b5.mono hB4.out.size))
            clear hW4 hB4 h2 b5
            go_wp2_with fail
            go_roundw
            case rel => exact ⟨m + 1, by omega, by go_num, hW5.out, hB5.out⟩
            case measure => simp [intOf]; omega
          · have r2 : decide ((m : Int) < (N : Nat)) = false := by simp; omega
            have h1 := hl _ hW
            have h2 := hKn
            have hB := Lib.hid hB
            clear hl hs hv hKn hW
            go_wp2_with fail
            refine h1.out.mono ?_
            rintro _ _ ⟨rfl, rfl⟩
            go_wp2_with fail
            refine (h2 _).out.mono ?_
            rintro _ w6 ⟨rfl, b6⟩
            have hB6 := Lib.hid (hB.out.trans (b6.mono hB.out.size))
            clear hB h1 h2 b6
            go_wp2_with fail
            go_ret
            exact ⟨rfl, hB6.out⟩
theorem walk_wardSilent (n k : Int) (w : World) (_h_n : -9223372036854775808 ≤ n ∧ n ≤ 9223372036854775807) (_h_k : -9223372036854775808 ≤ k ∧ k ≤ 9223372036854775807) :
    Calls Tryz.prog 8 #[.int .i64 n, .int .i64 k] w fun e w' => e = .returned (.bool true) ∧ Below w.heap.size w w' := core_wardSilent n k w

/-! ### THE ROW's STEP around the walk. -/
theorem own_wardSilent : ownKnob Tryz.prog.godebug = none := by kernel_rfl
theorem laidOut_wardSilent : laidOutB Tryz.prog = true := by kernel_rfl
set_option maxRecDepth 100000 in
theorem lifted_wardSilent (os : Os) (started : os.Started) (H : Type) (enc : TypeId × Value → H) :
    ReturnsInHanded {} Tryz.checked os 8 .any (Rows.wardSilentSpec.pre6 enc Tryz.prog Tryz.f8 Rows.wardSilentRow.domain false) (Rows.wardSilentSpec.post enc Tryz.prog Tryz.f8 false true false false) := by
  refine returnsInHanded_of_change (C := Tryz.checked) own_wardSilent started (by kernel_rfl) Tryz.func8
    (ChangeSpec.witness6 (enc := enc) (C := Tryz.checked) false ⟨#[], #[.int .i64 0, .int .i64 0], []⟩ 8 (by kernel_rfl) (by kernel_rfl) (by kernel_rfl) (by kernel_rfl)) ?_
  intro W base args ds gs before hval0 hW hcnd _
  have hval : ∀ (j : Nat) t v, Tryz.f8.params[j]? = some t → args[j]? = some v → Value.okWide Tryz.prog W .any base t v := hval0
  have hW' := hW
  obtain ⟨p, q, hA0, hV, rfl, hfz, hnd⟩ := hW
  have hA : DataW.TrodAll enc Tryz.prog W 0 (fun _ => true) true Tryz.f8.params.toList args.toList ds p := hA0
  rw [Tryz.params8] at hA hval
  obtain ⟨v0, vs0, d0, ds0, p0, q0, hargs, rfl, rfl, h0, r0⟩ := trodAll_cons hA
  obtain ⟨v1, vs1, d1, ds1, p1, q1, rfl, rfl, rfl, h1, r1⟩ := trodAll_cons r0
  obtain ⟨rfl, rfl, rfl⟩ := trodAll_nil r1
  obtain rfl : args = #[v0, v1] := by cases args; simp_all
  obtain ⟨rfl, rfl⟩ := trodVars_none hV
  obtain ⟨a0, rfl, rfl, rfl, w0⟩ := open_int Tryz.underlying3 (hval 0 3 v0 rfl rfl) h0
  obtain ⟨a1, rfl, rfl, rfl, w1⟩ := open_int Tryz.underlying3 (hval 1 3 v1 rfl rfl) h1
  clear hA0 hval0
  refine (walk_wardSilent a0 a1 W (bounds_i64 w0) (bounds_i64 w1)).mono fun e W' ⟨he, bel⟩ => ?_
  subst he
  exact ⟨_, rfl, _, _, _, [], _, [], hW', trodAll_mk1 (shut_bool Tryz.underlying4 _), (trodAll_cons_mk (shut_int Tryz.underlying3 w0) (trodAll_cons_mk (shut_int Tryz.underlying3 w1) trodAll_mk0)), rfl, bel.frame _, fun h => by cases h⟩

theorem over_wardSilent : Rows.wardSilentRow.holds Tryz.pinned (OpenSpec.ofChange Rows.wardSilentSpec) :=
  OpenClaim.holds_of_wide 8 Tryz.f8 rfl rfl rfl rfl rfl rfl rfl ⟨rfl, rfl, rfl, rfl, rfl⟩ rfl rfl rfl rfl rfl (by kernel_rfl) Tryz.func8 (by kernel_rfl)
    (of_decide_eq_true (by kernel_rfl)) (by unfold Func.isWrapper; first | (rw [if_pos (by decide +kernel)]; kernel_rfl) | (rw [if_neg (by decide +kernel)]; exact ⟨rfl, rfl⟩))
    (fun os started H enc _ => lifted_wardSilent os started H enc)

theorem proved_wardSilent : Rows.WardSilentSaid := over_wardSilent
end Go.Proofs.YtjoioojckekfhaaGreat
