/- NodeOff holds: switched off it forgets all but its data, and sends nothing. For all bytes and numbers. -/
import Derived.Test.YtfakibajipmkjaaGreatNB36
namespace Go.Proofs.YtfakibajipmkjaaGreat
open Go.ChangeShapes Go.WideShapes Go.ChangeAt Go.RowKit

theorem of_a : pv.me.sz = 4 ∧ pv.low := by decide +kernel
set_option maxRecDepth 100000 in
set_option maxHeartbeats 2000000 in
theorem core_nodeOff {NAt : List Nat → World → Nat → NM → Prop} (A : NodeApi NAt) (M : NodeMore NAt) (l : List Int) (A0 : Option Addr) (c0 : Nat) (n : Int) (w : World) (hv : SeesL w w.heap.size (.slice A0 l.length c0) l) (hl : bytesL l) :
    Calls Tryz.prog 14 #[.slice A0 l.length c0, .int .i64 n] w fun e w' => e = .returned (.bool true) ∧ Below w.heap.size w w' := by
  by_cases call : l.length ≤ 4 ∧ 1 ≤ n ∧ n ≤ 30
  case neg =>
    go_enter Tryz.func14, Tryz.ntmps14
    go_wp2
    all_goals first
      | (exfalso; omega)
      | (go_ret; exact ⟨rfl, Below.refl _ _⟩)
      | skip
  obtain ⟨k1, k2, k3⟩ := call
  obtain ⟨N, rfl⟩ : ∃ t : Nat, n = t := ⟨n.toNat, by omega⟩
  have d1 : decide ((4 : Int) < ((l.length : Nat) : Int)) = false := decide_eq_false (by omega)
  have d2 : decide (((N : Nat) : Int) < 1) = false := decide_eq_false (by omega)
  have d3 : decide ((30 : Int) < ((N : Nat) : Int)) = false := decide_eq_false (by omega)
  obtain ⟨a1, a2⟩ := of_a
  have e1 : pv.writeE l = 0 := by
    unfold NM.writeE
    rw [a1, if_neg (by omega)]
  obtain ⟨q, hq⟩ : ∃ q : NM, q = (pv.write l).off := ⟨_, rfl⟩
  have q1 : q.sendK = 0 := by
    rw [hq]; rfl
  have q2 : q.sendS = q := by
    rw [hq]; rfl
  have q3 : q.low := by
    rw [hq]
    have e : pv.write l = { pv with da := l } := by unfold NM.write; rw [a1, if_neg (by omega)]
    rw [e]
    exact ⟨(by show (0 : Nat) < 900; omega), (by show (0 : Nat) < 900; omega), a2.2.2⟩
  have q4 : q.take ⟨1, 0, [], [], 0⟩ = q := by rw [hq]; rfl
  have q5 : q.st = 0 := by rw [hq]; rfl
  have q6 : q.rd = 0 ∧ q.sl = 0 ∧ q.ty.m = 0 := by rw [hq]; exact ⟨rfl, rfl, rfl⟩
  have q7 : q.so.ga 0 = -1 ∧ q.so.gd 0 = [] := by rw [hq]; exact ⟨rfl, rfl⟩
  have q8 : q.onE 3 = 0 := by rw [hq]; rfl
  have q9 : (q.on 3).tm = 3 := by rw [hq]; rfl
  have q1 := sent_nil q1
  have Fa := field_a
  go_enter Tryz.func14, Tryz.ntmps14
  go_wp2_with fail
  refine (passive_nd A _).mono ?_
  rintro _ w1 ⟨g, rfl, h, b⟩
  replace h : Nd NAt w.heap.size [] _ g pv := h
  go_wp2_with fail
  refine (M.writeB h ((hv.below b).more b.size) hl).mono ?_
  rintro _ u1 ⟨rfl, h', b'⟩
  replace b := b.trans b'.b
  replace h : Nd NAt w.heap.size [] _ g (pv.write l) := h'
  clear h' b' 
  rw [e1]
  go_wp2_with fail
  refine (M.offB h).mono ?_
  rintro _ u2 ⟨rfl, h', b'⟩
  replace b := b.trans b'.b
  replace h : Nd NAt w.heap.size [] _ g (pv.write l).off := h'
  clear h' b' 
  rw [← hq] at h
  clear hq e1
  go_wp2_with fail
  go_loopw [6] (fun i wr => ∃ k : Nat, k ≤ N ∧ i = .int .i64 k ∧ Nd NAt w.heap.size [] wr g q ∧ Below w.heap.size w wr) (fun i _ => N - (intOf i).toNat)
  case atStart => exact ⟨0, by omega, rfl, h, b⟩
  case round =>
    clear h b
    obtain ⟨k, hk, rfl, h, b⟩ := hrel
    by_cases hlt : k < N
    · have r1 : decide ((k : Int) < (N : Int)) = true := decide_eq_true (by omega)
      go_wp2_with fail
      refine (A.sendB h).mono ?_
      rintro _ u11 ⟨x11, rfl, hx, h', b'⟩
      replace b := b.trans b'.b
      rw [q1] at hx
      rw [q2] at h'
      replace h := h'
      obtain ⟨A11, c11, rfl, -⟩ := hx.at_
      clear h' b' hx
      go_wp2_with fail
      refine (A.takeB ⟨1, 0, [], [], 0⟩ h SeesL.nil (fun x hx => by simp at hx) SeesL.nil (fun x hx => by simp at hx) q3.1 q3.2.1 q3.2.2 (by show _ ≤ (0 : Int) ∧ (0 : Int) ≤ _; omega)).mono ?_
      rintro _ u12 ⟨rfl, h', b'⟩
      replace b := b.trans b'.b
      rw [q4] at h'
      replace h := h'
      clear h' b' 
      go_wp2
      go_roundw
      case rel => exact ⟨k + 1, by omega, by go_num, h, b⟩
      case measure => simp [intOf]; omega
    · obtain rfl : k = N := by omega
      have r1 : decide ((k : Int) < (k : Int)) = false := decide_eq_false (by omega)
      go_wp2_with fail
      refine (A.stateB h).mono ?_
      rintro _ u21 ⟨rfl, h', b'⟩
      replace b := b.trans b'.b
      replace h : Nd NAt w.heap.size [] _ g q := h'
      clear h' b' 
      rw [q5]
      go_wp2_with fail
      refine (A.viewB h).mono ?_
      rintro _ u22 ⟨rfl, h', b'⟩
      replace b := b.trans b'.b
      replace h : Nd NAt w.heap.size [] _ g q := h'
      clear h' b' 
      rw [q6.1, q6.2.1, q6.2.2]
      unfold csV
      go_wp2_with fail
      refine (M.readB A 0 h).mono ?_
      rintro _ wr ⟨vr, rfl, sr, -, h', b'⟩
      replace b := b.trans b'.b
      replace h := h'
      rw [q7.2] at sr
      rw [q7.1]
      obtain ⟨Ar, cr, rfl, -⟩ := sr.at_
      clear h' b' sr
      go_wp2_with fail
      refine (A.onB 3 h).mono ?_
      rintro _ u23 ⟨rfl, h', b'⟩
      replace b := b.trans b'.b
      replace h : Nd NAt w.heap.size [] _ g (q.on 3) := h'
      clear h' b' 
      rw [q8]
      go_wp2_with fail
      refine (A.clockB h).mono ?_
      rintro _ u24 ⟨rfl, h', b'⟩
      replace b := b.trans b'.b
      replace h : Nd NAt w.heap.size [] _ g (q.on 3) := h'
      clear h' b' 
      rw [q9]
      go_wp2_with fail
      refine (known_nd A _).mono ?_
      rintro _ wk ⟨rfl, bk⟩
      replace bk := b.trans (bk.mono b.size)
      go_wp2
      go_ret
      exact ⟨rfl, bk⟩
set_option maxRecDepth 100000 in
set_option maxHeartbeats 2000000 in
theorem gwalk_nodeOff {NAt : List Nat → World → Nat → NM → Prop} (A : NodeApi NAt) (M : NodeMore NAt) (A0 : Option Addr) (m c : Nat) (z : Nat → Int) (n : Int) (w : World) (s : InBytesN w A0 m c z) (_h : -9223372036854775808 ≤ n ∧ n ≤ 9223372036854775807) :
    Calls Tryz.prog 14 #[.slice A0 m c, .int .i64 n] w fun e w' => e = .returned (.bool true) ∧ Below w.heap.size w w' := by
  obtain ⟨hv, hl⟩ := s.list
  have e := lst_length z m
  generalize lst z m = l at *
  subst e
  exact core_nodeOff A M l A0 c n w hv hl
/-- Of the node that is there. -/
theorem walk_nodeOff (A0 : Option Addr) (m c : Nat) (z : Nat → Int) (n : Int) (w : World) (s : InBytesN w A0 m c z) (_h_n : -9223372036854775808 ≤ n ∧ n ≤ 9223372036854775807) :
    Calls Tryz.prog 14 #[.slice A0 m c, .int .i64 n] w fun e w' => e = .returned (.bool true) ∧ Below w.heap.size w w' := gwalk_nodeOff nodeApi nodeMore A0 m c z n w s _h_n

/-! ### THE ROW's STEP around the walk. -/
theorem own_nodeOff : ownKnob Tryz.prog.godebug = none := by kernel_rfl
theorem laidOut_nodeOff : laidOutB Tryz.prog = true := by kernel_rfl
set_option maxRecDepth 100000 in
theorem lifted_nodeOff (os : Os) (started : os.Started) (H : Type) (enc : TypeId × Value → H) :
    ReturnsInHanded {} Tryz.checked os 14 .any (Rows.nodeOffSpec.pre6 enc Tryz.prog Tryz.f14 Rows.nodeOffRow.domain false) (Rows.nodeOffSpec.post enc Tryz.prog Tryz.f14 false true false false) := by
  refine returnsInHanded_of_change_sized (C := Tryz.checked) own_nodeOff started (by kernel_rfl) Tryz.func14
    (ChangeSpec.witness6 (enc := enc) (C := Tryz.checked) false ⟨#[], #[.slice none 0 0, .int .i64 0], []⟩ 8 (by kernel_rfl) (by kernel_rfl) (by kernel_rfl) (by kernel_rfl)) ?_
  intro W base args ds gs before hval0 hW hcnd hsz0 _
  have hval : ∀ (j : Nat) t v, Tryz.f14.params[j]? = some t → args[j]? = some v → Value.okWide Tryz.prog W .any base t v := hval0
  have hW' := hW
  obtain ⟨p, q, hA0, hV, rfl, hfz, hnd⟩ := hW
  have hA : DataW.TrodAll enc Tryz.prog W 0 (fun _ => true) true Tryz.f14.params.toList args.toList ds p := hA0
  have hsz : (DataW.weightsEach Tryz.prog (Tryz.f14.params.toList ++ Rows.nodeOffSpec.plain.varTypes Tryz.prog) (ds ++ gs)).all (· ≤ reachBytes) = true := hsz0
  rw [Tryz.params14] at hA hval hsz
  obtain ⟨v0, vs0, d0, ds0, p0, q0, hargs, rfl, rfl, h0, r0⟩ := trodAll_cons hA
  obtain ⟨v1, vs1, d1, ds1, p1, q1, rfl, rfl, rfl, h1, r1⟩ := trodAll_cons r0
  obtain ⟨rfl, rfl, rfl⟩ := trodAll_nil r1
  obtain rfl : args = #[v0, v1] := by cases args; simp_all
  obtain ⟨rfl, rfl⟩ := trodVars_none hV
  obtain ⟨A0, n0, c0, rfl⟩ := okWide_slice Tryz.underlying37 (hval 0 37 v0 rfl rfl)
  have k0 := h0
  have lt0 : ∀ x ∈ p0, x.block < W.heap.size := by obtain ⟨m, hm⟩ := k0; exact DataW.trod_lt m _ _ _ hm
  obtain ⟨z0, s0⟩ := sees_bytesn Tryz.underlying37 Tryz.underlying5 (by kernel_rfl) h0 (by kernel_rfl) (fun _ _ hd => sized_slice hsz (j := 0) (t := 37) (e := 5) rfl (congrArg some hd) Tryz.underlying37)
  obtain ⟨a1, rfl, rfl, rfl, w1⟩ := open_int Tryz.underlying3 (hval 1 3 v1 rfl rfl) h1
  clear hA0 hval0
  refine (walk_nodeOff A0 n0 c0 z0 a1 W s0 (bounds_i64 w1)).mono fun e W' ⟨he, bel⟩ => ?_
  subst he
  exact ⟨_, rfl, _, _, _, [], _, [], hW', trodAll_mk1 (shut_bool Tryz.underlying4 _), (trodAll_cons_mk (Below.trod laidOut_nodeOff (by kernel_rfl) (of_decide_eq_true (by kernel_rfl)) k0 bel lt0) (trodAll_cons_mk (shut_int Tryz.underlying3 w1) trodAll_mk0)), rfl, bel.frame _, fun h => by cases h⟩

theorem over_nodeOff : Rows.nodeOffRow.holds Tryz.pinned (OpenSpec.ofChange Rows.nodeOffSpec) :=
  OpenClaim.holds_of_wide 14 Tryz.f14 rfl rfl rfl rfl rfl rfl rfl ⟨rfl, rfl, rfl, rfl, rfl⟩ rfl rfl rfl rfl rfl (by kernel_rfl) Tryz.func14 (by kernel_rfl)
    (of_decide_eq_true (by kernel_rfl)) (by unfold Func.isWrapper; first | (rw [if_pos (by decide +kernel)]; kernel_rfl) | (rw [if_neg (by decide +kernel)]; exact ⟨rfl, rfl⟩))
    (fun os started H enc _ => lifted_nodeOff os started H enc)

theorem proved_nodeOff : Rows.NodeOffSaid := over_nodeOff
end Go.Proofs.YtfakibajipmkjaaGreat
