/- NodeState holds: a frame of another round, or other members, is not right. For all numbers. -/
import Derived.Test.YtfakibajipmkjaaGreatNB36
namespace Go.Proofs.YtfakibajipmkjaaGreat
open Go.ChangeShapes Go.WideShapes Go.ChangeAt Go.RowKit

def ns0 : NM := pv.sendS
def ns1 : NM := ns0.take ⟨0, 0, [], [], 0⟩
def ns2 : NM := ns1.sendS
theorem ns_a : pv.sendK ≠ 0 ∧ ns0.low ∧ ns1.sendK = 0 ∧ ns2.low ∧ (ns2.st ≠ 0 ∧ ns2.st ≠ 5 ∧ ns2.st ≠ 1) ∧ ns2.sl ≠ ns2.i ∧ ns2.sl = 2 ∧ ns2.rd = 0 ∧ ins ns2.ty.m 2 = 7 ∧ nxS ns2.t.ns.length ns2.sl ≠ 0 := by decide +kernel
theorem ns_b : (ns2.ty.right ns2.sl).m = 7 ∧ ((ns2.so.put ns2.sl []).member ns2.sl (isB (ns2.ty.right ns2.sl).m ns2.sl)).gg 2 = true ∧ (ns2.ty.wrong ns2.sl).m = 3 ∧ (ns2.so.member ns2.sl (isB (ns2.ty.wrong ns2.sl).m ns2.sl)).gg 2 = false := by decide +kernel
theorem ns_own : ns2.own = ⟨0, 2, 7⟩ := by
  obtain ⟨-, -, -, -, -, -, e1, e2, e4, -⟩ := ns_a
  unfold NM.own
  rw [e1, e2, e4]
  rfl
/-- A frame that tells a state, of node 2. -/
theorem told_right (k r m : Int) (d : List Int) (hk : 2 ≤ k ∧ k ≤ 3) (hr : 0 ≤ r ∧ r ≤ 65535) (hm : 0 ≤ m ∧ m ≤ 255) (hd : d.length ≤ 8) : (⟨k, ⟨r, 2, m⟩, d⟩ : Fr.F).is = true ∧ (ns2.isRight (⟨k, ⟨r, 2, m⟩, d⟩ : Fr.F).bytes ↔ k = 2 ∧ r = 0 ∧ m = 7) ∧ (Fr.res (⟨k, ⟨r, 2, m⟩, d⟩ : Fr.F).bytes ns2.own).d = d := by
  have hs : (⟨r, 2, m⟩ : Fr.St).may = true := by
    rw [Fr.St.may_iff]
    exact ⟨hr, ⟨by show (0 : Int) ≤ 2; omega, by show (2 : Int) < 8; omega⟩, hm⟩
  have hi : (⟨k, ⟨r, 2, m⟩, d⟩ : Fr.F).is = true := by
    rw [Fr.F.is_iff]
    exact ⟨⟨by show (1 : Int) ≤ k; omega, by show k ≤ 3; omega⟩, hs, hd⟩
  have h1 : ¬ k = 1 := by omega
  obtain ⟨b1, b2, b3⟩ := Fr.back hi ns2.own (by rw [ns_own]; decide)
  have b3 : Fr.sumB (⟨k, ⟨r, 2, m⟩, d⟩ : Fr.F).bytes ns2.own = true := b3.2 (fun h => absurd h h1)
  refine ⟨hi, ?_, ?_⟩
  · unfold NM.isRight Fr.err Fr.res
    rw [b1, b3, b2, ns_own]
    simp only [Bool.and_self, if_true]
    rw [if_neg h1]
    constructor
    · rintro ⟨-, h2, h⟩
      simp at h
      exact ⟨by omega, h.1, h.2⟩
    · rintro ⟨rfl, rfl, rfl⟩
      exact ⟨trivial, by decide, rfl⟩
  · unfold Fr.res
    rw [b1, b3, b2]
    rfl
theorem right_x (s : NM) (L : List Int) (o : Int) : s.rightL ⟨2, 0, L, [], o⟩ = if s.isRight L then some L else none := by
  unfold NM.rightL NM.rows
  by_cases h : s.isRight L <;> simp [h]
set_option maxRecDepth 100000 in
set_option maxHeartbeats 2000000 in
theorem gwalk_nodeState {NAt : List Nat → World → Nat → NM → Prop} (A : NodeApi NAt) (M : NodeMore NAt) (r m : Int) (w : World) (_h1 : -9223372036854775808 ≤ r ∧ r ≤ 9223372036854775807) (_h2 : -9223372036854775808 ≤ m ∧ m ≤ 9223372036854775807) :
    Calls Tryz.prog 13 #[.int .i64 r, .int .i64 m] w fun e w' => e = .returned (.bool true) ∧ Below w.heap.size w w' := by
  by_cases call : 0 ≤ r ∧ r ≤ 65535 ∧ 0 ≤ m ∧ m ≤ 255
  case neg =>
    go_enter Tryz.func13, Tryz.ntmps13
    go_wp2
    all_goals first
      | (exfalso; omega)
      | (go_ret; exact ⟨rfl, Below.refl _ _⟩)
      | skip
  obtain ⟨k1, k2, k3, k4⟩ := call
  have d1 : decide (r < 0) = false := decide_eq_false (by omega)
  have d2 : decide ((65535 : Int) < r) = false := decide_eq_false (by omega)
  have d3 : decide (m < 0) = false := decide_eq_false (by omega)
  have d4 : decide ((255 : Int) < m) = false := decide_eq_false (by omega)
  obtain ⟨a1, a2, a3, a4, a5, a6, a7, a8, a10, a11⟩ := ns_a
  obtain ⟨b1, b2, b3, b4⟩ := ns_b
  obtain ⟨hi, hR, hres⟩ := told_right 2 r m [] (by omega) ⟨k1, k2⟩ ⟨k3, k4⟩ (by simp)
  have hd : bytesL (⟨2, ⟨r, 2, m⟩, []⟩ : Fr.F).bytes := Fr.F.bytes_ok hi (fun x hx => by simp at hx)
  have q0 := sent_pos a1
  have q1 := sent_nil a3
  have Fm := field_m
  have Fg := field_g
  have HE := fun W => Lib.hid (encode_ref ⟨2, ⟨r, 2, m⟩, []⟩ (.slice none 0 0) W SeesL.nil (fun x hx => by simp at hx))
  unfold Enc at HE
  have i1 := (encR_ok hi).1
  have i2 := (encR_ok hi).2
  rw [i1, i2] at HE
  clear i1 i2
  generalize (⟨2, ⟨r, 2, m⟩, []⟩ : Fr.F).bytes = L at *
  have T1 : (ns2.take ⟨2, 0, L, [], 0⟩).ty.m = (if r = 0 ∧ m = 7 then 7 else 3) ∧ (ns2.take ⟨2, 0, L, [], 0⟩).so.gg 2 = decide (r = 0 ∧ m = 7) := by
    have hr := right_x ns2 L 0
    by_cases c : r = 0 ∧ m = 7
    · rw [if_pos (hR.2 ⟨rfl, c⟩)] at hr
      rw [if_pos c, decide_eq_true c, NM.take_right ns2 _ L a5 a6 hr, NM.goOn_took ns2 _ _ _ a11, hres]
      exact ⟨b1, b2⟩
    · rw [if_neg (fun h => c (hR.1 h).2)] at hr
      rw [if_neg c, decide_eq_false c, NM.take_wrong ns2 _ a5 a6 hr (by simp), NM.goOn_took ns2 _ _ _ a11]
      exact ⟨b3, b4⟩
  obtain ⟨T1, T2⟩ := T1
  clear hi hR hres
  go_enter Tryz.func13, Tryz.ntmps13
  go_wp2_with fail
  refine (passive_nd A _).mono ?_
  rintro _ w1 ⟨g, rfl, h, b⟩
  replace h : Nd NAt w.heap.size [] _ g pv := h
  go_wp2_with fail
  refine (A.sendB h).mono ?_
  rintro _ u1 ⟨x1, rfl, hx, h', b'⟩
  replace b := b.trans b'.b
  replace h : Nd NAt w.heap.size [] _ g ns0 := h'
  clear h' b' 
  obtain ⟨A2, c2', rfl, -⟩ := hx.at_
  have z0 : (((pv.sent.length : Nat) : Int) == 0) = false := by rw [beq_eq_false_iff_ne]; omega
  clear hx
  generalize pv.sent.length = len2 at *
  go_wp2_with fail
  refine (A.silentB h a2.1 a2.2.1 a2.2.2).mono ?_
  rintro _ u2 ⟨rfl, h', b'⟩
  replace b := b.trans b'.b
  replace h : Nd NAt w.heap.size [] _ g ns1 := h'
  clear h' b' 
  go_wp2_with fail
  refine (HE _).out.mono ?_
  rintro _ w4 ⟨v4, rfl, ho4, b4⟩
  have h4 := A.ndOwn h b4 ho4
  replace b := b.trans (b4.mono b.size)
  replace h := h4
  clear HE h4 b4
  have hs4 := ho4.sees
  have hj : ∀ j, v4.ownBlock = some j → j ∈ v4.ownBlock.toList ++ [] ∨ j < w.heap.size := fun j hj => .inl (by simp [hj])
  generalize v4.ownBlock.toList ++ [] = P at *
  clear ho4
  obtain ⟨A4, c4, rfl, -⟩ := hs4.at_
  have hs := Lib.hid hs4
  clear hs4
  go_wp2_with fail
  refine (A.sendB h).mono ?_
  rintro _ u5 ⟨x1, rfl, hx, h', b'⟩
  replace b := b.trans b'.b
  have hs := Lib.hid (b'.sees hs.out hj)
  replace h : Nd NAt w.heap.size P _ g ns2 := h'
  rw [q1] at hx
  obtain ⟨A1, c1', rfl, -⟩ := hx.at_
  clear h' b' hx
  have hT := fun W (h : Nd NAt w.heap.size P W g ns2) (hs : SeesL W W.heap.size (.slice A4 L.length c4) L) => Lib.hid (A.takeB ⟨2, 0, L, [], 0⟩ h hs hd SeesL.nil (fun x hx => by simp at hx) a4.1 a4.2.1 a4.2.2 (by show _ ≤ (0 : Int) ∧ (0 : Int) ≤ _; omega))
  go_wp2_with fail
  refine (hT _ h hs.out).out.mono ?_
  rintro _ u6 ⟨rfl, h', b'⟩
  replace b := b.trans b'.b
  replace h := h'
  clear h' b' hs hT hd hj
  generalize ns2.take ⟨2, 0, L, [], 0⟩ = fin at *
  by_cases c : r = 0 ∧ m = 7
  · rw [if_pos c] at T1
    rw [decide_eq_true c] at T2
    obtain ⟨rfl, rfl⟩ := c
    go_wp2_with fail
    refine (A.viewB h).mono ?_
    rintro _ u21 ⟨rfl, h', b'⟩
    replace b := b.trans b'.b
    replace h : Nd NAt w.heap.size P _ g fin := h'
    clear h' b' 
    rw [T1]
    unfold csV
    go_wp2_with fail
    refine (M.readB A 2 h).mono ?_
    rintro _ wr ⟨vr, rfl, sr, -, h', b'⟩
    replace b := b.trans b'.b
    replace h := h'
    rw [T2]
    obtain ⟨Ar, cr, rfl, -⟩ := sr.at_
    clear h' b' sr
    go_wp2_with fail
    refine (known_nd A _).mono ?_
    rintro _ wk ⟨rfl, bk⟩
    replace bk := b.trans (bk.mono b.size)
    go_wp2
    go_ret
    exact ⟨rfl, bk⟩
  · rw [if_neg c] at T1
    rw [decide_eq_false c] at T2
    have z1 : (r == 0) = decide (r = 0) := by by_cases h : r = 0 <;> simp [h]
    have z2 : (m == 7) = decide (m = 7) := by by_cases h : m = 7 <;> simp [h]
    by_cases c0 : r = 0
    · have c1 : ¬ m = 7 := fun h => c ⟨c0, h⟩
      have z3 : (r == 0) = true := by simp [c0]
      have z4 : (m == 7) = false := by simp [c1]
      clear z1 z2
      go_wp2_with fail
      refine (A.viewB h).mono ?_
      rintro _ u21 ⟨rfl, h', b'⟩
      replace b := b.trans b'.b
      replace h : Nd NAt w.heap.size P _ g fin := h'
      clear h' b' 
      rw [T1]
      unfold csV
      go_wp2_with fail
      refine (M.readB A 2 h).mono ?_
      rintro _ wr ⟨vr, rfl, sr, -, h', b'⟩
      replace b := b.trans b'.b
      replace h := h'
      rw [T2]
      obtain ⟨Ar, cr, rfl, -⟩ := sr.at_
      clear h' b' sr
      go_wp2_with fail
      refine (known_nd A _).mono ?_
      rintro _ wk ⟨rfl, bk⟩
      replace bk := b.trans (bk.mono b.size)
      go_wp2
      go_ret
      exact ⟨rfl, bk⟩
    · have z3 : (r == 0) = false := by simp [c0]
      clear z1 z2
      go_wp2_with fail
      refine (A.viewB h).mono ?_
      rintro _ u21 ⟨rfl, h', b'⟩
      replace b := b.trans b'.b
      replace h : Nd NAt w.heap.size P _ g fin := h'
      clear h' b' 
      rw [T1]
      unfold csV
      go_wp2_with fail
      refine (M.readB A 2 h).mono ?_
      rintro _ wr ⟨vr, rfl, sr, -, h', b'⟩
      replace b := b.trans b'.b
      replace h := h'
      rw [T2]
      obtain ⟨Ar, cr, rfl, -⟩ := sr.at_
      clear h' b' sr
      go_wp2_with fail
      refine (known_nd A _).mono ?_
      rintro _ wk ⟨rfl, bk⟩
      replace bk := b.trans (bk.mono b.size)
      go_wp2
      go_ret
      exact ⟨rfl, bk⟩
/-- Of the node that is there. -/
theorem walk_nodeState (r m : Int) (w : World) (_h_r : -9223372036854775808 ≤ r ∧ r ≤ 9223372036854775807) (_h_m : -9223372036854775808 ≤ m ∧ m ≤ 9223372036854775807) :
    Calls Tryz.prog 13 #[.int .i64 r, .int .i64 m] w fun e w' => e = .returned (.bool true) ∧ Below w.heap.size w w' := gwalk_nodeState nodeApi nodeMore r m w _h_r _h_m

/-! ### THE ROW's STEP around the walk. -/
theorem own_nodeState : ownKnob Tryz.prog.godebug = none := by kernel_rfl
theorem laidOut_nodeState : laidOutB Tryz.prog = true := by kernel_rfl
set_option maxRecDepth 100000 in
theorem lifted_nodeState (os : Os) (started : os.Started) (H : Type) (enc : TypeId × Value → H) :
    ReturnsInHanded {} Tryz.checked os 13 .any (Rows.nodeStateSpec.pre6 enc Tryz.prog Tryz.f13 Rows.nodeStateRow.domain false) (Rows.nodeStateSpec.post enc Tryz.prog Tryz.f13 false true false false) := by
  refine returnsInHanded_of_change (C := Tryz.checked) own_nodeState started (by kernel_rfl) Tryz.func13
    (ChangeSpec.witness6 (enc := enc) (C := Tryz.checked) false ⟨#[], #[.int .i64 0, .int .i64 0], []⟩ 8 (by kernel_rfl) (by kernel_rfl) (by kernel_rfl) (by kernel_rfl)) ?_
  intro W base args ds gs before hval0 hW hcnd _
  have hval : ∀ (j : Nat) t v, Tryz.f13.params[j]? = some t → args[j]? = some v → Value.okWide Tryz.prog W .any base t v := hval0
  have hW' := hW
  obtain ⟨p, q, hA0, hV, rfl, hfz, hnd⟩ := hW
  have hA : DataW.TrodAll enc Tryz.prog W 0 (fun _ => true) true Tryz.f13.params.toList args.toList ds p := hA0
  rw [Tryz.params13] at hA hval
  obtain ⟨v0, vs0, d0, ds0, p0, q0, hargs, rfl, rfl, h0, r0⟩ := trodAll_cons hA
  obtain ⟨v1, vs1, d1, ds1, p1, q1, rfl, rfl, rfl, h1, r1⟩ := trodAll_cons r0
  obtain ⟨rfl, rfl, rfl⟩ := trodAll_nil r1
  obtain rfl : args = #[v0, v1] := by cases args; simp_all
  obtain ⟨rfl, rfl⟩ := trodVars_none hV
  obtain ⟨a0, rfl, rfl, rfl, w0⟩ := open_int Tryz.underlying3 (hval 0 3 v0 rfl rfl) h0
  obtain ⟨a1, rfl, rfl, rfl, w1⟩ := open_int Tryz.underlying3 (hval 1 3 v1 rfl rfl) h1
  clear hA0 hval0
  refine (walk_nodeState a0 a1 W (bounds_i64 w0) (bounds_i64 w1)).mono fun e W' ⟨he, bel⟩ => ?_
  subst he
  exact ⟨_, rfl, _, _, _, [], _, [], hW', trodAll_mk1 (shut_bool Tryz.underlying4 _), (trodAll_cons_mk (shut_int Tryz.underlying3 w0) (trodAll_cons_mk (shut_int Tryz.underlying3 w1) trodAll_mk0)), rfl, bel.frame _, fun h => by cases h⟩

theorem over_nodeState : Rows.nodeStateRow.holds Tryz.pinned (OpenSpec.ofChange Rows.nodeStateSpec) :=
  OpenClaim.holds_of_wide 13 Tryz.f13 rfl rfl rfl rfl rfl rfl rfl ⟨rfl, rfl, rfl, rfl, rfl⟩ rfl rfl rfl rfl rfl (by kernel_rfl) Tryz.func13 (by kernel_rfl)
    (of_decide_eq_true (by kernel_rfl)) (by unfold Func.isWrapper; first | (rw [if_pos (by decide +kernel)]; kernel_rfl) | (rw [if_neg (by decide +kernel)]; exact ⟨rfl, rfl⟩))
    (fun os started H enc _ => lifted_nodeState os started H enc)

theorem proved_nodeState : Rows.NodeStateSaid := over_nodeState
end Go.Proofs.YtfakibajipmkjaaGreat
