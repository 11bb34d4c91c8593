/- NodeActive holds: in its own slot it tells its state, and is a member. For all bytes. -/
import Derived.Test.YtfakibajipmkjaaGreatNB38
namespace Go.Proofs.YtfakibajipmkjaaGreat
open Go.ChangeShapes Go.WideShapes Go.ChangeAt Go.RowKit

theorem enter_da (s : NM) (l : List Int) : ({ s with da := l } : NM).enter = { s.enter with da := l } := by
  have ea : ({ s with da := l } : NM).alone ↔ s.alone := Iff.rfl
  have ec : ({ s with da := l } : NM).clique ↔ s.clique := Iff.rfl
  unfold NM.enter
  simp only [ea, ec]
  (repeat' split) <;> rfl
theorem frm_da (s : NM) (l : List Int) (k : Int) : ({ s with da := l } : NM).frm k = ⟨k, s.view, l⟩ := rfl
theorem sendK_da (s : NM) (l : List Int) : ({ s with da := l } : NM).sendK = s.sendK := by
  unfold NM.sendK
  rw [enter_da]
  rfl
theorem sendS_da (s : NM) (l : List Int) : ({ s with da := l } : NM).sendS = { s.sendS with da := l } := by
  unfold NM.sendS
  rw [enter_da]
  have e : ({ s with da := l } : NM).me = s.me := rfl
  rw [e]
  simp only
  (repeat' split) <;> rfl
theorem na_a : pv.me.sz = 4 ∧ pv.sendK = 2 ∧ pv.sendS.st = 4 ∧ pv.sendS.rd = 0 ∧ pv.sendS.sl = 1 ∧ pv.sendS.ty.m = 3 := by decide +kernel
theorem na_view : pv.sendS.view = ⟨0, 1, 3⟩ := by
  obtain ⟨-, -, -, e1, e2, e3⟩ := na_a
  unfold NM.view
  rw [e1, e2, e3]
  rfl
theorem na_sent (l : List Int) : ({ pv with da := l } : NM).sent = (⟨2, ⟨0, 1, 3⟩, l⟩ : Fr.F).bytes := by
  unfold NM.sent
  rw [sendK_da, sendS_da, na_a.2.1, if_neg (by decide)]
  rw [frm_da, na_view]
theorem na_back (l : List Int) (h : l.length ≤ 8) : (⟨2, ⟨0, 1, 3⟩, l⟩ : Fr.F).is = true ∧ Fr.res (⟨2, ⟨0, 1, 3⟩, l⟩ : Fr.F).bytes ⟨0, 0, 0⟩ = ⟨2, ⟨0, 1, 3⟩, l⟩ ∧ Fr.err (⟨2, ⟨0, 1, 3⟩, l⟩ : Fr.F).bytes ⟨0, 0, 0⟩ = 0 := by
  have hi : (⟨2, ⟨0, 1, 3⟩, l⟩ : Fr.F).is = true := by
    rw [Fr.F.is_iff]
    exact ⟨⟨by show (1 : Int) ≤ 2; omega, by show (2 : Int) ≤ 3; omega⟩, by show (⟨0, 1, 3⟩ : Fr.St).may = true; decide, h⟩
  obtain ⟨b1, b2, b3⟩ := Fr.back hi ⟨0, 0, 0⟩ (by decide)
  have b3 : Fr.sumB (⟨2, ⟨0, 1, 3⟩, l⟩ : Fr.F).bytes ⟨0, 0, 0⟩ = true := b3.2 (fun h => absurd h (by show ¬ (2 : Int) = 1; omega))
  refine ⟨hi, ?_, ?_⟩
  · unfold Fr.res
    rw [b1, b3, b2]
    rfl
  · unfold Fr.err
    rw [b1, b3]
    rfl
set_option maxRecDepth 100000 in
set_option maxHeartbeats 2000000 in
theorem gcore_nodeActive {NAt : List Nat → World → Nat → NM → Prop} (A : NodeApi NAt) (M : NodeMore NAt) (l : List Int) (A0 : Option Addr) (c0 : Nat) (w : World) (hv : SeesL w w.heap.size (.slice A0 l.length c0) l) (hl : bytesL l) :
    Calls Tryz.prog 11 #[.slice A0 l.length c0] w fun e w' => e = .returned (.bool true) ∧ Below w.heap.size w w' := by
  by_cases call : l.length ≤ 4
  case neg =>
    have d1 : decide ((4 : Int) < ((l.length : Nat) : Int)) = true := decide_eq_true (by omega)
    clear hv
    go_enter Tryz.func11, Tryz.ntmps11
    go_wp2
    go_ret
    exact ⟨rfl, Below.refl _ _⟩
  have d1 : decide ((4 : Int) < ((l.length : Nat) : Int)) = false := decide_eq_false (by omega)
  obtain ⟨a1, a2, a3, a4, a5, a6⟩ := na_a
  have e1 : pv.writeE l = 0 := by
    unfold NM.writeE
    rw [a1, if_neg (by omega)]
  have e2 : pv.write l = { pv with da := l } := by unfold NM.write; rw [a1, if_neg (by omega)]
  obtain ⟨n1, n2, n3⟩ := na_back l (by omega)
  have n4 : bytesL (⟨2, ⟨0, 1, 3⟩, l⟩ : Fr.F).bytes := Fr.F.bytes_ok n1 hl
  have n5 := na_sent l
  have n6 := sendS_da pv l
  clear n1
  go_enter Tryz.func11, Tryz.ntmps11
  go_wp2_with fail
  refine (passive_nd A _).mono ?_
  rintro _ w1 ⟨g, rfl, h, b⟩
  replace h : Nd NAt w.heap.size [] _ g pv := h
  go_wp2_with fail
  refine (M.writeB h ((hv.below b).more b.size) hl).mono ?_
  rintro _ u1 ⟨rfl, h', b'⟩
  replace b := b.trans b'.b
  rw [e2] at h'
  replace h := h'
  clear h' b' 
  rw [e1]
  go_wp2_with fail
  refine (A.sendB h).mono ?_
  rintro _ u2 ⟨x2, rfl, hx, h', b'⟩
  replace b := b.trans b'.b
  rw [n5] at hx
  rw [n6] at h'
  replace h := h'
  clear h' b' n5 n6 e2
  have HD := fun W (hx : SeesL W W.heap.size x2 (⟨2, ⟨0, 1, 3⟩, l⟩ : Fr.F).bytes) => Lib.hid (decode_ref x2 _ ⟨0, 0, 0⟩ W hx n4)
  unfold Dec at HD
  rw [n2, n3] at HD
  go_wp2_with fail
  refine (HD _ hx).out.mono ?_
  rintro _ w3 ⟨v3, rfl, ho3, b3⟩
  have h3 := A.ndOwn h b3 ho3
  replace b := b.trans (b3.mono b.size)
  replace h := h3
  have hs3 := ho3.sees
  have hj : ∀ j, v3.ownBlock = some j → j ∈ v3.ownBlock.toList ++ [] ∨ j < w.heap.size := fun j hj => .inl (by simp [hj])
  generalize v3.ownBlock.toList ++ [] = P at *
  clear h3 b3 ho3 hx HD n2 n3 n4
  have hs3 : SeesL _ _ v3 l := hs3
  obtain ⟨A3, c3, rfl, -⟩ := hs3.at_
  have HB := fun W (h : Nd NAt w.heap.size P W g { pv.sendS with da := l }) => A.ndBox h (.cells #[.int .i64 2, .int .i64 0, .int .i64 1, .int .i64 3, .slice A3 l.length c3] 62)
  have hs := Lib.hid (hs3.alloc (.cells #[.int .i64 2, .int .i64 0, .int .i64 1, .int .i64 3, .slice A3 l.length c3] 62))
  clear hs3
  unfold frV
  go_wp2_with fail
  replace h := HB _ h
  have hBx := Blk.new w3 w3.heap.size rfl #[.int .i64 2, .int .i64 0, .int .i64 1, .int .i64 3, .slice A3 l.length c3] 62
  replace b := b.alloc b.size (.cells #[.int .i64 2, .int .i64 0, .int .i64 1, .int .i64 3, .slice A3 l.length c3] 62)
  have hs := Lib.hid ((hs.out).more (B' := (w3.alloc (.cells #[.int .i64 2, .int .i64 0, .int .i64 1, .int .i64 3, .slice A3 l.length c3] 62)).heap.size) (by simp))
  have hj : ∀ j, (Value.slice A3 l.length c3).ownBlock = some j → j ∈ w3.heap.size :: P ∨ j < w.heap.size := fun j h => (hj j h).elim (fun h => .inl (List.mem_cons_of_mem _ h)) .inr
  refine (A.viewB h).mono ?_
  rintro _ u4 ⟨rfl, h', b'⟩
  replace b := b.trans b'.b
  replace hBx := b'.blk (by simp) hBx
  have hs := b'.sees hs.out hj
  replace h := h'
  rw [a4, a5, a6]
  unfold csV
  have R1 := run_textL (hs.alloc (.cells #[.int .i64 0, .int .i64 1, .int .i64 3] 55))
  have R2 := run_textL ((hv.below b).alloc (.cells #[.int .i64 0, .int .i64 1, .int .i64 3] 55))
  have y0 := hBx.cell 0 (x := .int .i64 2) rfl
  have y1 := hBx.cell 1 (x := .int .i64 0) rfl
  have y2 := hBx.cell 2 (x := .int .i64 1) rfl
  have y3 := hBx.cell 3 (x := .int .i64 3) rfl
  have y4 := hBx.cell 4 (x := .slice A3 l.length c3) rfl
  have h5 := A.ndKeep h ((Below.refl u4.heap.size u4).alloc (Nat.le_refl _) (.cells #[.int .i64 0, .int .i64 1, .int .i64 3] 55))
  have hlt := hBx.lt
  generalize w3.heap.size = gb at *
  clear h' b' hBx hs hj h
  go_wp2_with fail
  refine (A.stateB h5).mono ?_
  rintro _ u5 ⟨rfl, h', b'⟩
  replace b := (b.alloc b.size (.cells #[.int .i64 0, .int .i64 1, .int .i64 3] 55)).trans b'.b
  rw [show ({ pv.sendS with da := l } : NM).st = 4 from a3]
  go_wp2_with fail
  refine (known_nd A _).mono ?_
  rintro _ wk ⟨rfl, bk⟩
  replace bk := b.trans (bk.mono b.size)
  go_wp2
  go_ret
  exact ⟨rfl, bk⟩
/-- Of the node that is there. -/
theorem walk_nodeActive (A0 : Option Addr) (m c : Nat) (z : Nat → Int) (w : World) (s : InBytesN w A0 m c z) :
    Calls Tryz.prog 11 #[.slice A0 m c] w fun e w' => e = .returned (.bool true) ∧ Below w.heap.size w w' := by
  obtain ⟨hv, hl⟩ := s.list
  have e := lst_length z m
  generalize lst z m = l at *
  subst e
  exact gcore_nodeActive nodeApi nodeMore l A0 c w hv hl

/-! ### THE ROW's STEP around the walk. -/
theorem own_nodeActive : ownKnob Tryz.prog.godebug = none := by kernel_rfl
theorem laidOut_nodeActive : laidOutB Tryz.prog = true := by kernel_rfl
set_option maxRecDepth 100000 in
theorem lifted_nodeActive (os : Os) (started : os.Started) (H : Type) (enc : TypeId × Value → H) :
    ReturnsInHanded {} Tryz.checked os 11 .any (Rows.nodeActiveSpec.pre6 enc Tryz.prog Tryz.f11 Rows.nodeActiveRow.domain false) (Rows.nodeActiveSpec.post enc Tryz.prog Tryz.f11 false true false false) := by
  refine returnsInHanded_of_change_sized (C := Tryz.checked) own_nodeActive started (by kernel_rfl) Tryz.func11
    (ChangeSpec.witness6 (enc := enc) (C := Tryz.checked) false ⟨#[], #[.slice none 0 0], []⟩ 8 (by kernel_rfl) (by kernel_rfl) (by kernel_rfl) (by kernel_rfl)) ?_
  intro W base args ds gs before hval0 hW hcnd hsz0 _
  have hval : ∀ (j : Nat) t v, Tryz.f11.params[j]? = some t → args[j]? = some v → Value.okWide Tryz.prog W .any base t v := hval0
  have hW' := hW
  obtain ⟨p, q, hA0, hV, rfl, hfz, hnd⟩ := hW
  have hA : DataW.TrodAll enc Tryz.prog W 0 (fun _ => true) true Tryz.f11.params.toList args.toList ds p := hA0
  have hsz : (DataW.weightsEach Tryz.prog (Tryz.f11.params.toList ++ Rows.nodeActiveSpec.plain.varTypes Tryz.prog) (ds ++ gs)).all (· ≤ reachBytes) = true := hsz0
  rw [Tryz.params11] at hA hval hsz
  obtain ⟨v0, vs0, d0, ds0, p0, q0, hargs, rfl, rfl, h0, r0⟩ := trodAll_cons hA
  obtain ⟨rfl, rfl, rfl⟩ := trodAll_nil r0
  obtain rfl : args = #[v0] := by cases args; simp_all
  obtain ⟨rfl, rfl⟩ := trodVars_none hV
  obtain ⟨A0, n0, c0, rfl⟩ := okWide_slice Tryz.underlying37 (hval 0 37 v0 rfl rfl)
  have k0 := h0
  have lt0 : ∀ x ∈ p0, x.block < W.heap.size := by obtain ⟨m, hm⟩ := k0; exact DataW.trod_lt m _ _ _ hm
  obtain ⟨z0, s0⟩ := sees_bytesn Tryz.underlying37 Tryz.underlying5 (by kernel_rfl) h0 (by kernel_rfl) (fun _ _ hd => sized_slice hsz (j := 0) (t := 37) (e := 5) rfl (congrArg some hd) Tryz.underlying37)
  clear hA0 hval0
  refine (walk_nodeActive A0 n0 c0 z0 W s0).mono fun e W' ⟨he, bel⟩ => ?_
  subst he
  exact ⟨_, rfl, _, _, _, [], _, [], hW', trodAll_mk1 (shut_bool Tryz.underlying4 _), (trodAll_cons_mk (Below.trod laidOut_nodeActive (by kernel_rfl) (of_decide_eq_true (by kernel_rfl)) k0 bel lt0) trodAll_mk0), rfl, bel.frame _, fun h => by cases h⟩

theorem over_nodeActive : Rows.nodeActiveRow.holds Tryz.pinned (OpenSpec.ofChange Rows.nodeActiveSpec) :=
  OpenClaim.holds_of_wide 11 Tryz.f11 rfl rfl rfl rfl rfl rfl rfl ⟨rfl, rfl, rfl, rfl, rfl⟩ rfl rfl rfl rfl rfl (by kernel_rfl) Tryz.func11 (by kernel_rfl)
    (of_decide_eq_true (by kernel_rfl)) (by unfold Func.isWrapper; first | (rw [if_pos (by decide +kernel)]; kernel_rfl) | (rw [if_neg (by decide +kernel)]; exact ⟨rfl, rfl⟩))
    (fun os started H enc _ => lifted_nodeActive os started H enc)

theorem proved_nodeActive : Rows.NodeActiveSaid := over_nodeActive
end Go.Proofs.YtfakibajipmkjaaGreat
