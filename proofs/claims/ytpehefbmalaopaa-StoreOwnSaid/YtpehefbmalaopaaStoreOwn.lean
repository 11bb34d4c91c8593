/- StoreOwn holds: what is handed in is not kept, what is told is new memory. For all nodes and bytes. -/
import Derived.Test.YtpehefbmalaopaaStL
import Derived.Test.YtpehefbmalaopaaOpen
import Derived.RegionTactic
import Derived.Deep.RegionWith
namespace Go.Proofs.Ytpehefbmalaopaa
open Go.ChangeShapes Go.WideShapes Go.ChangeAt Go.RowKit

set_option maxRecDepth 100000 in
set_option maxHeartbeats 2000000 in
theorem core_storeOwn (n : Int) (lD : List Int) (AD : Option Addr) (cD : Nat) (w : World) (hvD : SeesL w w.heap.size (.slice AD lD.length cD) lD) (hlD : bytesL lD) :
    Calls Try.prog 5 #[.int .i64 n, .slice AD lD.length cD] w fun e w' => e = .returned (.bool true) ∧ Below w.heap.size w w' := by
  by_cases call : 0 ≤ n ∧ n ≤ 7 ∧ lD.length ≤ 8 ∧ 0 < lD.length
  case neg =>
    clear hvD hlD
    generalize lD.length = L at *
    have qz : (((L : Nat) : Int) == 0) = decide (L = 0) := by by_cases h : L = 0 <;> simp [h]
    go_enter Try.func5, Try.ntmps5
    go_wp2
    all_goals first
      | (exfalso; omega)
      | (go_ret; exact ⟨rfl, Below.refl _ _⟩)
      | skip
  obtain ⟨k0, k1, k2, k3⟩ := call
  have Fd := field_d
  have Fa := field_a
  have Fg := field_g
  have q1 : decide (n < 0) = false := decide_eq_false (by omega)
  have q2 : decide ((7 : Int) < n) = false := decide_eq_false (by omega)
  have q_lD : decide ((8 : Int) < ((lD.length : Nat) : Int)) = false := decide_eq_false (by omega)
  have q4 : (((lD.length : Nat) : Int) == 0) = false := by rw [beq_eq_false_iff_ne]; omega
  have hne0 : lD ≠ [] := List.length_pos_iff.1 k3
  obtain ⟨x0, hx1⟩ : ∃ x0, x0 = lD.getD 0 0 := ⟨_, rfl⟩
  have hx0 := Lib.hid hx1
  clear hx1
  go_enter Try.func5, Try.ntmps5
  go_wp2_with fail
  refine (new_st _).mono ?_
  rintro _ w1 ⟨g, rfl, hg, h0, b⟩
  have hgl := SAt.lt (h0 [])
  have hS := (hvD.below b).alloc (.cells #[] 5)
  go_wp2_with (at_builtin; go_loud (refine wpList_pushL _ rfl (.tmp 27) (.tmp 28) 27 rfl w1.heap.size infoU8 Try.underlying27 (.slice (some ⟨w1.heap.size, 0, none⟩) 0 0) [] (owns_empty _ _ rfl _ _ (Nat.le_refl _) rfl) rfl w.heap.size (.slice AD lD.length cD) lD rfl hS (by simp) (by simp; omega) ?_))
  intro v2 w2 ho2 hx2
  have hb2 := ((Below.refl w1.heap.size w1).alloc (Nat.le_refl _) (.cells #[] 5)).trans (hx2.toBelow (B := w1.heap.size) (by simp) (fun j hj => by cases hj; exact Nat.le_refl _))
  have ho2 : OwnsL w2 w1.heap.size v2 lD := ho2
  obtain ⟨bi, ci, rfl, bi1, bi2, ci1, ci2, -, -⟩ := ho2.blk hne0
  have hgi : g ≠ bi := by omega
  have h := SAt.below (h0 [g, bi]) hb2
  replace b := b.trans (hb2.mono b.size)
  clear hS hx2 hb2 h0
  go_wp2_with fail
  refine (put_st [g, bi] g _ n _ lD _ _ h (by simp) (fun f hf => by
    have := SAt.lt h
    rcases List.mem_cons.1 hf with rfl | hf
    · exact this
    · rw [List.mem_singleton.1 hf]; exact bi2) ho2.sees hlD).mono ?_
  rintro _ w3 ⟨rfl, h', o⟩
  replace b := b.trans (o.below hg (SAt.lt h))
  replace ho2 := ho2.only o (by simp [Value.ownBlock]; omega)
  replace h := h'
  clear o h'
  obtain ⟨bi', ci', e', bi3, bi4, -, -, cin, fin⟩ := ho2.blk hne0
  simp only [Value.slice.injEq, Option.some.injEq, Addr.mk.injEq, and_true, true_and] at e'
  obtain ⟨rfl, rfl⟩ := e'
  rw [← hx0.out] at cin
  obtain ⟨st, hst⟩ : ∃ st, st = MS.new.put n lD := ⟨_, rfl⟩
  rw [← hst] at h
  have hn8 : isN n := ⟨by omega, by omega⟩
  have e1 : st.gd n = lD := by
    subst hst
    unfold MS.gd MS.put
    simp [hn8, k2, upd]
  clear hst hn8
  have hX : Hid (∀ x, CAt [g, bi] (w3.setCell ⟨bi, 0, none⟩ x) g st ∧ Below w.heap.size w (w3.setCell ⟨bi, 0, none⟩ x)) := Lib.hid fun x => ⟨SAt.only h ((Only.refl bi w3).set 0 x) hgi (by simp), b.setCell (p := ⟨bi, 0, none⟩) (by have := b.size; simp; omega) x⟩
  clear h b ho2
  have p0 : (0 : Int) < ((lD.length : Nat) : Int) := by omega
  go_wp2_with fail
  obtain ⟨h, b⟩ := hX.out (.int .u8 (bits BinOp.xor IntKind.u8 x0 1))
  clear hX cin fin
  have G := get1 n h
  rw [e1] at G
  refine G.mono ?_
  rintro _ w5 ⟨v5, rfl, -, o5, b5⟩
  have o5 := o5 hne0
  obtain ⟨bx, cx, rfl, bx1, bx2, cx1, cx2, cxn, fxn⟩ := o5.blk hne0
  rw [← hx0.out] at cxn
  have hm : CAt [bx, g, bi] w5 g st := SAt.more h b5 bx1
  have hgx : g ≠ bx := by have := SAt.lt h; omega
  have hbx : w.heap.size ≤ bx := Nat.le_trans b.size bx1
  replace b := b.trans (b5.mono b.size)
  clear G h b5
  generalize st.ga n = qa at *
  generalize st.gg n = qg at *
  have bm := (Below.refl w5.heap.size w5).alloc (Nat.le_refl _) (.cells #[.slice (some ⟨bx, 0, none⟩) lD.length cx, .int .i64 qa, .bool qg] 33)
  replace cxn := (bm.cell bx2).trans cxn
  replace fxn := (bm.frozen bx2).trans fxn
  have h6 : CAt [bx, g, bi] (w5.setCell ⟨bx, 0, none⟩ (.int .u8 (bits BinOp.xor IntKind.u8 x0 2))) g st := SAt.only hm ((Only.refl bx _).set 0 _) hgx (by simp)
  have b6 : Below w.heap.size w (w5.setCell ⟨bx, 0, none⟩ (.int .u8 (bits BinOp.xor IntKind.u8 x0 2))) := b.setCell (p := ⟨bx, 0, none⟩) hbx _
  have h7 := SAt.below h6 ((Below.refl _ _).alloc (Nat.le_refl _) (.cells #[.slice (some ⟨bx, 0, none⟩) lD.length cx, .int .i64 qa, .bool qg] 33))
  have b7 := b6.alloc b6.size (.cells #[.slice (some ⟨bx, 0, none⟩) lD.length cx, .int .i64 qa, .bool qg] 33)
  clear h6 b6
  clear hm b o5
  go_wp2_with fail
  generalize (w5.setCell ⟨bx, 0, none⟩ (.int .u8 (bits BinOp.xor IntKind.u8 x0 2))).alloc (.cells #[.slice (some ⟨bx, 0, none⟩) lD.length cx, .int .i64 qa, .bool qg] 33) = w7 at *
  clear cxn fxn bm
  have R0 := run_textL_drew (hvD.below b7)
  go_region_with (first
    | (go_at_call 23; have G := get1 n h7.drew; rw [e1] at G; refine G.mono ?_; rintro _ w8 ⟨v8, rfl, s8, -, b8⟩; have b8 := b7.drew.trans (b8.mono b7.drew.size); have R1 := run_textL s8; have R2 := run_textL (hvD.below b8); obtain ⟨A8, c8, rfl, -⟩ := s8.at_)
    | (go_at_call 25; refine (known_st _).mono ?_; rintro _ w9 ⟨rfl, b9⟩))
  all_goals
    go_wp2
    go_ret
    exact ⟨rfl, b8.trans (b9.mono b8.size)⟩
set_option maxRecDepth 100000 in
set_option maxHeartbeats 2000000 in
theorem walk_storeOwn (n : Int) (AD : Option Addr) (mD cD : Nat) (zD : Nat → Int) (w : World) (_hn : -9223372036854775808 ≤ n ∧ n ≤ 9223372036854775807) (sD : InBytesN w AD mD cD zD) :
    Calls Try.prog 5 #[.int .i64 n, .slice AD mD cD] w fun e w' => e = .returned (.bool true) ∧ Below w.heap.size w w' := by
  obtain ⟨hvD, hlD⟩ := sD.list
  have eD := lst_length zD mD
  generalize lst zD mD = lD at *
  subst eD
  exact core_storeOwn n lD AD cD w hvD hlD

/-! ### THE ROW's STEP around the walk. -/
theorem own_storeOwn : ownKnob Try.prog.godebug = none := by kernel_rfl
theorem laidOut_storeOwn : laidOutB Try.prog = true := by kernel_rfl
set_option maxRecDepth 100000 in
theorem lifted_storeOwn (os : Os) (started : os.Started) (H : Type) (enc : TypeId × Value → H) :
    ReturnsInHanded {} Try.checked os 5 .any (Rows.storeOwnSpec.pre6 enc Try.prog Try.f5 Rows.storeOwnRow.domain false) (Rows.storeOwnSpec.post enc Try.prog Try.f5 false true false false) := by
  refine returnsInHanded_of_change_sized (C := Try.checked) own_storeOwn started (by kernel_rfl) Try.func5
    (ChangeSpec.witness6 (enc := enc) (C := Try.checked) false ⟨#[], #[.int .i64 0, .slice none 0 0], []⟩ 8 (by kernel_rfl) (by kernel_rfl) (by kernel_rfl) (by kernel_rfl)) ?_
  intro W base args ds gs before hval0 hW hcnd hsz0 _
  have hval : ∀ (j : Nat) t v, Try.f5.params[j]? = some t → args[j]? = some v → Value.okWide Try.prog W .any base t v := hval0
  have hW' := hW
  obtain ⟨p, q, hA0, hV, rfl, hfz, hnd⟩ := hW
  have hA : DataW.TrodAll enc Try.prog W 0 (fun _ => true) true Try.f5.params.toList args.toList ds p := hA0
  have hsz : (DataW.weightsEach Try.prog (Try.f5.params.toList ++ Rows.storeOwnSpec.plain.varTypes Try.prog) (ds ++ gs)).all (· ≤ reachBytes) = true := hsz0
  rw [Try.params5] at hA hval hsz
  obtain ⟨v0, vs0, d0, ds0, p0, q0, hargs, rfl, rfl, h0, r0⟩ := trodAll_cons hA
  obtain ⟨v1, vs1, d1, ds1, p1, q1, rfl, rfl, rfl, h1, r1⟩ := trodAll_cons r0
  obtain ⟨rfl, rfl, rfl⟩ := trodAll_nil r1
  obtain rfl : args = #[v0, v1] := by cases args; simp_all
  obtain ⟨rfl, rfl⟩ := trodVars_none hV
  obtain ⟨a0, rfl, rfl, rfl, w0⟩ := open_int Try.underlying3 (hval 0 3 v0 rfl rfl) h0
  obtain ⟨A1, n1, c1, rfl⟩ := okWide_slice Try.underlying27 (hval 1 27 v1 rfl rfl)
  have k1 := h1
  have lt1 : ∀ x ∈ p1, x.block < W.heap.size := by obtain ⟨m, hm⟩ := k1; exact DataW.trod_lt m _ _ _ hm
  obtain ⟨z1, s1⟩ := sees_bytesn Try.underlying27 Try.underlying5 (by kernel_rfl) h1 (by kernel_rfl) (fun _ _ hd => sized_slice hsz (j := 1) (t := 27) (e := 5) rfl (congrArg some hd) Try.underlying27)
  clear hA0 hval0
  refine (walk_storeOwn a0 A1 n1 c1 z1 W (bounds_i64 w0) s1).mono fun e W' ⟨he, bel⟩ => ?_
  subst he
  exact ⟨_, rfl, _, _, _, [], _, [], hW', trodAll_mk1 (shut_bool Try.underlying4 _), (trodAll_cons_mk (shut_int Try.underlying3 w0) (trodAll_cons_mk (Below.trod laidOut_storeOwn (by kernel_rfl) (of_decide_eq_true (by kernel_rfl)) k1 bel lt1) trodAll_mk0)), rfl, bel.frame _, fun h => by cases h⟩

theorem over_storeOwn : Rows.storeOwnRow.holds Try.pinned (OpenSpec.ofChange Rows.storeOwnSpec) :=
  OpenClaim.holds_of_wide 5 Try.f5 rfl rfl rfl rfl rfl rfl rfl ⟨rfl, rfl, rfl, rfl, rfl⟩ rfl rfl rfl rfl rfl (by kernel_rfl) Try.func5 (by kernel_rfl)
    (of_decide_eq_true (by kernel_rfl)) (by unfold Func.isWrapper; first | (rw [if_pos (by decide +kernel)]; kernel_rfl) | (rw [if_neg (by decide +kernel)]; exact ⟨rfl, rfl⟩))
    (fun os started H enc _ => lifted_storeOwn os started H enc)

theorem proved_storeOwn : Rows.StoreOwnSaid := over_storeOwn
end Go.Proofs.Ytpehefbmalaopaa
