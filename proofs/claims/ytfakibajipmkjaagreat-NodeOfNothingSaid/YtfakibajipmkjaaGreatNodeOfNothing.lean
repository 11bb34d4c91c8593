/- NodeOfNothing holds: a nil Node is nothing. For all numbers and bytes. -/
import Derived.Test.YtfakibajipmkjaaGreatNB36
namespace Go.Proofs.YtfakibajipmkjaaGreat
open Go.ChangeShapes Go.WideShapes Go.ChangeAt Go.RowKit

set_option maxRecDepth 100000 in
set_option maxHeartbeats 1000000 in
theorem noff_nil (w : World) : Calls Tryz.prog 33 #[.pointer none] w fun e w' => e = .returned (.tuple #[]) ∧ w' = w := by
  go_enter Tryz.func33, Tryz.ntmps33
  go_wp2
  exact bodyPost_end (results_none (by rfl) _ _ _) rfl ⟨rfl, rfl⟩
set_option maxRecDepth 100000 in
set_option maxHeartbeats 1000000 in
theorem ntake_nil (w : World) : Calls Tryz.prog 26 #[.pointer none, .agg #[.int .i64 0, .int .i64 0, .slice none 0 0, .slice none 0 0, .int .i64 0]] w fun e w' => e = .returned (.tuple #[]) ∧ Below w.heap.size w w' := by
  have hb := (Below.refl w.heap.size w).alloc (Nat.le_refl _) (.cells #[.int .i64 0, .int .i64 0, .slice none 0 0, .slice none 0 0, .int .i64 0] 39)
  go_enter Tryz.func26, Tryz.ntmps26
  go_wp2
  exact bodyPost_end (results_none (by rfl) _ _ _) rfl ⟨rfl, hb⟩
set_option maxRecDepth 100000 in
set_option maxHeartbeats 1000000 in
theorem non_nil (a : Int) (w : World) : Calls Tryz.prog 23 #[.pointer none, .int .i64 a] w fun e w' => e = .returned (.int .i64 1) ∧ w' = w := by
  go_enter Tryz.func23, Tryz.ntmps23
  go_wp2
  go_ret
  exact ⟨rfl, rfl⟩
set_option maxRecDepth 100000 in
set_option maxHeartbeats 1000000 in
theorem nwrite_nil (A : Option Addr) (m c : Nat) (w : World) : Calls Tryz.prog 31 #[.pointer none, .slice A m c] w fun e w' => e = .returned (.int .i64 1) ∧ w' = w := by
  go_enter Tryz.func31, Tryz.ntmps31
  go_wp2
  go_ret
  exact ⟨rfl, rfl⟩
set_option maxRecDepth 100000 in
set_option maxHeartbeats 1000000 in
theorem nack_nil (a : Int) (w : World) : Calls Tryz.prog 34 #[.pointer none, .int .i64 a] w fun e w' => e = .returned (.int .i64 1) ∧ w' = w := by
  go_enter Tryz.func34, Tryz.ntmps34
  go_wp2
  go_ret
  exact ⟨rfl, rfl⟩
set_option maxRecDepth 100000 in
set_option maxHeartbeats 1000000 in
theorem nsend_nil (w : World) : Calls Tryz.prog 25 #[.pointer none] w fun e w' => e = .returned (.slice none 0 0) ∧ w' = w := by
  go_enter Tryz.func25, Tryz.ntmps25
  go_wp2_with fail
  refine scope_go 0 rfl ?_
  go_wp2
  simp only [Exit.jump]
  go_ret
  exact ⟨rfl, rfl⟩
set_option maxRecDepth 100000 in
set_option maxHeartbeats 1000000 in
theorem nstate_nil (w : World) : Calls Tryz.prog 24 #[.pointer none] w fun e w' => e = .returned (.int .i64 0) ∧ w' = w := by
  go_enter Tryz.func24, Tryz.ntmps24
  go_wp2
  go_ret
  exact ⟨rfl, rfl⟩
set_option maxRecDepth 100000 in
set_option maxHeartbeats 1000000 in
theorem nclock_nil (w : World) : Calls Tryz.prog 30 #[.pointer none] w fun e w' => e = .returned (.int .i64 0) ∧ w' = w := by
  go_enter Tryz.func30, Tryz.ntmps30
  go_wp2
  go_ret
  exact ⟨rfl, rfl⟩
set_option maxRecDepth 100000 in
set_option maxHeartbeats 1000000 in
theorem nrings_nil (a : Int) (w : World) : Calls Tryz.prog 35 #[.pointer none, .int .i64 a] w fun e w' => e = .returned (.int .i64 0) ∧ w' = w := by
  go_enter Tryz.func35, Tryz.ntmps35
  go_wp2
  go_ret
  exact ⟨rfl, rfl⟩
set_option maxRecDepth 100000 in
set_option maxHeartbeats 1000000 in
theorem nview_nil (w : World) : Calls Tryz.prog 27 #[.pointer none] w fun e w' => e = .returned (.agg #[.int .i64 0, .int .i64 0, .int .i64 0]) ∧ Below w.heap.size w w' := by
  have hX := Blk.new w w.heap.size rfl #[.int .i64 0, .int .i64 0, .int .i64 0] 55
  have hb := (((((Below.refl w.heap.size w).alloc (Nat.le_refl _) (.cells #[.int .i64 0, .int .i64 0, .int .i64 0] 55))).setCell (p := ⟨w.heap.size, 0, none⟩) (Nat.le_refl _) (.int .i64 0)).setCell (p := ⟨w.heap.size, 1, none⟩) (Nat.le_refl _) (.int .i64 0)).setCell (p := ⟨w.heap.size, 2, none⟩) (Nat.le_refl _) (.int .i64 0)
  have hB := Lib.hid hb
  clear hb
  go_enter Tryz.func27, Tryz.ntmps27
  go_wp2
  refine bodyPost_ret (v := .agg #[.int .i64 0, .int .i64 0, .int .i64 0]) ?_ rfl ⟨rfl, ?_⟩
  · rw [results_cell rfl]
    go_simp
  · (repeat' (first | exact Below.refl _ _ | exact Nat.le_refl _ | (with_reducible refine Below.setCell ?_ ?_ _) | (with_reducible refine Below.alloc ?_ (Nat.le_refl _) _) | (with_reducible refine below_drewN ?_ _) | (with_reducible refine Below.drew ?_)))
set_option maxRecDepth 100000 in
set_option maxHeartbeats 1000000 in
theorem nread_nil (n : Int) (w : World) : Calls Tryz.prog 29 #[.pointer none, .int .i64 n] w fun e w' => ∃ v, e = .returned (.agg #[v, .int .i64 (-1), .bool false]) ∧ SeesL w' w'.heap.size v [] ∧ Below w.heap.size w w' := by
  have hX := Blk.new w w.heap.size rfl #[.slice none 0 0, .int .i64 0, .bool false] 64
  have hb0 := (Below.refl w.heap.size w).alloc (Nat.le_refl _) (.cells #[.slice none 0 0, .int .i64 0, .bool false] 64)
  have hN := fun W => Lib.hid (new_st W)
  go_enter Tryz.func29, Tryz.ntmps29
  go_wp2_with fail
  refine (hN _).out.mono ?_
  rintro _ w1 ⟨gs, rfl, hgs, hC, b1⟩
  have hX1 := hX.below b1 (by simp)
  have b1 := hb0.trans (b1.mono (by simp))
  have H := Lib.hid (get_st [] gs MS.new n w1 (hC []))
  rw [new_gd, new_ga, new_gg] at H
  clear hN hC hX hb0
  go_wp2_with fail
  refine H.out.mono ?_
  rintro _ w2 ⟨v, rfl, hs, -, b2⟩
  have hX2 := hX1.below b2 hX1.lt
  have b2 := b1.trans (b2.mono b1.size)
  obtain ⟨A, c, rfl, h1, h2, -, h4⟩ := hs.at_
  have x0 := hX2.cell 0 (x := .slice none 0 0) rfl
  have x1 := hX2.cell 1 (x := .int .i64 0) rfl
  have x2 := hX2.cell 2 (x := .bool false) rfl
  have f0 := hX2.frozen 0
  have f1 := hX2.frozen 1
  have f2 := hX2.frozen 2
  have HB := Lib.hid (((b2.setCell (p := ⟨w.heap.size, 0, none⟩) (Nat.le_refl _) (.slice A ([] : List Int).length c)).setCell (p := ⟨w.heap.size, 1, none⟩) (Nat.le_refl _) (.int .i64 (-1))).setCell (p := ⟨w.heap.size, 2, none⟩) (Nat.le_refl _) (.bool false))
  have HN := Lib.hid (And.intro h1 (And.intro h2 h4))
  clear hs b2 hX1 hX2 b1 h1 h2 h4 H
  go_wp2
  refine bodyPost_ret (v := .agg #[.slice A ([] : List Int).length c, .int .i64 (-1), .bool false]) ?_ rfl ?_
  · rw [results_cell rfl]
    go_simp
  · exact ⟨_, rfl, ⟨A, c, rfl, HN.out.1, HN.out.2.1, fun h0 => absurd h0 (by simp), HN.out.2.2⟩, HB.out⟩
set_option maxRecDepth 100000 in
set_option maxHeartbeats 4000000 in
theorem gwalk_nodeOfNothing (a : Int) (A0 : Option Addr) (n c : Nat) (w : World) (hn2 : n ≤ 9223372036854775807) :
    Calls Tryz.prog 10 #[.int .i64 a, .slice A0 n c] w fun e w' => e = .returned (.bool true) ∧ Below w.heap.size w w' := by
  by_cases h20 : n ≤ 20
  case neg =>
    have q : (20 : Int) < (n : Nat) := by omega
    go_enter Tryz.func10, Tryz.ntmps10
    go_wp2
    go_ret
    exact ⟨rfl, Below.refl _ _⟩
  have q : ((n : Nat) : Int) ≤ 20 := by omega
  have k1 := fun W => Lib.hid (noff_nil W)
  have k2 := fun W => Lib.hid (ntake_nil W)
  have k3 := fun W => Lib.hid (non_nil a W)
  have k4 := fun W => Lib.hid (nwrite_nil A0 n c W)
  have k5 := fun W => Lib.hid (nack_nil a W)
  have k6 := fun W => Lib.hid (nsend_nil W)
  have k7 := fun W => Lib.hid (nstate_nil W)
  have k8 := fun W => Lib.hid (nclock_nil W)
  have k9 := fun W => Lib.hid (nrings_nil a W)
  have k10 := fun W => Lib.hid (nview_nil W)
  have k11 := fun W => Lib.hid (nread_nil 1 W)
  have k12 := fun W => Lib.hid (known_nd nodeApi W)
  go_enter Tryz.func10, Tryz.ntmps10
  go_wp2_with fail
  refine (k1 _).out.mono ?_
  rintro _ _ ⟨rfl, rfl⟩
  go_wp2_with fail
  refine (k2 _).out.mono ?_
  rintro _ w2 ⟨rfl, b2⟩
  go_wp2_with fail
  refine (k3 _).out.mono ?_
  rintro _ w3 ⟨rfl, rfl⟩
  go_wp2_with fail
  refine (k4 _).out.mono ?_
  rintro _ w4 ⟨rfl, rfl⟩
  go_wp2_with fail
  refine (k5 _).out.mono ?_
  rintro _ w5 ⟨rfl, rfl⟩
  go_wp2_with fail
  refine (k6 _).out.mono ?_
  rintro _ w6 ⟨rfl, rfl⟩
  go_wp2_with fail
  refine (k7 _).out.mono ?_
  rintro _ w7 ⟨rfl, rfl⟩
  go_wp2_with fail
  refine (k8 _).out.mono ?_
  rintro _ w8 ⟨rfl, rfl⟩
  go_wp2_with fail
  refine (k9 _).out.mono ?_
  rintro _ w9 ⟨rfl, rfl⟩
  go_wp2_with fail
  refine (k10 _).out.mono ?_
  rintro _ w10 ⟨rfl, b10⟩
  have b10 := b2.trans (b10.mono b2.size)
  go_wp2_with fail
  refine (k11 _).out.mono ?_
  rintro _ w11 ⟨v, rfl, hs, b11⟩
  have b11 := b10.trans (b11.mono b10.size)
  obtain ⟨A1, c1, rfl, -⟩ := hs.at_
  have k13 := Lib.hid (same1 (a := -1) (x := false) hs (SeesL.nil (w := w11) (B := w11.heap.size)) bytes_nil)
  clear hs
  go_wp2_with fail
  refine k13.out.mono ?_
  rintro _ w12 ⟨rfl, b12⟩
  have b12 := b11.trans (b12.mono b11.size)
  go_wp2_with fail
  refine (k12 _).out.mono ?_
  rintro _ w13 ⟨rfl, b13⟩
  have b13 := b12.trans (b13.mono b12.size)
  go_wp2
  go_ret
  exact ⟨rfl, b13⟩
/-- Of the node that is there. -/
theorem walk_nodeOfNothing (a : Int) (A0 : Option Addr) (m c : Nat) (z : Nat → Int) (w : World) (_h_a : -9223372036854775808 ≤ a ∧ a ≤ 9223372036854775807) (s : InBytesN w A0 m c z) :
    Calls Tryz.prog 10 #[.int .i64 a, .slice A0 m c] w fun e w' => e = .returned (.bool true) ∧ Below w.heap.size w w' := gwalk_nodeOfNothing a A0 m c w (Nat.le_trans s.reach (by decide))

/-! ### THE ROW's STEP around the walk. -/
theorem own_nodeOfNothing : ownKnob Tryz.prog.godebug = none := by kernel_rfl
theorem laidOut_nodeOfNothing : laidOutB Tryz.prog = true := by kernel_rfl
set_option maxRecDepth 100000 in
theorem lifted_nodeOfNothing (os : Os) (started : os.Started) (H : Type) (enc : TypeId × Value → H) :
    ReturnsInHanded {} Tryz.checked os 10 .any (Rows.nodeOfNothingSpec.pre6 enc Tryz.prog Tryz.f10 Rows.nodeOfNothingRow.domain false) (Rows.nodeOfNothingSpec.post enc Tryz.prog Tryz.f10 false true false false) := by
  refine returnsInHanded_of_change_sized (C := Tryz.checked) own_nodeOfNothing started (by kernel_rfl) Tryz.func10
    (ChangeSpec.witness6 (enc := enc) (C := Tryz.checked) false ⟨#[], #[.int .i64 0, .slice none 0 0], []⟩ 8 (by kernel_rfl) (by kernel_rfl) (by kernel_rfl) (by kernel_rfl)) ?_
  intro W base args ds gs before hval0 hW hcnd hsz0 _
  have hval : ∀ (j : Nat) t v, Tryz.f10.params[j]? = some t → args[j]? = some v → Value.okWide Tryz.prog W .any base t v := hval0
  have hW' := hW
  obtain ⟨p, q, hA0, hV, rfl, hfz, hnd⟩ := hW
  have hA : DataW.TrodAll enc Tryz.prog W 0 (fun _ => true) true Tryz.f10.params.toList args.toList ds p := hA0
  have hsz : (DataW.weightsEach Tryz.prog (Tryz.f10.params.toList ++ Rows.nodeOfNothingSpec.plain.varTypes Tryz.prog) (ds ++ gs)).all (· ≤ reachBytes) = true := hsz0
  rw [Tryz.params10] at hA hval hsz
  obtain ⟨v0, vs0, d0, ds0, p0, q0, hargs, rfl, rfl, h0, r0⟩ := trodAll_cons hA
  obtain ⟨v1, vs1, d1, ds1, p1, q1, rfl, rfl, rfl, h1, r1⟩ := trodAll_cons r0
  obtain ⟨rfl, rfl, rfl⟩ := trodAll_nil r1
  obtain rfl : args = #[v0, v1] := by cases args; simp_all
  obtain ⟨rfl, rfl⟩ := trodVars_none hV
  obtain ⟨a0, rfl, rfl, rfl, w0⟩ := open_int Tryz.underlying3 (hval 0 3 v0 rfl rfl) h0
  obtain ⟨A1, n1, c1, rfl⟩ := okWide_slice Tryz.underlying37 (hval 1 37 v1 rfl rfl)
  have k1 := h1
  have lt1 : ∀ x ∈ p1, x.block < W.heap.size := by obtain ⟨m, hm⟩ := k1; exact DataW.trod_lt m _ _ _ hm
  obtain ⟨z1, s1⟩ := sees_bytesn Tryz.underlying37 Tryz.underlying5 (by kernel_rfl) h1 (by kernel_rfl) (fun _ _ hd => sized_slice hsz (j := 1) (t := 37) (e := 5) rfl (congrArg some hd) Tryz.underlying37)
  clear hA0 hval0
  refine (walk_nodeOfNothing a0 A1 n1 c1 z1 W (bounds_i64 w0) s1).mono fun e W' ⟨he, bel⟩ => ?_
  subst he
  exact ⟨_, rfl, _, _, _, [], _, [], hW', trodAll_mk1 (shut_bool Tryz.underlying4 _), (trodAll_cons_mk (shut_int Tryz.underlying3 w0) (trodAll_cons_mk (Below.trod laidOut_nodeOfNothing (by kernel_rfl) (of_decide_eq_true (by kernel_rfl)) k1 bel lt1) trodAll_mk0)), rfl, bel.frame _, fun h => by cases h⟩

theorem over_nodeOfNothing : Rows.nodeOfNothingRow.holds Tryz.pinned (OpenSpec.ofChange Rows.nodeOfNothingSpec) :=
  OpenClaim.holds_of_wide 10 Tryz.f10 rfl rfl rfl rfl rfl rfl rfl ⟨rfl, rfl, rfl, rfl, rfl⟩ rfl rfl rfl rfl rfl (by kernel_rfl) Tryz.func10 (by kernel_rfl)
    (of_decide_eq_true (by kernel_rfl)) (by unfold Func.isWrapper; first | (rw [if_pos (by decide +kernel)]; kernel_rfl) | (rw [if_neg (by decide +kernel)]; exact ⟨rfl, rfl⟩))
    (fun os started H enc _ => lifted_nodeOfNothing os started H enc)

theorem proved_nodeOfNothing : Rows.NodeOfNothingSaid := over_nodeOfNothing
end Go.Proofs.YtfakibajipmkjaaGreat
