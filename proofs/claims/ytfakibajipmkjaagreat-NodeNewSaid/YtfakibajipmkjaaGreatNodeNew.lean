/- NodeNew holds: of any table, number, drift and rules whether a node may be. For all of them. -/
import Derived.Test.YtfakibajipmkjaaGreatNBN
namespace Go.Proofs.YtfakibajipmkjaaGreat
open Go.ChangeShapes Go.WideShapes Go.ChangeAt Go.RowKit

set_option maxRecDepth 100000 in
set_option maxHeartbeats 4000000 in
theorem walk_nodeNew (t : Tb.T) (v : Value) (i dr : Int) (l : List R4) (u : Value) (w : World) (ht : InTable w t v) (_h1 : -9223372036854775808 ≤ i ∧ i ≤ 9223372036854775807) (_h2 : -9223372036854775808 ≤ dr ∧ dr ≤ 9223372036854775807) (hu : SeesRs w w.heap.size u l) :
    Calls Tryz.prog 4 #[tabV t v, .int .i64 i, .int .i64 dr, u] w fun e w' => e = .returned (.bool true) ∧ Below w.heap.size w w' := by
  have hv := ht.sees
  have hb0 := fun o => (Below.refl w.heap.size w).alloc (Nat.le_refl _) o
  have hXA := fun A c => Blk.new w w.heap.size rfl #[.slice A t.ns.length c, .int .i64 t.dr, .int .i64 t.wi, .int .i64 t.lm] 29
  have hY : ∀ W, NM.may t i dr l → Below w.heap.size w W → Hid (Calls Tryz.prog 15 #[tabV t v, .int .i64 i, .int .i64 dr, u] W fun e w' => ∃ g, e = .returned (.tuple #[.pointer (some ⟨g, 0, none⟩), .int .i64 0]) ∧ Below W.heap.size W w') := fun W h hW =>
    Lib.hid ((nodeApi.newB t v u i dr l W ((hv.below hW).more hW.size) ((hu.below hW).more hW.size) h).mono fun _ _ ⟨g, h1, _, h2⟩ => ⟨g, h1, h2⟩)
  have hN : ∀ W, ¬ NM.may t i dr l → Below w.heap.size w W → Hid (Calls Tryz.prog 15 #[tabV t v, .int .i64 i, .int .i64 dr, u] W fun e w' => e = .returned (.tuple #[.pointer none, .int .i64 1]) ∧ Below W.heap.size W w') := fun W h hW =>
    Lib.hid (new_nd_no t v u i dr l W ((hv.below hW).more hW.size) ((hu.below hW).more hW.size) h)
  have gY : ∀ W, NM.may t i dr l → Below w.heap.size w W → Hid (N10 t v u i dr W N10ok) := fun W h hW =>
    Lib.hid (n10_yes t v u i dr l W ((hv.below hW).more hW.size) ((hu.below hW).more hW.size) h)
  have gN : ∀ W, ¬ NM.may t i dr l → Below w.heap.size w W → Hid (N10 t v u i dr W N10no) := fun W h hW =>
    Lib.hid (n10_no t v u i dr l W ((hv.below hW).more hW.size) ((hu.below hW).more hW.size) h)
  obtain ⟨A, c, rfl, n1, n2, -, -⟩ := hv.at_
  obtain ⟨Ar, cr, rfl, r1, r2, -, -⟩ := hu.at_
  have hX := hXA A c
  clear hXA hv hu ht
  unfold maxLen at n2 r2
  unfold N10 N10ok at gY
  unfold N10 N10no at gN
  unfold tabV at *
  by_cases h1 : 20 < t.ns.length
  · have d1 : decide ((20 : Int) < ((t.ns.length : Nat) : Int)) = true := decide_eq_true (by omega)
    clear hY hN gY gN hX
    go_enter Tryz.func4, Tryz.ntmps4
    go_wp2
    go_ret
    exact ⟨rfl, hb0 _⟩
  have d1 : decide ((20 : Int) < ((t.ns.length : Nat) : Int)) = false := decide_eq_false (by omega)
  by_cases h2 : 20 < l.length
  · have d2 : decide ((20 : Int) < ((l.length : Nat) : Int)) = true := decide_eq_true (by omega)
    clear hY hN gY gN hX
    go_enter Tryz.func4, Tryz.ntmps4
    go_wp2
    go_ret
    exact ⟨rfl, hb0 _⟩
  have d2 : decide ((20 : Int) < ((l.length : Nat) : Int)) = false := decide_eq_false (by omega)
  by_cases hm : NM.may t i dr l
  · have q1 := fun W hW => hY W hm hW
    have q2 := fun W hW => gY W hm hW
    clear hY hN gY gN hm
    go_enter Tryz.func4, Tryz.ntmps4
    go_wp2_with fail
    refine (q1 _ (hb0 _)).out.mono ?_
    rintro _ w2 ⟨ga, rfl, b2⟩
    have hX2 := hX.below b2 (by simp)
    have b2 := (hb0 _).trans (b2.mono (hb0 _).size)
    have x0 := hX2.cell 0 (x := .slice A t.ns.length c) rfl
    have x1 := hX2.cell 1 (x := .int .i64 t.dr) rfl
    have x2 := hX2.cell 2 (x := .int .i64 t.wi) rfl
    have x3 := hX2.cell 3 (x := .int .i64 t.lm) rfl
    clear hX
    go_wp2_with fail
    refine (q2 _ b2).out.mono ?_
    rintro _ w3 ⟨⟨_, ⟨g, rfl⟩, rfl⟩, b3⟩
    have b3 := b2.trans (b3.mono b2.size)
    clear x0 x1 x2 x3 hX2
    go_wp2_with fail
    refine (known_nd nodeApi _).mono ?_
    rintro _ wk ⟨rfl, bk⟩
    replace bk := b3.trans (bk.mono b3.size)
    go_wp2
    go_ret
    exact ⟨rfl, bk⟩
  · have q1 := fun W hW => hN W hm hW
    have q2 := fun W hW => gN W hm hW
    clear hY hN gY gN hm
    go_enter Tryz.func4, Tryz.ntmps4
    go_wp2_with fail
    refine (q1 _ (hb0 _)).out.mono ?_
    rintro _ w2 ⟨rfl, b2⟩
    have hX2 := hX.below b2 (by simp)
    have b2 := (hb0 _).trans (b2.mono (hb0 _).size)
    have x0 := hX2.cell 0 (x := .slice A t.ns.length c) rfl
    have x1 := hX2.cell 1 (x := .int .i64 t.dr) rfl
    have x2 := hX2.cell 2 (x := .int .i64 t.wi) rfl
    have x3 := hX2.cell 3 (x := .int .i64 t.lm) rfl
    clear hX
    go_wp2_with fail
    refine (q2 _ b2).out.mono ?_
    rintro _ w3 ⟨⟨_, rfl, rfl⟩, b3⟩
    have b3 := b2.trans (b3.mono b2.size)
    clear x0 x1 x2 x3 hX2
    go_wp2_with fail
    refine (known_nd nodeApi _).mono ?_
    rintro _ wk ⟨rfl, bk⟩
    replace bk := b3.trans (bk.mono b3.size)
    go_wp2
    go_ret
    exact ⟨rfl, bk⟩

/-! ### THE ROW's STEP around the walk. -/
theorem own_nodeNew : ownKnob Tryz.prog.godebug = none := by kernel_rfl
theorem laidOut_nodeNew : laidOutB Tryz.prog = true := by kernel_rfl
set_option maxRecDepth 100000 in
theorem lifted_nodeNew (os : Os) (started : os.Started) (H : Type) (enc : TypeId × Value → H) :
    ReturnsInHanded {} Tryz.checked os 4 .any (Rows.nodeNewSpec.pre6 enc Tryz.prog Tryz.f4 Rows.nodeNewRow.domain false) (Rows.nodeNewSpec.post enc Tryz.prog Tryz.f4 false true false false) := by
  refine returnsInHanded_of_change (C := Tryz.checked) own_nodeNew started (by kernel_rfl) Tryz.func4
    (ChangeSpec.witness6 (enc := enc) (C := Tryz.checked) false ⟨#[], #[.agg #[.slice none 0 0, .int .i64 0, .int .i64 0, .int .i64 0], .int .i64 0, .int .i64 0, .slice none 0 0], []⟩ 8 (by kernel_rfl) (by kernel_rfl) (by kernel_rfl) (by kernel_rfl)) ?_
  intro W base args ds gs before hval0 hW hcnd _
  have hval : ∀ (j : Nat) t v, Tryz.f4.params[j]? = some t → args[j]? = some v → Value.okWide Tryz.prog W .any base t v := hval0
  have hW' := hW
  obtain ⟨p, q, hA0, hV, rfl, hfz, hnd⟩ := hW
  have hA : DataW.TrodAll enc Tryz.prog W 0 (fun _ => true) true Tryz.f4.params.toList args.toList ds p := hA0
  rw [Tryz.params4] at hA hval
  obtain ⟨v0, vs0, d0, ds0, p0, q0, hargs, rfl, rfl, h0, r0⟩ := trodAll_cons hA
  obtain ⟨v1, vs1, d1, ds1, p1, q1, rfl, rfl, rfl, h1, r1⟩ := trodAll_cons r0
  obtain ⟨v2, vs2, d2, ds2, p2, q2, rfl, rfl, rfl, h2, r2⟩ := trodAll_cons r1
  obtain ⟨v3, vs3, d3, ds3, p3, q3, rfl, rfl, rfl, h3, r3⟩ := trodAll_cons r2
  obtain ⟨rfl, rfl, rfl⟩ := trodAll_nil r3
  obtain rfl : args = #[v0, v1, v2, v3] := by cases args; simp_all
  obtain ⟨rfl, rfl⟩ := trodVars_none hV
  obtain ⟨y0, x0, rfl, s0⟩ := sees_table Tryz.underlying29 (by kernel_rfl) ⟨rfl, rfl⟩ ⟨rfl, rfl⟩ ⟨rfl, rfl⟩ ⟨rfl, rfl⟩ Tryz.underlying27 (by kernel_rfl) Tryz.underlying53 (by kernel_rfl) ⟨rfl, rfl⟩ ⟨rfl, rfl⟩ ⟨rfl, rfl⟩ ⟨rfl, rfl⟩ Tryz.underlying3 Tryz.underlying4 (by kernel_rfl) (by kernel_rfl) (hval 0 29 v0 rfl rfl) h0
  have k0 := h0
  have lt0 : ∀ x ∈ p0, x.block < W.heap.size := by obtain ⟨m, hm⟩ := k0; exact DataW.trod_lt m _ _ _ hm
  obtain ⟨a1, rfl, rfl, rfl, w1⟩ := open_int Tryz.underlying3 (hval 1 3 v1 rfl rfl) h1
  obtain ⟨a2, rfl, rfl, rfl, w2⟩ := open_int Tryz.underlying3 (hval 2 3 v2 rfl rfl) h2
  obtain ⟨A3, n3, c3, rfl⟩ := okWide_slice Tryz.underlying31 (hval 3 31 v3 rfl rfl)
  obtain ⟨l3, s3⟩ := sees_rules Tryz.underlying31 Tryz.underlying101 (by kernel_rfl) ⟨rfl, rfl⟩ ⟨rfl, rfl⟩ ⟨rfl, rfl⟩ ⟨rfl, rfl⟩ Tryz.underlying3 (by kernel_rfl) h3
  have k3 := h3
  have lt3 : ∀ x ∈ p3, x.block < W.heap.size := by obtain ⟨m, hm⟩ := k3; exact DataW.trod_lt m _ _ _ hm
  clear hA0 hval0
  refine (walk_nodeNew y0 x0 a1 a2 l3 _ W s0 (bounds_i64 w1) (bounds_i64 w2) s3).mono fun e W' ⟨he, bel⟩ => ?_
  subst he
  exact ⟨_, rfl, _, _, _, [], _, [], hW', trodAll_mk1 (shut_bool Tryz.underlying4 _), (trodAll_cons_mk (Below.trod laidOut_nodeNew (by kernel_rfl) (of_decide_eq_true (by kernel_rfl)) k0 bel lt0) (trodAll_cons_mk (shut_int Tryz.underlying3 w1) (trodAll_cons_mk (shut_int Tryz.underlying3 w2) (trodAll_cons_mk (Below.trod laidOut_nodeNew (by kernel_rfl) (of_decide_eq_true (by kernel_rfl)) k3 bel lt3) trodAll_mk0)))), rfl, bel.frame _, fun h => by cases h⟩

theorem over_nodeNew : Rows.nodeNewRow.holds Tryz.pinned (OpenSpec.ofChange Rows.nodeNewSpec) :=
  OpenClaim.holds_of_wide 4 Tryz.f4 rfl rfl rfl rfl rfl rfl rfl ⟨rfl, rfl, rfl, rfl, rfl⟩ rfl rfl rfl rfl rfl (by kernel_rfl) Tryz.func4 (by kernel_rfl)
    (of_decide_eq_true (by kernel_rfl)) (by unfold Func.isWrapper; first | (rw [if_pos (by decide +kernel)]; kernel_rfl) | (rw [if_neg (by decide +kernel)]; exact ⟨rfl, rfl⟩))
    (fun os started H enc _ => lifted_nodeNew os started H enc)

theorem proved_nodeNew : Rows.NodeNewSaid := over_nodeNew
end Go.Proofs.YtfakibajipmkjaaGreat
