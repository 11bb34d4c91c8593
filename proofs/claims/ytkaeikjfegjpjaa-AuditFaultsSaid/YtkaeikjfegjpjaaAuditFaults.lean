/- AuditFaults holds: a fault is fair by what it is. For all arguments. -/
import Derived.Test.YtkaeikjfegjpjaaAB10
namespace Go.Proofs.Ytkaeikjfegjpjaa
open Go.ChangeShapes Go.WideShapes Go.ChangeAt Go.RowKit
open Tb (D T)

set_option maxRecDepth 100000 in
set_option maxHeartbeats 4000000 in
theorem core_auditFaults (n : Int) (f : Ft) (A : Option Addr) (c : Nat) (w : World) (hv : SeesL w w.heap.size (.slice A f.d.length c) f.d) (hby : bytesL f.d) :
    Calls Try.prog 5 #[.int .i64 n, .agg #[.int .i64 f.k, .int .i64 f.n, .int .i64 f.a, .slice A f.d.length c]] w fun e w' => e = .returned (.bool true) ∧ Below w.heap.size w w' := by
  have X := Blk.new w w.heap.size rfl #[.int .i64 f.k, .int .i64 f.n, .int .i64 f.a, .slice A f.d.length c] 32
  have hb0 := (Below.refl w.heap.size w).alloc (Nat.le_refl _) (.cells #[.int .i64 f.k, .int .i64 f.n, .int .i64 f.a, .slice A f.d.length c] 32)
  by_cases call : 4 ≤ n ∧ n ≤ 8 ∧ f.d.length ≤ 100
  case neg =>
    have x3 := X.cell 3 (x := .slice A f.d.length c) rfl
    go_enter Try.func5, Try.ntmps5
    go_wp2
    all_goals first
      | (exfalso; omega)
      | (go_ret; exact ⟨rfl, hb0⟩)
      | skip
  obtain ⟨n4, n8, d100⟩ := call
  obtain ⟨N, rfl⟩ : ∃ t : Nat, n = t := ⟨n.toNat, by omega⟩
  have q1 : decide (((N : Nat) : Int) < 4) = false := decide_eq_false (by omega)
  have q2 : decide ((8 : Int) < ((N : Nat) : Int)) = false := decide_eq_false (by omega)
  have q3 : decide ((100 : Int) < ((f.d.length : Nat) : Int)) = false := decide_eq_false (by omega)
  have q3n : decide (100 < f.d.length) = false := decide_eq_false (by omega)
  have hs := fun W => Lib.hid (show Calls Try.prog 16 #[.int .i64 (N : Nat), .int .i64 1] W fun e w' => ∃ v, e = .returned (.agg #[v, .int .i64 1, .int .i64 10, .int .i64 13]) ∧ OwnsD w' W.heap.size v (gsmL N) ∧ Below W.heap.size W w' from some_au N 1 (by omega) (by omega) W)
  have hF := fun W v u (h : SeesT W W.heap.size v (gsmL N)) (hu : SeesAc W W.heap.size u [⟨5, 0, 0, [], [f]⟩]) => Lib.hid (show Calls Try.prog 11 #[.agg #[v, .int .i64 1, .int .i64 10, .int .i64 13], u] W fun e w' => e = .returned (.bool (ftFair 10 f)) ∧ Below W.heap.size W w' by
    have := Fair_au (gsmT N 1) v u [⟨5, 0, 0, [], [f]⟩] W h hu (by simp)
    rw [one_fair N f (by omega) (by omega)] at this
    exact this)
  have hG := fun W v u (h : SeesT W W.heap.size v (gsmL N)) (hu : SeesAc W W.heap.size u [⟨5, 0, 0, [], [f]⟩]) => Lib.hid (show Calls Try.prog 12 #[.agg #[v, .int .i64 1, .int .i64 10, .int .i64 13], u] W fun e w' => e = .returned (.bool (ftFair 10 f)) ∧ Below W.heap.size W w' by
    have := FairR_au (gsmT N 1) v u [⟨5, 0, 0, [], [f]⟩] W h hu (by simp)
    rw [one_fair N f (by omega) (by omega)] at this
    exact this)
  have hT := fun W v u (h : SeesT W W.heap.size v (gsmL N)) (hu : SeesAc W W.heap.size u [⟨5, 0, 0, [], [f, f]⟩]) => Lib.hid (show Calls Try.prog 11 #[.agg #[v, .int .i64 1, .int .i64 10, .int .i64 13], u] W fun e w' => e = .returned (.bool false) ∧ Below W.heap.size W w' by
    have := Fair_au (gsmT N 1) v u [⟨5, 0, 0, [], [f, f]⟩] W h hu (by simp)
    rw [two_fair N f (by omega) (by omega)] at this
    exact this)
  have hH := fun W u (hu : SeesAc W W.heap.size u [⟨5, 0, 0, [], [f]⟩]) => Lib.hid (Hit_au u _ W hu)
  have hI := fun W u (hu : SeesAc W W.heap.size u [⟨5, 0, 0, [], [f]⟩]) => Lib.hid (HitR_au u _ W hu)
  have hK := fun W => Lib.hid (known_au W)
  generalize auHit [⟨5, 0, 0, [], [f]⟩] = H at *
  generalize ftFair 10 f = Q at *
  have x0 := X.cell 0 (x := .int .i64 f.k) rfl
  have x1 := X.cell 1 (x := .int .i64 f.n) rfl
  have x2 := X.cell 2 (x := .int .i64 f.a) rfl
  have x3 := X.cell 3 (x := .slice A f.d.length c) rfl
  have hz := X.lt
  go_enter Try.func5, Try.ntmps5
  go_wp2_with fail
  have ez0 : (w.alloc (.cells #[.int .i64 f.k, .int .i64 f.n, .int .i64 f.a, .slice A f.d.length c] 32)).heap.size = w.heap.size + 1 := by simp
  have ez2 : (((w.alloc (.cells #[.int .i64 f.k, .int .i64 f.n, .int .i64 f.a, .slice A f.d.length c] 32)).alloc (.cells #[.int .i64 f.k, .int .i64 f.n, .int .i64 f.a, .slice A f.d.length c] 32)).alloc (.cells #[.int .i64 5, .int .i64 0, .int .i64 0, .slice none 0 0, .slice (some ⟨w.heap.size + 1, 0, none⟩) 1 1] 35)).heap.size = w.heap.size + 1 + 1 + 1 := by simp
  have hl := SeesAc.slot1 (w.alloc (.cells #[.int .i64 f.k, .int .i64 f.n, .int .i64 f.a, .slice A f.d.length c] 32)) (w.heap.size + 1 + 1) (by simp) f (.slice A f.d.length c) ((hv.below hb0).more hb0.size) hby
  rw [ez0] at hl
  have hb2 := (hb0.alloc (by simp) (.cells #[.int .i64 f.k, .int .i64 f.n, .int .i64 f.a, .slice A f.d.length c] 32)).alloc (by simp <;> omega) (.cells #[.int .i64 5, .int .i64 0, .int .i64 0, .slice none 0 0, .slice (some ⟨w.heap.size + 1, 0, none⟩) 1 1] 35)
  have ht := SeesAc.slot2 (((w.alloc (.cells #[.int .i64 f.k, .int .i64 f.n, .int .i64 f.a, .slice A f.d.length c] 32)).alloc (.cells #[.int .i64 f.k, .int .i64 f.n, .int .i64 f.a, .slice A f.d.length c] 32)).alloc (.cells #[.int .i64 5, .int .i64 0, .int .i64 0, .slice none 0 0, .slice (some ⟨w.heap.size + 1, 0, none⟩) 1 1] 35)) (w.heap.size + 1 + 1 + 1 + 1) (by simp) f (.slice A f.d.length c) ((hv.below hb2).more hb2.size) hby
  rw [ez2] at ht
  have hb4 := (hb2.alloc (by simp <;> omega) (.cells #[.int .i64 f.k, .int .i64 f.n, .int .i64 f.a, .slice A f.d.length c, .int .i64 f.k, .int .i64 f.n, .int .i64 f.a, .slice A f.d.length c] 32)).alloc (by simp <;> omega) (.cells #[.int .i64 5, .int .i64 0, .int .i64 0, .slice none 0 0, .slice (some ⟨w.heap.size + 1 + 1 + 1, 0, none⟩) 2 2] 35)
  have hl4 := (hl.below (((Below.refl _ _).alloc (Nat.le_refl _) (.cells #[.int .i64 f.k, .int .i64 f.n, .int .i64 f.a, .slice A f.d.length c, .int .i64 f.k, .int .i64 f.n, .int .i64 f.a, .slice A f.d.length c] 32)).alloc (by simp) (.cells #[.int .i64 5, .int .i64 0, .int .i64 0, .slice none 0 0, .slice (some ⟨w.heap.size + 1 + 1 + 1, 0, none⟩) 2 2] 35))).more (by simp <;> omega : _ ≤ (((((w.alloc (.cells #[.int .i64 f.k, .int .i64 f.n, .int .i64 f.a, .slice A f.d.length c] 32)).alloc (.cells #[.int .i64 f.k, .int .i64 f.n, .int .i64 f.a, .slice A f.d.length c] 32)).alloc (.cells #[.int .i64 5, .int .i64 0, .int .i64 0, .slice none 0 0, .slice (some ⟨w.heap.size + 1, 0, none⟩) 1 1] 35)).alloc (.cells #[.int .i64 f.k, .int .i64 f.n, .int .i64 f.a, .slice A f.d.length c, .int .i64 f.k, .int .i64 f.n, .int .i64 f.a, .slice A f.d.length c] 32)).alloc (.cells #[.int .i64 5, .int .i64 0, .int .i64 0, .slice none 0 0, .slice (some ⟨w.heap.size + 1 + 1 + 1, 0, none⟩) 2 2] 35)).heap.size)
  generalize (((((w.alloc (.cells #[.int .i64 f.k, .int .i64 f.n, .int .i64 f.a, .slice A f.d.length c] 32)).alloc (.cells #[.int .i64 f.k, .int .i64 f.n, .int .i64 f.a, .slice A f.d.length c] 32)).alloc (.cells #[.int .i64 5, .int .i64 0, .int .i64 0, .slice none 0 0, .slice (some ⟨w.heap.size + 1, 0, none⟩) 1 1] 35)).alloc (.cells #[.int .i64 f.k, .int .i64 f.n, .int .i64 f.a, .slice A f.d.length c, .int .i64 f.k, .int .i64 f.n, .int .i64 f.a, .slice A f.d.length c] 32)).alloc (.cells #[.int .i64 5, .int .i64 0, .int .i64 0, .slice none 0 0, .slice (some ⟨w.heap.size + 1 + 1 + 1, 0, none⟩) 2 2] 35)) = w4 at *
  have hl4 := Lib.hid hl4
  have ht4 := Lib.hid ht
  have hb4 := Lib.hid hb4
  clear ht hb2 hl hb0 X x0 x1 x2 x3 hv ez0 ez2
  refine (hs _).out.mono ?_
  rintro e w5 ⟨v5, rfl, ho, b⟩
  have hv5 := Lib.hid ho.sees
  have hl5 := Lib.hid ((hl4.out.below b).more b.size)
  have ht5 := Lib.hid ((ht4.out.below b).more b.size)
  have hb5 := Lib.hid (hb4.out.trans (b.mono hb4.out.size))
  clear ho b hl4 ht4 hb4
  go_wp2_with fail
  refine (hF _ _ _ hv5.out hl5.out).out.mono ?_
  rintro e w6 ⟨rfl, b⟩
  have hl6 := Lib.hid ((hl5.out.below b).more b.size)
  have ht6 := Lib.hid ((ht5.out.below b).more b.size)
  have hb6 := Lib.hid (hb5.out.trans (b.mono hb5.out.size))
  clear b hl5 ht5 hb5
  go_wp2_with fail
  refine (hs _).out.mono ?_
  rintro e w7 ⟨v7, rfl, ho, b⟩
  have hv7 := Lib.hid ho.sees
  have hl7 := Lib.hid ((hl6.out.below b).more b.size)
  have ht7 := Lib.hid ((ht6.out.below b).more b.size)
  have hb7 := Lib.hid (hb6.out.trans (b.mono hb6.out.size))
  clear ho b hl6 ht6 hb6
  go_wp2_with fail
  refine (hG _ _ _ hv7.out hl7.out).out.mono ?_
  rintro e w8 ⟨rfl, b⟩
  have hl8 := Lib.hid ((hl7.out.below b).more b.size)
  have ht8 := Lib.hid ((ht7.out.below b).more b.size)
  have hb8 := Lib.hid (hb7.out.trans (b.mono hb7.out.size))
  clear b hl7 ht7 hb7
  go_wp2_with fail
  refine (hs _).out.mono ?_
  rintro e w9 ⟨v9, rfl, ho, b⟩
  have hv9 := Lib.hid ho.sees
  have hl9 := Lib.hid ((hl8.out.below b).more b.size)
  have ht9 := Lib.hid ((ht8.out.below b).more b.size)
  have hb9 := Lib.hid (hb8.out.trans (b.mono hb8.out.size))
  clear ho b hl8 ht8 hb8
  go_wp2_with fail
  refine (hT _ _ _ hv9.out ht9.out).out.mono ?_
  rintro e w10 ⟨rfl, b⟩
  have hl10 := Lib.hid ((hl9.out.below b).more b.size)
  have ht10 := Lib.hid ((ht9.out.below b).more b.size)
  have hb10 := Lib.hid (hb9.out.trans (b.mono hb9.out.size))
  clear b hl9 ht9 hb9
  go_wp2_with fail
  refine (hH _ _ hl10.out).out.mono ?_
  rintro e w11 ⟨rfl, b⟩
  have hl11 := Lib.hid ((hl10.out.below b).more b.size)
  have ht11 := Lib.hid ((ht10.out.below b).more b.size)
  have hb11 := Lib.hid (hb10.out.trans (b.mono hb10.out.size))
  clear b hl10 ht10 hb10
  go_wp2_with fail
  refine (hI _ _ hl11.out).out.mono ?_
  rintro e w12 ⟨rfl, b⟩
  have hl12 := Lib.hid ((hl11.out.below b).more b.size)
  have ht12 := Lib.hid ((ht11.out.below b).more b.size)
  have hb12 := Lib.hid (hb11.out.trans (b.mono hb11.out.size))
  clear b hl11 ht11 hb11
  go_wp2_with fail
  refine (hK _).out.mono ?_
  rintro e w13 ⟨rfl, b⟩
  have hb13 := Lib.hid (hb12.out.trans (b.mono hb12.out.size))
  clear b hl12 ht12 hb12
  go_wp2_with fail
  go_ret
  exact ⟨rfl, hb13.out⟩
theorem walk_auditFaults (n : Int) (f : Ft) (A : Option Addr) (c : Nat) (w : World) (_h_n : -9223372036854775808 ≤ n ∧ n ≤ 9223372036854775807) (hv : SeesL w w.heap.size (.slice A f.d.length c) f.d) (hby : bytesL f.d) :
    Calls Try.prog 5 #[.int .i64 n, .agg #[.int .i64 f.k, .int .i64 f.n, .int .i64 f.a, .slice A f.d.length c]] w fun e w' => e = .returned (.bool true) ∧ Below w.heap.size w w' := core_auditFaults n f A c w hv hby

/-! ### THE ROW's STEP around the walk. -/
theorem own_auditFaults : ownKnob Try.prog.godebug = none := by kernel_rfl
theorem laidOut_auditFaults : laidOutB Try.prog = true := by kernel_rfl
set_option maxRecDepth 100000 in
theorem lifted_auditFaults (os : Os) (started : os.Started) (H : Type) (enc : TypeId × Value → H) :
    ReturnsInHanded {} Try.checked os 5 .any (Rows.auditFaultsSpec.pre6 enc Try.prog Try.f5 Rows.auditFaultsRow.domain false) (Rows.auditFaultsSpec.post enc Try.prog Try.f5 false true false false) := by
  refine returnsInHanded_of_change (C := Try.checked) own_auditFaults started (by kernel_rfl) Try.func5
    (ChangeSpec.witness6 (enc := enc) (C := Try.checked) false ⟨#[], #[.int .i64 0, .agg #[.int .i64 0, .int .i64 0, .int .i64 0, .slice none 0 0]], []⟩ 8 (by kernel_rfl) (by kernel_rfl) (by kernel_rfl) (by kernel_rfl)) ?_
  intro W base args ds gs before hval0 hW hcnd _
  have hval : ∀ (j : Nat) t v, Try.f5.params[j]? = some t → args[j]? = some v → Value.okWide Try.prog W .any base t v := hval0
  have hW' := hW
  obtain ⟨p, q, hA0, hV, rfl, hfz, hnd⟩ := hW
  have hA : DataW.TrodAll enc Try.prog W 0 (fun _ => true) true Try.f5.params.toList args.toList ds p := hA0
  rw [Try.params5] at hA hval
  obtain ⟨v0, vs0, d0, ds0, p0, q0, hargs, rfl, rfl, h0, r0⟩ := trodAll_cons hA
  obtain ⟨v1, vs1, d1, ds1, p1, q1, rfl, rfl, rfl, h1, r1⟩ := trodAll_cons r0
  obtain ⟨rfl, rfl, rfl⟩ := trodAll_nil r1
  obtain rfl : args = #[v0, v1] := by cases args; simp_all
  obtain ⟨rfl, rfl⟩ := trodVars_none hV
  obtain ⟨a0, rfl, rfl, rfl, w0⟩ := open_int Try.underlying3 (hval 0 3 v0 rfl rfl) h0
  obtain ⟨y1, A1, c1, rfl, s1, b1⟩ := sees_fault Try.underlying32 (by kernel_rfl) ⟨rfl, rfl⟩ ⟨rfl, rfl⟩ ⟨rfl, rfl⟩ ⟨rfl, rfl⟩ Try.underlying3 Try.underlying30 Try.underlying5 (by kernel_rfl) (by kernel_rfl) (by kernel_rfl) (hval 1 32 v1 rfl rfl) h1
  have k1 := h1
  have lt1 : ∀ x ∈ p1, x.block < W.heap.size := by obtain ⟨m, hm⟩ := k1; exact DataW.trod_lt m _ _ _ hm
  clear hA0 hval0
  refine (walk_auditFaults a0 y1 A1 c1 W (bounds_i64 w0) s1 b1).mono fun e W' ⟨he, bel⟩ => ?_
  subst he
  exact ⟨_, rfl, _, _, _, [], _, [], hW', trodAll_mk1 (shut_bool Try.underlying4 _), (trodAll_cons_mk (shut_int Try.underlying3 w0) (trodAll_cons_mk (Below.trod laidOut_auditFaults (by kernel_rfl) (of_decide_eq_true (by kernel_rfl)) k1 bel lt1) trodAll_mk0)), rfl, bel.frame _, fun h => by cases h⟩

theorem over_auditFaults : Rows.auditFaultsRow.holds Try.pinned (OpenSpec.ofChange Rows.auditFaultsSpec) :=
  OpenClaim.holds_of_wide 5 Try.f5 rfl rfl rfl rfl rfl rfl rfl ⟨rfl, rfl, rfl, rfl, rfl⟩ rfl rfl rfl rfl rfl (by kernel_rfl) Try.func5 (by kernel_rfl)
    (of_decide_eq_true (by kernel_rfl)) (by unfold Func.isWrapper; first | (rw [if_pos (by decide +kernel)]; kernel_rfl) | (rw [if_neg (by decide +kernel)]; exact ⟨rfl, rfl⟩))
    (fun os started H enc _ => lifted_auditFaults os started H enc)

theorem proved_auditFaults : Rows.AuditFaultsSaid := over_auditFaults
end Go.Proofs.Ytkaeikjfegjpjaa
