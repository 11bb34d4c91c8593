/- TableTakes holds: any bytes as a table, or refused. For all bytes. -/
import Derived.Test.YtmddokenjdlgfaaTbU
import Derived.Test.YtmddokenjdlgfaaTbS
import Derived.Test.YtmddokenjdlgfaaTbO
namespace Go.Proofs.Ytmddokenjdlgfaa
open Go.ChangeShapes Go.WideShapes Go.ChangeAt Go.RowKit
open Go.ChangeMaps (open_string shut_string)
open Tb (D T)

set_option maxRecDepth 100000 in
set_option maxHeartbeats 4000000 in
theorem walk_tableTakes0 (v : Value) (l : List Int) (w : World) (hv : SeesL w w.heap.size v l) (hl : bytesL l) :
    Calls Try.prog 4 #[v] w fun e w' => e = .returned (.bool true) ∧ Below w.heap.size w w' := by
  obtain ⟨A, c, rfl, c1, c2, -, -⟩ := hv.at_
  by_cases h0 : 200 < l.length
  · have q1 : decide ((200 : Int) < (l.length : Nat)) = true := by simp; omega
    go_enter Try.func4, Try.ntmps4
    go_wp2
    go_ret
    exact ⟨rfl, Below.refl _ _⟩
  have q1 : decide ((200 : Int) < (l.length : Nat)) = false := by simp; omega
  have R1 := fun u W (h : SeesL W W.heap.size u l) => unpack_tb u l W h hl
  have R2 := fun W (h : Below w.heap.size w W) => unpack_rf (.slice A l.length c) l W ((hv.below h).more h.size) hl
  have R3 := fun u u' W (h : SeesT W W.heap.size u (Tb.res l).ns) (h' : SeesT W W.heap.size u' (Tb.res l).ns) => same_rf (Tb.res l) (Tb.res l) u u' W W.heap.size (Nat.le_refl _) h h'
  unfold Un at R1 R2
  simp only [decide_true] at R3
  generalize Tb.res l = t at *
  generalize Tb.err l = er at *
  obtain ⟨ns, dr, wi, lm⟩ := t
  unfold tabV at R1 R2 R3
  simp only at R1 R2 R3
  have R1 := fun u W h => Lib.hid (R1 u W h)
  have R2 := fun W h => Lib.hid (R2 W h)
  have R3 := fun u u' W h h' => Lib.hid (R3 u u' W h h')
  have hem := Lib.hid (owns_empty w 5 rfl w.heap.size w.heap.size (Nat.le_refl _) rfl)
  have hse := Lib.hid (hv.alloc (.cells #[] 5))
  have hee : (er == er) = true := by simp
  clear hv hl
  go_enter Try.func4, Try.ntmps4
  go_wp2_with (at_builtin; go_loud (refine wpList_pushL _ rfl (.tmp 11) (.tmp 12) 25 rfl w.heap.size infoU8 Try.underlying25 _ [] hem.out rfl _ _ l rfl hse.out (by simp) (by simp; omega) ?_))
  intro v1 w1 ho1 hx1
  have hb1 := ((Below.refl w.heap.size w).alloc (Nat.le_refl _) (.cells #[] 5)).trans (hx1.toBelow (B := w.heap.size) (by simp) (fun j hj => by simp [Value.ownBlock] at hj; omega))
  have hs1 : SeesL w1 w1.heap.size v1 l := ho1.sees
  clear hem hse ho1 hx1
  go_wp2_with fail
  refine (R1 _ w1 hs1).out.mono ?_
  rintro e w2 ⟨u1, rfl, ho2, hb2⟩
  have hb2 := hb1.trans (hb2.mono hb1.size)
  obtain ⟨A1, d1, rfl, -⟩ := ho2.sees.at_
  have hT1 := Blk.new w2 _ rfl #[.slice A1 ns.length d1, .int .i64 dr, .int .i64 wi, .int .i64 lm] 24
  have ho2a := ho2.alloc (.cells #[.slice A1 ns.length d1, .int .i64 dr, .int .i64 wi, .int .i64 lm] 24)
  have hb2a := hb2.alloc hb2.size (.cells #[.slice A1 ns.length d1, .int .i64 dr, .int .i64 wi, .int .i64 lm] 24)
  clear hs1 ho2 R1
  go_wp2_with fail
  generalize w2.alloc (.cells #[.slice A1 ns.length d1, .int .i64 dr, .int .i64 wi, .int .i64 lm] 24) = w2a at *
  refine (R2 w2a hb2a).out.mono ?_
  rintro e w3 ⟨u2, rfl, ho3, hb3⟩
  have hT1b := hT1.below hb3 hT1.lt
  have hs2 := (ho2a.sees.below hb3).more hb3.size
  have hb3 := hb2a.trans (hb3.mono hb2a.size)
  obtain ⟨A2, d2, rfl, -⟩ := ho3.sees.at_
  have hT2 := Blk.new w3 _ rfl #[.slice A2 ns.length d2, .int .i64 dr, .int .i64 wi, .int .i64 lm] 24
  have hT1c := hT1b.alloc (.cells #[.slice A2 ns.length d2, .int .i64 dr, .int .i64 wi, .int .i64 lm] 24)
  have hs2c := (hs2.below ((Below.refl _ _).alloc (Nat.le_refl _) (.cells #[.slice A2 ns.length d2, .int .i64 dr, .int .i64 wi, .int .i64 lm] 24))).more (B' := (w3.alloc (.cells #[.slice A2 ns.length d2, .int .i64 dr, .int .i64 wi, .int .i64 lm] 24)).heap.size) (by simp)
  have hs3c := (ho3.sees.below ((Below.refl _ _).alloc (Nat.le_refl _) (.cells #[.slice A2 ns.length d2, .int .i64 dr, .int .i64 wi, .int .i64 lm] 24))).more (B' := (w3.alloc (.cells #[.slice A2 ns.length d2, .int .i64 dr, .int .i64 wi, .int .i64 lm] 24)).heap.size) (by simp)
  have hb3a := hb3.alloc hb3.size (.cells #[.slice A2 ns.length d2, .int .i64 dr, .int .i64 wi, .int .i64 lm] 24)
  have p0 := hT1c.cell 0 rfl
  have p1 := hT1c.cell 1 rfl
  have p2 := hT1c.cell 2 rfl
  have p3 := hT1c.cell 3 rfl
  have s0 := hT2.cell 0 rfl
  have s1 := hT2.cell 1 rfl
  have s2 := hT2.cell 2 rfl
  have s3 := hT2.cell 3 rfl
  clear hT1 hT1b hT1c hT2 ho2a ho3 hs2 R2
  go_wp2_with fail
  refine (R3 _ _ _ hs2c hs3c).out.mono ?_
  rintro e w4 ⟨rfl, hb4⟩
  have hb4 := hb3a.trans (hb4.mono hb3a.size)
  go_wp2_with fail
  refine (known_tb _).mono ?_
  rintro e w5 ⟨rfl, hb5⟩
  have hb5 := hb4.trans (hb5.mono hb4.size)
  go_wp2
  go_ret
  exact ⟨rfl, hb5⟩
theorem walk_tableTakes (A : Option Addr) (n c : Nat) (z : Nat → Int) (w : World) (h : InBytesN w A n c z) :
    Calls Try.prog 4 #[.slice A n c] w fun e w' => e = .returned (.bool true) ∧ Below w.heap.size w w' :=
  walk_tableTakes0 _ _ w h.list.1 h.list.2

/-! ### THE ROW's STEP around the walk. -/
theorem own_tableTakes : ownKnob Try.prog.godebug = none := by kernel_rfl
theorem laidOut_tableTakes : laidOutB Try.prog = true := by kernel_rfl
set_option maxRecDepth 100000 in
theorem lifted_tableTakes (os : Os) (started : os.Started) (H : Type) (enc : TypeId × Value → H) :
    ReturnsInHanded {} Try.checked os 4 .any (Rows.tableTakesSpec.pre6 enc Try.prog Try.f4 Rows.tableTakesRow.domain false) (Rows.tableTakesSpec.post enc Try.prog Try.f4 false true false false) := by
  refine returnsInHanded_of_change_sized (C := Try.checked) own_tableTakes started (by kernel_rfl) Try.func4
    (ChangeSpec.witness6 (enc := enc) (C := Try.checked) false ⟨#[], #[.slice none 0 0], []⟩ 8 (by kernel_rfl) (by kernel_rfl) (by kernel_rfl) (by kernel_rfl)) ?_
  intro W base args ds gs before hval0 hW hcnd hsz0 _
  have hval : ∀ (j : Nat) t v, Try.f4.params[j]? = some t → args[j]? = some v → Value.okWide Try.prog W .any base t v := hval0
  have hW' := hW
  obtain ⟨p, q, hA0, hV, rfl, hfz, hnd⟩ := hW
  have hA : DataW.TrodAll enc Try.prog W 0 (fun _ => true) true Try.f4.params.toList args.toList ds p := hA0
  have hsz : (DataW.weightsEach Try.prog (Try.f4.params.toList ++ Rows.tableTakesSpec.plain.varTypes Try.prog) (ds ++ gs)).all (· ≤ reachBytes) = true := hsz0
  rw [Try.params4] at hA hval hsz
  obtain ⟨v0, vs0, d0, ds0, p0, q0, hargs, rfl, rfl, h0, r0⟩ := trodAll_cons hA
  obtain ⟨rfl, rfl, rfl⟩ := trodAll_nil r0
  obtain rfl : args = #[v0] := by cases args; simp_all
  obtain ⟨rfl, rfl⟩ := trodVars_none hV
  obtain ⟨A0, n0, c0, rfl⟩ := okWide_slice Try.underlying25 (hval 0 25 v0 rfl rfl)
  have k0 := h0
  have lt0 : ∀ x ∈ p0, x.block < W.heap.size := by obtain ⟨m, hm⟩ := k0; exact DataW.trod_lt m _ _ _ hm
  obtain ⟨z0, s0⟩ := sees_bytesn Try.underlying25 Try.underlying5 (by kernel_rfl) h0 (by kernel_rfl) (fun _ _ hd => sized_slice hsz (j := 0) (t := 25) (e := 5) rfl (congrArg some hd) Try.underlying25)
  clear hA0 hval0
  refine (walk_tableTakes A0 n0 c0 z0 W s0).mono fun e W' ⟨he, bel⟩ => ?_
  subst he
  exact ⟨_, rfl, _, _, _, [], _, [], hW', trodAll_mk1 (shut_bool Try.underlying4 _), (trodAll_cons_mk (Below.trod laidOut_tableTakes (by kernel_rfl) (of_decide_eq_true (by kernel_rfl)) k0 bel lt0) trodAll_mk0), rfl, bel.frame _, fun h => by cases h⟩

theorem over_tableTakes : Rows.tableTakesRow.holds Try.pinned (OpenSpec.ofChange Rows.tableTakesSpec) :=
  OpenClaim.holds_of_wide 4 Try.f4 rfl rfl rfl rfl rfl rfl rfl ⟨rfl, rfl, rfl, rfl, rfl⟩ rfl rfl rfl rfl rfl (by kernel_rfl) Try.func4 (by kernel_rfl)
    (of_decide_eq_true (by kernel_rfl)) (by unfold Func.isWrapper; first | (rw [if_pos (by decide +kernel)]; kernel_rfl) | (rw [if_neg (by decide +kernel)]; exact ⟨rfl, rfl⟩))
    (fun os started H enc _ => lifted_tableTakes os started H enc)

theorem proved_tableTakes : Rows.TableTakesSaid := over_tableTakes
end Go.Proofs.Ytmddokenjdlgfaa
