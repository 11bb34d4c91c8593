/- TableTells holds: of any table whether it may be, its bytes, or refused, as the document says. For all tables. -/
import Derived.Test.YtpkdfdlchidmlaaTbP
import Derived.Test.YtpkdfdlchidmlaaTbK
import Derived.Test.YtpkdfdlchidmlaaTbO
namespace Go.Proofs.Ytpkdfdlchidmlaa
open Go.ChangeShapes Go.WideShapes Go.ChangeAt Go.RowKit
open Go.ChangeMaps (open_string shut_string)
open Tb (D T)

set_option maxRecDepth 100000 in
set_option maxHeartbeats 8000000 in
theorem walk_tableTells (t : T) (v : Value) (w : World) (h : InTable w t v) :
    Calls Try.prog 3 #[tabV t v] w fun e w' => e = .returned (.bool true) ∧ Below w.heap.size w w' := by
  obtain ⟨hv, -, -, -⟩ := h
  have R1 := fun W (hb : Below w.heap.size w W) => pack_tb t v W w.heap.size hb.size (hv.below hb)
  have R2 := fun W (hb : Below w.heap.size w W) => pack_rf t v W w.heap.size hb.size (hv.below hb)
  have R3 := fun W (hb : Below w.heap.size w W) => is_tb t v W w.heap.size hb.size (hv.below hb)
  have R4 := fun W (hb : Below w.heap.size w W) => is_rf t v W w.heap.size hb.size (hv.below hb)
  obtain ⟨A, c, rfl, c1, c2, -, -⟩ := hv.at_
  have hbx := fun o => (Below.refl w.heap.size w).alloc (Nat.le_refl _) o
  unfold Pk at R1 R2
  have hE : pkE t = 0 ∨ pkE t = 1 := by unfold pkE; split <;> simp
  generalize pkR t = L at *
  generalize pkE t = E at *
  generalize t.is = I at *
  obtain ⟨ns, dr, wi, lm⟩ := t
  unfold tabV at R1 R2 R3 R4 ⊢
  simp only at R1 R2 R3 R4 c1 ⊢
  clear hv
  by_cases h0 : 50 < ns.length
  · have q1 : decide ((50 : Int) < (ns.length : Nat)) = true := by simp; omega
    go_enter Try.func3, Try.ntmps3
    go_wp2
    go_ret
    exact ⟨rfl, hbx _⟩
  have q1 : decide ((50 : Int) < (ns.length : Nat)) = false := by simp; omega
  have R1 := fun W h => Lib.hid (R1 W h)
  have R2 := fun W h => Lib.hid (R2 W h)
  have R3 := fun W h => Lib.hid (R3 W h)
  have R4 := fun W h => Lib.hid (R4 W h)
  have hT0 := Blk.new w _ rfl #[.slice A ns.length c, .int .i64 dr, .int .i64 wi, .int .i64 lm] 24
  have hb0 := hbx (.cells #[.slice A ns.length c, .int .i64 dr, .int .i64 wi, .int .i64 lm] 24)
  clear hbx hE
  go_enter Try.func3, Try.ntmps3
  go_wp2_with fail
  generalize w.alloc (.cells #[.slice A ns.length c, .int .i64 dr, .int .i64 wi, .int .i64 lm] 24) = w0 at *
  refine (R1 w0 hb0).out.mono ?_
  rintro e w1 ⟨v1, rfl, ho1, hb1⟩
  obtain ⟨A1, d1, rfl, -⟩ := ho1.sees.at_
  have hT1 := hT0.below hb1 hT0.lt
  have t0 := hT1.cell 0 rfl
  have t1 := hT1.cell 1 rfl
  have t2 := hT1.cell 2 rfl
  have t3 := hT1.cell 3 rfl
  have hb1' := hb0.trans (hb1.mono hb0.size)
  go_wp2_with fail
  refine (R2 w1 hb1').out.mono ?_
  rintro e w2 ⟨v2, rfl, ho2, hb⟩
  obtain ⟨A2, d2, rfl, -⟩ := ho2.sees.at_
  have hb2 := hb1'.trans (hb.mono hb1'.size)
  have s1 := (ho1.sees.below hb).more hb.size
  have s2 := ho2.sees
  have hT2 := hT1.below hb hT1.lt
  have K := Lib.hid (show ∀ W, Below w2.heap.size w2 W → (W.cell? ⟨w.heap.size, 0, none⟩ = some (.slice A ns.length c) ∧ W.cell? ⟨w.heap.size, 1, none⟩ = some (.int .i64 dr) ∧ W.cell? ⟨w.heap.size, 2, none⟩ = some (.int .i64 wi) ∧ W.cell? ⟨w.heap.size, 3, none⟩ = some (.int .i64 lm)) ∧ (convert 25 9 (.slice A1 L.length d1)).run Try.prog W = .ok (.string (textL L)) W ∧ (convert 25 9 (.slice A2 L.length d2)).run Try.prog W = .ok (.string (textL L)) W from
    fun W h => by
      have u := hT2.below h hT2.lt
      exact ⟨⟨u.cell 0 rfl, u.cell 1 rfl, u.cell 2 rfl, u.cell 3 rfl⟩, run_textL (s1.below h), run_textL (s2.below h)⟩)
  have hb00 := Below.refl w2.heap.size w2
  clear t0 t1 t2 t3 hT0 hT1 hT2 s1 s2 ho1 ho2 R1 R2 hb hb1 hb1'
  go_wp2_with fail
  go_region_held3 (fun W => (W.cell? ⟨w.heap.size, 0, none⟩ = some (.slice A ns.length c) ∧ W.cell? ⟨w.heap.size, 1, none⟩ = some (.int .i64 dr) ∧ W.cell? ⟨w.heap.size, 2, none⟩ = some (.int .i64 wi) ∧ W.cell? ⟨w.heap.size, 3, none⟩ = some (.int .i64 lm)) ∧ (convert 25 9 (.slice A1 L.length d1)).run Try.prog W = .ok (.string (textL L)) W ∧ (convert 25 9 (.slice A2 L.length d2)).run Try.prog W = .ok (.string (textL L)) W)
    ((refine K.out _ ?_; first | exact hb00 | exact hb00.drew | exact hb3 | exact hb4 | exact hb5))
    (first
      | ((go_at_call 16; refine (R3 _ ?_).out.mono ?_); (first | exact hb2 | exact hb2.drew); rintro e w3 ⟨rfl, hb⟩; have hb3 := hb00.drew.trans (hb.mono hb00.size))
      | ((go_at_call 17; refine (R4 _ ?_).out.mono ?_); exact hb2.trans (hb3.mono hb2.size); rintro e w4 ⟨rfl, hb⟩; have hb4 := hb3.trans (hb.mono hb3.size))
      | ((go_at_call 18; refine (known_tb _).mono ?_); rintro e w5 ⟨rfl, hb⟩; have hb5 := hb4.trans (hb.mono hb4.size))
      | fail)
  all_goals
    go_wp2
    go_ret
    exact ⟨by simp, hb2.trans (hb5.mono hb2.size)⟩

/-! ### THE ROW's STEP around the walk. -/
theorem own_tableTells : ownKnob Try.prog.godebug = none := by kernel_rfl
theorem laidOut_tableTells : laidOutB Try.prog = true := by kernel_rfl
set_option maxRecDepth 100000 in
theorem lifted_tableTells (os : Os) (started : os.Started) (H : Type) (enc : TypeId × Value → H) :
    ReturnsInHanded {} Try.checked os 3 .any (Rows.tableTellsSpec.pre6 enc Try.prog Try.f3 Rows.tableTellsRow.domain false) (Rows.tableTellsSpec.post enc Try.prog Try.f3 false true false false) := by
  refine returnsInHanded_of_change (C := Try.checked) own_tableTells started (by kernel_rfl) Try.func3
    (ChangeSpec.witness6 (enc := enc) (C := Try.checked) false ⟨#[], #[.agg #[.slice none 0 0, .int .i64 0, .int .i64 0, .int .i64 0]], []⟩ 8 (by kernel_rfl) (by kernel_rfl) (by kernel_rfl) (by kernel_rfl)) ?_
  intro W base args ds gs before hval0 hW hcnd _
  have hval : ∀ (j : Nat) t v, Try.f3.params[j]? = some t → args[j]? = some v → Value.okWide Try.prog W .any base t v := hval0
  have hW' := hW
  obtain ⟨p, q, hA0, hV, rfl, hfz, hnd⟩ := hW
  have hA : DataW.TrodAll enc Try.prog W 0 (fun _ => true) true Try.f3.params.toList args.toList ds p := hA0
  rw [Try.params3] at hA hval
  obtain ⟨v0, vs0, d0, ds0, p0, q0, hargs, rfl, rfl, h0, r0⟩ := trodAll_cons hA
  obtain ⟨rfl, rfl, rfl⟩ := trodAll_nil r0
  obtain rfl : args = #[v0] := by cases args; simp_all
  obtain ⟨rfl, rfl⟩ := trodVars_none hV
  obtain ⟨y0, x0, rfl, s0⟩ := sees_table Try.underlying24 (by kernel_rfl) ⟨rfl, rfl⟩ ⟨rfl, rfl⟩ ⟨rfl, rfl⟩ ⟨rfl, rfl⟩ Try.underlying22 (by kernel_rfl) Try.underlying42 (by kernel_rfl) ⟨rfl, rfl⟩ ⟨rfl, rfl⟩ ⟨rfl, rfl⟩ ⟨rfl, rfl⟩ Try.underlying3 Try.underlying4 (by kernel_rfl) (by kernel_rfl) (hval 0 24 v0 rfl rfl) h0
  have k0 := h0
  have lt0 : ∀ x ∈ p0, x.block < W.heap.size := by obtain ⟨m, hm⟩ := k0; exact DataW.trod_lt m _ _ _ hm
  clear hA0 hval0
  refine (walk_tableTells y0 x0 W s0).mono fun e W' ⟨he, bel⟩ => ?_
  subst he
  exact ⟨_, rfl, _, _, _, [], _, [], hW', trodAll_mk1 (shut_bool Try.underlying4 _), (trodAll_cons_mk (Below.trod laidOut_tableTells (by kernel_rfl) (of_decide_eq_true (by kernel_rfl)) k0 bel lt0) trodAll_mk0), rfl, bel.frame _, fun h => by cases h⟩

theorem over_tableTells : Rows.tableTellsRow.holds Try.pinned (OpenSpec.ofChange Rows.tableTellsSpec) :=
  OpenClaim.holds_of_wide 3 Try.f3 rfl rfl rfl rfl rfl rfl rfl ⟨rfl, rfl, rfl, rfl, rfl⟩ rfl rfl rfl rfl rfl (by kernel_rfl) Try.func3 (by kernel_rfl)
    (of_decide_eq_true (by kernel_rfl)) (by unfold Func.isWrapper; first | (rw [if_pos (by decide +kernel)]; kernel_rfl) | (rw [if_neg (by decide +kernel)]; exact ⟨rfl, rfl⟩))
    (fun os started H enc _ => lifted_tableTells os started H enc)

theorem proved_tableTells : Rows.TableTellsSaid := over_tableTells
end Go.Proofs.Ytpkdfdlchidmlaa
