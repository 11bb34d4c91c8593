/- TableSame holds: of any two tables whether they are one. For all tables. -/
import Derived.Test.YtpkdfdlchidmlaaTbT
import Derived.Test.YtpkdfdlchidmlaaTbK
import Derived.Test.YtpkdfdlchidmlaaTbO
namespace Go.Proofs.Ytpkdfdlchidmlaa
open Go.ChangeShapes Go.WideShapes Go.ChangeAt Go.RowKit
open Go.ChangeMaps (open_string shut_string)
open Tb (D T)

set_option maxRecDepth 100000 in
set_option maxHeartbeats 8000000 in
theorem walk_tableSame (a : T) (va : Value) (b : T) (vb : Value) (w : World) (ha : InTable w a va) (hb : InTable w b vb) :
    Calls Try.prog 9 #[tabV a va, tabV b vb] w fun e w' => e = .returned (.bool true) ∧ Below w.heap.size w w' := by
  obtain ⟨hva, -, -, -⟩ := ha
  obtain ⟨hvb, -, -, -⟩ := hb
  have R1 := fun W (h : Below w.heap.size w W) => same_tb a b va vb W w.heap.size h.size (hva.below h) (hvb.below h)
  have R2 := fun W (h : Below w.heap.size w W) => same_rf a b va vb W w.heap.size h.size (hva.below h) (hvb.below h)
  have R3 := fun W (h : Below w.heap.size w W) => same_tb a a va va W w.heap.size h.size (hva.below h) (hva.below h)
  simp only [decide_true] at R3
  obtain ⟨A, c, rfl, c1, c2, -, -⟩ := hva.at_
  obtain ⟨A', c', rfl, c1', c2', -, -⟩ := hvb.at_
  have hbb := fun o o' => ((Below.refl w.heap.size w).alloc (Nat.le_refl _) o).alloc (by simp) o'
  generalize decide (a = b) = q at *
  obtain ⟨l, dr, wi, lm⟩ := a
  obtain ⟨l', dr', wi', lm'⟩ := b
  unfold tabV at R1 R2 R3 ⊢
  simp only at R1 R2 R3 c1 c1' ⊢
  clear hva hvb
  by_cases h0 : 50 < l.length
  · have q1 : decide ((50 : Int) < (l.length : Nat)) = true := by simp; omega
    go_enter Try.func9, Try.ntmps9
    go_wp2
    go_ret
    exact ⟨rfl, hbb _ _⟩
  by_cases h1 : 50 < l'.length
  · have q0 : decide ((50 : Int) < (l.length : Nat)) = false := by simp; omega
    have q1 : decide ((50 : Int) < (l'.length : Nat)) = true := by simp; omega
    go_enter Try.func9, Try.ntmps9
    go_wp2
    go_ret
    exact ⟨rfl, hbb _ _⟩
  have q0 : decide ((50 : Int) < (l.length : Nat)) = false := by simp; omega
  have q1 : decide ((50 : Int) < (l'.length : Nat)) = false := by simp; omega
  have R1 := fun W h => Lib.hid (R1 W h)
  have R2 := fun W h => Lib.hid (R2 W h)
  have R3 := fun W h => Lib.hid (R3 W h)
  have hT1 := (Blk.new w _ rfl #[.slice A l.length c, .int .i64 dr, .int .i64 wi, .int .i64 lm] 24).alloc (.cells #[.slice A' l'.length c', .int .i64 dr', .int .i64 wi', .int .i64 lm'] 24)
  have hT2 := Blk.new (w.alloc (.cells #[.slice A l.length c, .int .i64 dr, .int .i64 wi, .int .i64 lm] 24)) (w.heap.size + 1) (by simp) #[.slice A' l'.length c', .int .i64 dr', .int .i64 wi', .int .i64 lm'] 24
  have hb0 := hbb (.cells #[.slice A l.length c, .int .i64 dr, .int .i64 wi, .int .i64 lm] 24) (.cells #[.slice A' l'.length c', .int .i64 dr', .int .i64 wi', .int .i64 lm'] 24)
  go_enter Try.func9, Try.ntmps9
  go_wp2_with fail
  generalize (w.alloc (.cells #[.slice A l.length c, .int .i64 dr, .int .i64 wi, .int .i64 lm] 24)).alloc (.cells #[.slice A' l'.length c', .int .i64 dr', .int .i64 wi', .int .i64 lm'] 24) = w0 at *
  have K := Lib.hid (show ∀ W, Below w0.heap.size w0 W → (W.cell? ⟨w.heap.size, 0, none⟩ = some (.slice A l.length c) ∧ W.cell? ⟨w.heap.size, 1, none⟩ = some (.int .i64 dr) ∧ W.cell? ⟨w.heap.size, 2, none⟩ = some (.int .i64 wi) ∧ W.cell? ⟨w.heap.size, 3, none⟩ = some (.int .i64 lm)) ∧ (W.cell? ⟨w.heap.size + 1, 0, none⟩ = some (.slice A' l'.length c') ∧ W.cell? ⟨w.heap.size + 1, 1, none⟩ = some (.int .i64 dr') ∧ W.cell? ⟨w.heap.size + 1, 2, none⟩ = some (.int .i64 wi') ∧ W.cell? ⟨w.heap.size + 1, 3, none⟩ = some (.int .i64 lm')) from fun W h => by
    have t1 := hT1.below h hT1.lt
    have t2 := hT2.below h hT2.lt
    exact ⟨⟨t1.cell 0 rfl, t1.cell 1 rfl, t1.cell 2 rfl, t1.cell 3 rfl⟩, t2.cell 0 rfl, t2.cell 1 rfl, t2.cell 2 rfl, t2.cell 3 rfl⟩)
  have hb00 := Below.refl w0.heap.size w0
  clear hT1 hT2 hbb
  go_region_held3 (fun W => (W.cell? ⟨w.heap.size, 0, none⟩ = some (.slice A l.length c) ∧ W.cell? ⟨w.heap.size, 1, none⟩ = some (.int .i64 dr) ∧ W.cell? ⟨w.heap.size, 2, none⟩ = some (.int .i64 wi) ∧ W.cell? ⟨w.heap.size, 3, none⟩ = some (.int .i64 lm)) ∧ (W.cell? ⟨w.heap.size + 1, 0, none⟩ = some (.slice A' l'.length c') ∧ W.cell? ⟨w.heap.size + 1, 1, none⟩ = some (.int .i64 dr') ∧ W.cell? ⟨w.heap.size + 1, 2, none⟩ = some (.int .i64 wi') ∧ W.cell? ⟨w.heap.size + 1, 3, none⟩ = some (.int .i64 lm')))
    ((refine K.out _ ?_; first | exact hb00 | exact hb00.drew | exact hb1 | exact hb2 | exact hb3 | exact hb4))
    (first
      | ((go_at_call 25; with_reducible refine (R1 _ ?_).out.mono ?_); (first | exact hb0 | exact hb0.drew); rintro e w1 ⟨rfl, hb⟩; have hb1 := hb00.drew.trans (hb.mono hb00.size))
      | ((go_at_call 21; refine (R2 _ ?_).out.mono ?_); exact hb0.trans (hb1.mono hb0.size); rintro e w2 ⟨rfl, hb⟩; have hb2 := hb1.trans (hb.mono hb1.size))
      | ((go_at_call 25; with_reducible refine (R3 _ ?_).out.mono ?_); exact hb0.trans (hb2.mono hb0.size); rintro e w3 ⟨rfl, hb⟩; have hb3 := hb2.trans (hb.mono hb2.size))
      | ((go_at_call 18; refine (known_tb _).mono ?_); rintro e w4 ⟨rfl, hb⟩; have hb4 := hb3.trans (hb.mono hb3.size))
      | fail)
  all_goals
    go_wp2
    go_ret
    exact ⟨by simp, hb0.trans (hb4.mono hb0.size)⟩

/-! ### THE ROW's STEP around the walk. -/
theorem own_tableSame : ownKnob Try.prog.godebug = none := by kernel_rfl
theorem laidOut_tableSame : laidOutB Try.prog = true := by kernel_rfl
set_option maxRecDepth 100000 in
theorem lifted_tableSame (os : Os) (started : os.Started) (H : Type) (enc : TypeId × Value → H) :
    ReturnsInHanded {} Try.checked os 9 .any (Rows.tableSameSpec.pre6 enc Try.prog Try.f9 Rows.tableSameRow.domain false) (Rows.tableSameSpec.post enc Try.prog Try.f9 false true false false) := by
  refine returnsInHanded_of_change (C := Try.checked) own_tableSame started (by kernel_rfl) Try.func9
    (ChangeSpec.witness6 (enc := enc) (C := Try.checked) false ⟨#[], #[.agg #[.slice none 0 0, .int .i64 0, .int .i64 0, .int .i64 0], .agg #[.slice none 0 0, .int .i64 0, .int .i64 0, .int .i64 0]], []⟩ 8 (by kernel_rfl) (by kernel_rfl) (by kernel_rfl) (by kernel_rfl)) ?_
  intro W base args ds gs before hval0 hW hcnd _
  have hval : ∀ (j : Nat) t v, Try.f9.params[j]? = some t → args[j]? = some v → Value.okWide Try.prog W .any base t v := hval0
  have hW' := hW
  obtain ⟨p, q, hA0, hV, rfl, hfz, hnd⟩ := hW
  have hA : DataW.TrodAll enc Try.prog W 0 (fun _ => true) true Try.f9.params.toList args.toList ds p := hA0
  rw [Try.params9] at hA hval
  obtain ⟨v0, vs0, d0, ds0, p0, q0, hargs, rfl, rfl, h0, r0⟩ := trodAll_cons hA
  obtain ⟨v1, vs1, d1, ds1, p1, q1, rfl, rfl, rfl, h1, r1⟩ := trodAll_cons r0
  obtain ⟨rfl, rfl, rfl⟩ := trodAll_nil r1
  obtain rfl : args = #[v0, v1] := by cases args; simp_all
  obtain ⟨rfl, rfl⟩ := trodVars_none hV
  obtain ⟨y0, x0, rfl, s0⟩ := sees_table Try.underlying24 (by kernel_rfl) ⟨rfl, rfl⟩ ⟨rfl, rfl⟩ ⟨rfl, rfl⟩ ⟨rfl, rfl⟩ Try.underlying22 (by kernel_rfl) Try.underlying42 (by kernel_rfl) ⟨rfl, rfl⟩ ⟨rfl, rfl⟩ ⟨rfl, rfl⟩ ⟨rfl, rfl⟩ Try.underlying3 Try.underlying4 (by kernel_rfl) (by kernel_rfl) (hval 0 24 v0 rfl rfl) h0
  have k0 := h0
  have lt0 : ∀ x ∈ p0, x.block < W.heap.size := by obtain ⟨m, hm⟩ := k0; exact DataW.trod_lt m _ _ _ hm
  obtain ⟨y1, x1, rfl, s1⟩ := sees_table Try.underlying24 (by kernel_rfl) ⟨rfl, rfl⟩ ⟨rfl, rfl⟩ ⟨rfl, rfl⟩ ⟨rfl, rfl⟩ Try.underlying22 (by kernel_rfl) Try.underlying42 (by kernel_rfl) ⟨rfl, rfl⟩ ⟨rfl, rfl⟩ ⟨rfl, rfl⟩ ⟨rfl, rfl⟩ Try.underlying3 Try.underlying4 (by kernel_rfl) (by kernel_rfl) (hval 1 24 v1 rfl rfl) h1
  have k1 := h1
  have lt1 : ∀ x ∈ p1, x.block < W.heap.size := by obtain ⟨m, hm⟩ := k1; exact DataW.trod_lt m _ _ _ hm
  clear hA0 hval0
  refine (walk_tableSame y0 x0 y1 x1 W s0 s1).mono fun e W' ⟨he, bel⟩ => ?_
  subst he
  exact ⟨_, rfl, _, _, _, [], _, [], hW', trodAll_mk1 (shut_bool Try.underlying4 _), (trodAll_cons_mk (Below.trod laidOut_tableSame (by kernel_rfl) (of_decide_eq_true (by kernel_rfl)) k0 bel lt0) (trodAll_cons_mk (Below.trod laidOut_tableSame (by kernel_rfl) (of_decide_eq_true (by kernel_rfl)) k1 bel lt1) trodAll_mk0)), rfl, bel.frame _, fun h => by cases h⟩

theorem over_tableSame : Rows.tableSameRow.holds Try.pinned (OpenSpec.ofChange Rows.tableSameSpec) :=
  OpenClaim.holds_of_wide 9 Try.f9 rfl rfl rfl rfl rfl rfl rfl ⟨rfl, rfl, rfl, rfl, rfl⟩ rfl rfl rfl rfl rfl (by kernel_rfl) Try.func9 (by kernel_rfl)
    (of_decide_eq_true (by kernel_rfl)) (by unfold Func.isWrapper; first | (rw [if_pos (by decide +kernel)]; kernel_rfl) | (rw [if_neg (by decide +kernel)]; exact ⟨rfl, rfl⟩))
    (fun os started H enc _ => lifted_tableSame os started H enc)

theorem proved_tableSame : Rows.TableSameSaid := over_tableSame
end Go.Proofs.Ytpkdfdlchidmlaa
