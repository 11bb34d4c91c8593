/- StarOwn holds: what is handed in is not changed. For all arguments. -/
import Derived.Test.YtfnolnmdhppnmaaSB32
namespace Go.Proofs.Ytfnolnmdhppnmaa
open Go.ChangeShapes Go.WideShapes Go.ChangeAt Go.RowKit

set_option maxRecDepth 100000 in
set_option maxHeartbeats 4000000 in
theorem core_starOwn (n : Int) (l : List Int) (A : Option Addr) (c : Nat) (x : Int) (w : World) (hv : SeesL w w.heap.size (.slice A l.length c) l) (hl : bytesL l) :
    Calls Try.prog 12 #[.int .i64 n, .slice A l.length c, .int .i64 x] w fun e w' => e = .returned (.bool true) ∧ Below w.heap.size w w' := by
  by_cases call : 4 ≤ n ∧ n ≤ 8 ∧ 1 ≤ l.length ∧ l.length ≤ 40 ∧ 0 ≤ x ∧ x ≤ 300
  case neg =>
    go_enter Try.func12, Try.ntmps12
    go_wp2
    all_goals first
      | (exfalso; omega)
      | (go_ret; exact ⟨rfl, Below.refl _ _⟩)
      | skip
  obtain ⟨n4, n8, l1, l40, x0, x1⟩ := call
  obtain ⟨N, rfl⟩ : ∃ t : Nat, n = t := ⟨n.toNat, by omega⟩
  have q1 : decide (((N : Nat) : Int) < 4) = false := decide_eq_false (by omega)
  have q2 : decide ((8 : Int) < ((N : Nat) : Int)) = false := decide_eq_false (by omega)
  have q5 : decide (((l.length : Nat) : Int) < 1) = false := decide_eq_false (by omega)
  have q6 : decide ((40 : Int) < ((l.length : Nat) : Int)) = false := decide_eq_false (by omega)
  have q3 : decide (x < 0) = false := decide_eq_false (by omega)
  have q4 : decide ((300 : Int) < x) = false := decide_eq_false (by omega)
  have hBg := fun W => Lib.hid (begun_sr N (by omega) (by omega) W)
  have hKn := fun W => Lib.hid (known_sr W)
  have hS := fun A c g W (hG : GsAt W g N (S1 N) (S1 N)) (hv : SeesL W W.heap.size (.slice A l.length c) l) => slot_garble N (by omega) (by omega) l hl l1 l40 x (by omega) A c g W hG hv
  have hin := infoHeard8
  have hn0 : ((l.length : Nat) : Int) ≠ 0 := by omega
  have hz0 : (((l.length : Nat) : Int) == 0) = false := by rw [beq_eq_false_iff_ne]; omega
  go_enter Try.func12, Try.ntmps12
  go_wp2_with fail
  refine (hBg w).out.mono ?_
  rintro e w1 ⟨g, rfl, hg, hG, hb1⟩
  have hS1 := (hv.below hb1).alloc (.cells #[] 5)
  go_wp2_with (at_builtin; go_loud (refine wpList_pushL _ rfl (.tmp 39) (.tmp 40) 22 rfl w1.heap.size infoU8 Try.underlying22 (.slice (some ⟨w1.heap.size, 0, none⟩) 0 0) [] (owns_empty _ _ rfl _ _ (Nat.le_refl _) rfl) rfl w.heap.size (.slice A l.length c) l rfl hS1 (by simp) (by simp; omega) ?_))
  intro v2 w2 ho2 hx2
  have hb2 := ((Below.refl w1.heap.size w1).alloc (Nat.le_refl _) (.cells #[] 5)).trans (hx2.toBelow (B := w1.heap.size) (by simp) (fun j hj => by cases hj; exact Nat.le_refl _))
  have ho2 : OwnsL w2 w1.heap.size v2 l := ho2
  obtain ⟨bi, ci, rfl, bi1, bi2, ci1, ci2, -, -⟩ := ho2.blkG (by omega)
  have hG2 := hG.below hb2 hG.lt
  have hb02 := hb1.trans (hb2.mono hb1.size)
  have hsee2 := ho2.sees
  have hsl := hS _ ci g w2 hG2 hsee2
  have hB3 := (Below.refl w2.heap.size w2).alloc (Nat.le_refl _) (.cells #[.int .i64 2, .int .i64 1, .int .i64 x, .slice none 0 0] 34)
  have hgl := hG.lt
  have hgl2 := hb2.size
  have hz2 : (w2.alloc (.cells #[.int .i64 2, .int .i64 1, .int .i64 x, .slice none 0 0] 34)).heap.size = w2.heap.size + 1 := by simp
  clear hS hBg hG hb2 hx2 hS1
  go_wp2_with fail
  refine hsl.out.mono ?_
  rintro e w4 ⟨f, rfl, hA, hXY, hO⟩
  have hb4 := Lib.hid ((hb02.alloc hb02.size (.cells #[.int .i64 2, .int .i64 1, .int .i64 x, .slice none 0 0] 34)).trans (hO.below (by omega) (by omega)))
  have hl' := hear_lies w4 w4.heap.size rfl f 27
  have hth := hdz_there w4 w4.heap.size rfl 27
  have h40 : 40 = (hdC f).size := rfl
  rw [hdz_lit] at hl' hth
  rw [h40] at hth
  clear h40
  obtain ⟨hH, hB5⟩ := hl'
  have hone := Lib.hid (hdC_one f (fun i hi => (hXY.out i hi).1) (fun i hi => (hXY.out i hi).2))
  have HF : Hid (∀ W, HAt W w4.heap.size f → Below w4.heap.size w4 W → ∃ b0 c0 A2 c2 v0, W.cell? ⟨w4.heap.size, 2, none⟩ = some (.slice (some ⟨b0, 0, none⟩) l.length c0) ∧ W.cell? ⟨w4.heap.size, 12, none⟩ = some (.slice A2 l.length c2) ∧ w2.heap.size < b0 ∧ W.cell? ⟨b0, 0, none⟩ = some (.int .u8 v0) ∧ W.frozen? ⟨b0, 0, none⟩ = false ∧ l.length ≤ c0) := Lib.hid fun W h hb => by
    have e0 := (h.get 0 (by omega)).2.2.1
    have e2 := (h.get 2 (by omega)).2.2.1
    have o0 := (hA.out 0 (by omega)).2.1
    have o2 := (hA.out 2 (by omega)).2.1
    obtain ⟨b0, c0, hb0, h1, h2, h3, -, h5, h6⟩ := o0.blkG (by rw [flipL_length]; omega)
    obtain ⟨A2, c2, hx2, -⟩ := o2.sees.at_
    rw [hb0, flipL_length] at e0
    rw [hx2, flipL_length] at e2
    rw [flipL_length] at h3
    exact ⟨b0, c0, A2, c2, _, e0, e2, by omega, (hb.cell (p := ⟨b0, 0, none⟩) h2).trans h5, (hb.frozen (p := ⟨b0, 0, none⟩) h2).trans h6, h3⟩
  have ho4 := Lib.hid ((ho2.alloc (.cells #[.int .i64 2, .int .i64 1, .int .i64 x, .slice none 0 0] 34)).only hO (by omega))
  have hIn : Hid (∀ W b0 v, Below w4.heap.size w4 W → w2.heap.size < b0 → SeesL (W.setCell ⟨b0, 0, none⟩ v) (W.setCell ⟨b0, 0, none⟩ v).heap.size (.slice (some ⟨bi, 0, none⟩) l.length ci) l ∧ SeesL (W.setCell ⟨b0, 0, none⟩ v) w.heap.size (.slice A l.length c) l ∧ Below w.heap.size w (W.setCell ⟨b0, 0, none⟩ v)) := Lib.hid fun W b0 v hb h0 => by
    have hbx := (hb4.out.trans (hb.mono hb4.out.size)).setCell (p := ⟨b0, 0, none⟩) (by have := hb02.size; show w.heap.size ≤ b0; omega) v
    have h5 : OwnsL (W.setCell ⟨b0, 0, none⟩ v) w1.heap.size (.slice (some ⟨bi, 0, none⟩) l.length ci) l := World.ownsRow.kept (row := some b0) (ho4.out.below hb (Nat.le_refl _)) ((Only.refl b0 _).set 0 v) (.inr (by simp [Value.ownBlock]; omega))
    exact ⟨h5.sees, hv.below hbx, hbx⟩
  clear hA hXY hO hsl ho4 hsee2
  go_wp2_with (refine wpList_store_mid rfl _ _ _ rfl _ _ (hdC f) rfl rfl hth hin hone.out ?_; clear hth; generalize World.setCells _ _ _ _ = w5 at hH hB5 ⊢; obtain ⟨b0, c0, A2, c2, v0, e0, e2, hgt, ce, fe, lc⟩ := HF.out w5 hH hB5; obtain ⟨sIn, sv, hbx⟩ := hIn.out w5 b0 (.int .u8 (bits .xor .u8 v0 255)) hB5 hgt; have R1 := run_textL sIn; have R2 := run_textL sv; have hk := hKn (w5.setCell ⟨b0, 0, none⟩ (.int .u8 (bits .xor .u8 v0 255))); have hbx := Lib.hid hbx; clear hKn sIn sv hIn HF)
  refine hk.out.mono ?_
  rintro e w7 ⟨rfl, hb7⟩
  have hbz := Lib.hid (hbx.out.trans (hb7.mono hbx.out.size))
  go_wp2_with fail
  go_ret
  exact ⟨rfl, hbz.out⟩
theorem walk_starOwn (n : Int) (A0 : Option Addr) (m c : Nat) (z : Nat → Int) (k : Int) (w : World) (_h_n : -9223372036854775808 ≤ n ∧ n ≤ 9223372036854775807) (s : InBytesN w A0 m c z) (_h_k : -9223372036854775808 ≤ k ∧ k ≤ 9223372036854775807) :
    Calls Try.prog 12 #[.int .i64 n, .slice A0 m c, .int .i64 k] w fun e w' => e = .returned (.bool true) ∧ Below w.heap.size w w' := by
  obtain ⟨hv, hl⟩ := s.list
  have hm : (lst z m).length = m := lst_length z m
  generalize lst z m = l at *
  subst hm
  exact core_starOwn n l A0 c k w hv hl

/-! ### THE ROW's STEP around the walk. -/
theorem own_starOwn : ownKnob Try.prog.godebug = none := by kernel_rfl
theorem laidOut_starOwn : laidOutB Try.prog = true := by kernel_rfl
set_option maxRecDepth 100000 in
theorem lifted_starOwn (os : Os) (started : os.Started) (H : Type) (enc : TypeId × Value → H) :
    ReturnsInHanded {} Try.checked os 12 .any (Rows.starOwnSpec.pre6 enc Try.prog Try.f12 Rows.starOwnRow.domain false) (Rows.starOwnSpec.post enc Try.prog Try.f12 false true false false) := by
  refine returnsInHanded_of_change_sized (C := Try.checked) own_starOwn started (by kernel_rfl) Try.func12
    (ChangeSpec.witness6 (enc := enc) (C := Try.checked) false ⟨#[], #[.int .i64 0, .slice none 0 0, .int .i64 0], []⟩ 8 (by kernel_rfl) (by kernel_rfl) (by kernel_rfl) (by kernel_rfl)) ?_
  intro W base args ds gs before hval0 hW hcnd hsz0 _
  have hval : ∀ (j : Nat) t v, Try.f12.params[j]? = some t → args[j]? = some v → Value.okWide Try.prog W .any base t v := hval0
  have hW' := hW
  obtain ⟨p, q, hA0, hV, rfl, hfz, hnd⟩ := hW
  have hA : DataW.TrodAll enc Try.prog W 0 (fun _ => true) true Try.f12.params.toList args.toList ds p := hA0
  have hsz : (DataW.weightsEach Try.prog (Try.f12.params.toList ++ Rows.starOwnSpec.plain.varTypes Try.prog) (ds ++ gs)).all (· ≤ reachBytes) = true := hsz0
  rw [Try.params12] at hA hval hsz
  obtain ⟨v0, vs0, d0, ds0, p0, q0, hargs, rfl, rfl, h0, r0⟩ := trodAll_cons hA
  obtain ⟨v1, vs1, d1, ds1, p1, q1, rfl, rfl, rfl, h1, r1⟩ := trodAll_cons r0
  obtain ⟨v2, vs2, d2, ds2, p2, q2, rfl, rfl, rfl, h2, r2⟩ := trodAll_cons r1
  obtain ⟨rfl, rfl, rfl⟩ := trodAll_nil r2
  obtain rfl : args = #[v0, v1, v2] := by cases args; simp_all
  obtain ⟨rfl, rfl⟩ := trodVars_none hV
  obtain ⟨a0, rfl, rfl, rfl, w0⟩ := open_int Try.underlying3 (hval 0 3 v0 rfl rfl) h0
  obtain ⟨A1, n1, c1, rfl⟩ := okWide_slice Try.underlying22 (hval 1 22 v1 rfl rfl)
  have k1 := h1
  have lt1 : ∀ x ∈ p1, x.block < W.heap.size := by obtain ⟨m, hm⟩ := k1; exact DataW.trod_lt m _ _ _ hm
  obtain ⟨z1, s1⟩ := sees_bytesn Try.underlying22 Try.underlying5 (by kernel_rfl) h1 (by kernel_rfl) (fun _ _ hd => sized_slice hsz (j := 1) (t := 22) (e := 5) rfl (congrArg some hd) Try.underlying22)
  obtain ⟨a2, rfl, rfl, rfl, w2⟩ := open_int Try.underlying3 (hval 2 3 v2 rfl rfl) h2
  clear hA0 hval0
  refine (walk_starOwn a0 A1 n1 c1 z1 a2 W (bounds_i64 w0) s1 (bounds_i64 w2)).mono fun e W' ⟨he, bel⟩ => ?_
  subst he
  exact ⟨_, rfl, _, _, _, [], _, [], hW', trodAll_mk1 (shut_bool Try.underlying4 _), (trodAll_cons_mk (shut_int Try.underlying3 w0) (trodAll_cons_mk (Below.trod laidOut_starOwn (by kernel_rfl) (of_decide_eq_true (by kernel_rfl)) k1 bel lt1) (trodAll_cons_mk (shut_int Try.underlying3 w2) trodAll_mk0))), rfl, bel.frame _, fun h => by cases h⟩

theorem over_starOwn : Rows.starOwnRow.holds Try.pinned (OpenSpec.ofChange Rows.starOwnSpec) :=
  OpenClaim.holds_of_wide 12 Try.f12 rfl rfl rfl rfl rfl rfl rfl ⟨rfl, rfl, rfl, rfl, rfl⟩ rfl rfl rfl rfl rfl (by kernel_rfl) Try.func12 (by kernel_rfl)
    (of_decide_eq_true (by kernel_rfl)) (by unfold Func.isWrapper; first | (rw [if_pos (by decide +kernel)]; kernel_rfl) | (rw [if_neg (by decide +kernel)]; exact ⟨rfl, rfl⟩))
    (fun os started H enc _ => lifted_starOwn os started H enc)

theorem proved_starOwn : Rows.StarOwnSaid := over_starOwn
end Go.Proofs.Ytfnolnmdhppnmaa
