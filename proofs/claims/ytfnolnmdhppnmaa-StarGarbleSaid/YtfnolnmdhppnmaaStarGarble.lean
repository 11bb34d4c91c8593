/- StarGarble holds: a bit turned is heard as turned, in both channels, by all. For all arguments. -/
import Derived.Deep.QuietTactic
import Derived.BigQuiet
import Derived.Test.YtfnolnmdhppnmaaSB32
namespace Go.Proofs.Ytfnolnmdhppnmaa
open Go.ChangeShapes Go.WideShapes Go.ChangeAt Go.RowKit

set_option maxRecDepth 100000 in
set_option maxHeartbeats 4000000 in
theorem core_starGarble (n : Int) (l : List Int) (A : Option Addr) (c : Nat) (x : Int) (w : World) (hv : SeesL w w.heap.size (.slice A l.length c) l) (hl : bytesL l) :
    Calls Try.prog 8 #[.int .i64 n, .slice A l.length c, .int .i64 x] w fun e w' => e = .returned (.bool true) ∧ Below w.heap.size w w' := by
  by_cases call : 4 ≤ n ∧ n ≤ 8 ∧ 1 ≤ l.length ∧ l.length ≤ 40 ∧ -1000 ≤ x ∧ x ≤ 1000
  case neg =>
    go_enter Try.func8, Try.ntmps8
    go_wp2
    all_goals first
      | (exfalso; omega)
      | (go_ret; exact ⟨rfl, Below.refl _ _⟩)
      | skip
  obtain ⟨n4, n8, l1, l40, x0, x1⟩ := call
  obtain ⟨N, rfl⟩ : ∃ t : Nat, n = t := ⟨n.toNat, by omega⟩
  have q1 : decide (((N : Nat) : Int) < 4) = false := decide_eq_false (by omega)
  have q2 : decide ((8 : Int) < ((N : Nat) : Int)) = false := decide_eq_false (by omega)
  have q5 : decide (((l.length : Nat) : Int) < 1) = false := decide_eq_false (by omega)
  have q6 : decide ((40 : Int) < ((l.length : Nat) : Int)) = false := decide_eq_false (by omega)
  have q3 : decide (x < -1000) = false := decide_eq_false (by omega)
  have q4 : decide ((1000 : Int) < x) = false := decide_eq_false (by omega)
  have hBg := fun W => Lib.hid (begun_sr N (by omega) (by omega) W)
  have hKn := fun W => Lib.hid (known_sr W)
  have hS := slot_garble N (by omega) (by omega) l hl l1 l40 x (by omega) A c
  have hin := infoHeard8
  obtain ⟨T, hT⟩ : ∃ T : Nat, T = turnAt x l := ⟨_, rfl⟩
  have hT8 : T < 8 * l.length := by rw [hT]; exact Nat.mod_lt _ (by omega)
  have hTd : T / 8 < l.length := by omega
  have hM : ∀ y : Int, 0 ≤ y → y = max x (-x) → y % (8 * ((l.length : Nat) : Int)) = (T : Nat) := fun y h0 h => by
    rw [hT]
    unfold turnAt
    have : y = ((max x (-x)).toNat : Int) := by omega
    rw [this]
    simp
  rw [← hT] at hS
  clear hT
  have hcase : (x < -x ∧ 0 ≤ -x ∧ decide (x < -x) = true ∧ -(x.tmod (8 * ((l.length : Nat) : Int))) = (T : Nat)) ∨ (¬ x < -x ∧ 0 ≤ x ∧ decide (x < -x) = false ∧ x % (8 * ((l.length : Nat) : Int)) = (T : Nat)) := by
    by_cases hx : x < -x
    · left
      refine ⟨hx, by omega, decide_eq_true hx, ?_⟩
      rw [← Int.neg_tmod, Int.tmod_eq_emod_of_nonneg (by omega)]
      exact hM _ (by omega) (by omega)
    · right
      exact ⟨hx, by omega, decide_eq_false hx, hM _ (by omega) (by omega)⟩
  clear hM
  rcases hcase with ⟨hx, hn, hd, hm⟩ | ⟨hx, hn, hd, hm⟩
  all_goals
    go_enter Try.func8, Try.ntmps8
    go_wp2_with fail
    refine (hBg w).out.mono ?_
    rintro e w1 ⟨g, rfl, hg, hG, hb1⟩
    have hsl := hS g w1 hG ((hv.below hb1).more hb1.size)
    have hB2 := hb1.alloc hb1.size (.cells #[.int .i64 2, .int .i64 1, .int .i64 x, .slice none 0 0] 34)
    have hgl := hG.lt
    have hz2 : (w1.alloc (.cells #[.int .i64 2, .int .i64 1, .int .i64 x, .slice none 0 0] 34)).heap.size = w1.heap.size + 1 := by simp
    clear hS hBg hG
    go_wp2_with fail
    refine hsl.out.mono ?_
    rintro e w4 ⟨f, rfl, hA, hXY, hO⟩
    have hb4 := Lib.hid (hB2.trans (hO.below (by omega) (by omega)))
    have hl' := hear_lies w4 w4.heap.size rfl f 27
    have hth := hdz_there w4 w4.heap.size rfl 27
    have h40 : 40 = (hdC f).size := rfl
    rw [hdz_lit] at hl' hth
    rw [h40] at hth
    clear h40
    obtain ⟨hH, hB5⟩ := hl'
    have hone := Lib.hid (hdC_one f (fun i hi => (hXY.out i hi).1) (fun i hi => (hXY.out i hi).2))
    have HF : Hid (∀ W i, i < N → HAt W w4.heap.size f → Below w4.heap.size w4 W → W.cell? ⟨w4.heap.size, i * 5, none⟩ = some (.int .i64 2) ∧ (∃ A c, W.cell? ⟨w4.heap.size, i * 5 + 2, none⟩ = some (.slice A l.length c) ∧ ∀ d, (convert 22 9 (.slice A l.length c)).run Try.prog (W.drewN d) = .ok (.string (textL (flipL T l))) (W.drewN d)) ∧ (∃ A c, W.cell? ⟨w4.heap.size, i * 5 + 3, none⟩ = some (.slice A l.length c) ∧ ∀ d, (convert 22 9 (.slice A l.length c)).run Try.prog (W.drewN d) = .ok (.string (textL (flipL T l))) (W.drewN d))) := Lib.hid fun W i hi h hb => by
      obtain ⟨e0, -, e2, e3, -⟩ := h.get i (by omega)
      obtain ⟨⟨a0, -⟩, ox, oy⟩ := hA.out i hi
      have sx := (ox.below hb (Nat.le_refl _)).sees
      have sy := (oy.below hb (Nat.le_refl _)).sees
      obtain ⟨Ax, cx, hx, -⟩ := sx.at_
      obtain ⟨Ay, cy, hy, -⟩ := sy.at_
      rw [flipL_length] at hx hy
      rw [a0] at e0
      rw [hx] at e2 sx
      rw [hy] at e3 sy
      exact ⟨e0, ⟨Ax, cx, e2, fun d => run_textL (sx.below (below_drewN (Below.refl _ _) d))⟩, ⟨Ay, cy, e3, fun d => run_textL (sy.below (below_drewN (Below.refl _ _) d))⟩⟩
    have hvv : Hid (∀ W, Below w4.heap.size w4 W → SeesL (W.alloc (.cells #[] 5)) w.heap.size (.slice A l.length c) l) := Lib.hid fun W hb => (hv.below (hb4.out.trans (hb.mono hb4.out.size))).alloc _
    clear hA hXY hO hB2 hsl
    go_wp2_with (first | (refine wpList_store_mid rfl _ _ _ rfl _ _ (hdC f) rfl rfl hth hin hone.out ?_; clear hth; generalize World.setCells _ _ _ _ = w5 at hH hB5 ⊢; have hS5 := hvv.out w5 hB5; clear hvv) | (at_builtin; go_loud (refine wpList_pushL _ rfl (.tmp 60) (.tmp 61) 22 rfl w5.heap.size infoU8 Try.underlying22 (.slice (some ⟨w5.heap.size, 0, none⟩) 0 0) [] (owns_empty _ _ rfl _ _ (Nat.le_refl _) rfl) rfl w.heap.size (.slice A l.length c) l rfl hS5 (by simp) (by simp; omega) ?_)))
    intro v2 w6 ho6 hx6
    have hb6 := ((Below.refl w5.heap.size w5).alloc (Nat.le_refl _) (.cells #[] 5)).trans (hx6.toBelow (B := w5.heap.size) (by simp) (fun j hj => by cases hj; exact Nat.le_refl _))
    have ho6 : OwnsL w6 w5.heap.size v2 l := ho6
    obtain ⟨bi, ci, rfl, bi1⟩ := ho6.block (by omega)
    have cT := ho6.cell rfl hTd
    have fT := ho6.frozen rfl (T / 8)
    have ho7 : Hid (OwnsL (w6.setCell ⟨bi, T / 8, none⟩ (.int .u8 (bits BinOp.xor IntKind.u8 (l.getD (T / 8) 0) (128 / 2 ^ (T % 8))))) w5.heap.size (.slice (some ⟨bi, 0, none⟩) l.length ci) (flipL T l)) := Lib.hid (ho6.set rfl (T / 8) (flipB T (l.getD (T / 8) 0)) hTd)
    have hb7 := Lib.hid (hb6.setCell (p := ⟨bi, T / 8, none⟩) bi1 (.int .u8 (bits BinOp.xor IntKind.u8 (l.getD (T / 8) 0) (128 / 2 ^ (T % 8)))))
    have hlt4 : w4.heap.size < w5.heap.size := HAt.ltG hH
    have hH7 := Lib.hid (hH.below (hb7.out.mono hlt4) (Nat.lt_succ_self _))
    have hB7 := Lib.hid (hB5.trans (hb7.out.mono hB5.size))
    generalize l.getD (T / 8) 0 = y at *
    have i0 : (T : Int) / 8 < (l.length : Nat) := by omega
    have i2 : (0 : Int) ≤ (T : Int) / 8 := by omega
    clear hS5 hx6 hb6 ho6 hH hB5
    go_wp2_with fail
    generalize w6.setCell ⟨bi, T / 8, none⟩ (.int .u8 (bits BinOp.xor IntKind.u8 y (128 / 2 ^ (T % 8)))) = w7 at *
    go_loopw [12] (fun i wr => ∃ j : Nat, j ≤ N ∧ i = .int .i64 j ∧ HAt wr w4.heap.size f ∧ Below w4.heap.size w4 wr ∧ OwnsL wr w5.heap.size (.slice (some ⟨bi, 0, none⟩) l.length ci) (flipL T l)) (fun i _ => N - (intOf i).toNat)
    case atStart => exact ⟨0, by omega, rfl, hH7.out, hB7.out, ho7.out⟩
    case round =>
      clear hH7 hB7 ho7 hb7
      obtain ⟨j, hj, rfl, hH, hB5, hW⟩ := hrel
      by_cases hlt : j < N
      · have r1 : decide ((j : Int) < (N : Nat)) = true := by simp; omega
        obtain ⟨e0, ⟨Ax, cx, e2, t2⟩, ⟨Ay, cy, e3, t3⟩⟩ := HF.out wr j (by omega) hH hB5
        have sW : SeesL wr wr.heap.size (.slice (some ⟨bi, 0, none⟩) l.length ci) (flipL T l) := hW.sees
        have t1 : ∀ d, (convert 22 9 (.slice (some ⟨bi, 0, none⟩) l.length ci)).run Try.prog (wr.drewN d) = .ok (.string (textL (flipL T l))) (wr.drewN d) := fun d => run_textL (sW.below (below_drewN (Below.refl _ _) d))
        have i1 : (j : Int) < 8 := by omega
        have HR : Hid (∀ nq, HAt (wr.drewN nq) w4.heap.size f ∧ Below w4.heap.size w4 (wr.drewN nq) ∧ OwnsL (wr.drewN nq) w5.heap.size (.slice (some ⟨bi, 0, none⟩) l.length ci) (flipL T l)) := Lib.hid fun nq => ⟨hH.below (below_drewN (Below.refl (w4.heap.size + 1) wr) nq) (Nat.lt_succ_self _), hB5.trans (below_drewN (Below.refl _ wr) nq), hW.below (below_drewN (Below.refl wr.heap.size wr) nq) (Nat.le_refl _)⟩
        clear hH hB5 hW sW
        generalize textL (flipL T l) = tx at *
        go_wp2_with fail
        go_quiet (fail)
        go_wp2
        go_roundw
        case rel => exact ⟨j + 1, by omega, by go_num, (HR.out _).1, (HR.out _).2.1, (HR.out _).2.2⟩
        case measure => simp [intOf]; omega
      · have r1 : decide ((j : Int) < (N : Nat)) = false := by simp; omega
        have hk := hKn wr
        have hbb := Lib.hid (hb4.out.trans (hB5.mono hb4.out.size))
        clear hKn
        go_wp2_with fail
        refine hk.out.mono ?_
        rintro e w8 ⟨rfl, hb8⟩
        have hbz := Lib.hid (hbb.out.trans (hb8.mono hbb.out.size))
        go_wp2_with fail
        go_ret
        exact ⟨rfl, hbz.out⟩
theorem walk_starGarble (n : Int) (A0 : Option Addr) (m c : Nat) (z : Nat → Int) (k : Int) (w : World) (_h_n : -9223372036854775808 ≤ n ∧ n ≤ 9223372036854775807) (s : InBytesN w A0 m c z) (_h_k : -9223372036854775808 ≤ k ∧ k ≤ 9223372036854775807) :
    Calls Try.prog 8 #[.int .i64 n, .slice A0 m c, .int .i64 k] w fun e w' => e = .returned (.bool true) ∧ Below w.heap.size w w' := by
  obtain ⟨hv, hl⟩ := s.list
  have hm : (lst z m).length = m := lst_length z m
  generalize lst z m = l at *
  subst hm
  exact core_starGarble n l A0 c k w hv hl

/-! ### THE ROW's STEP around the walk. -/
theorem own_starGarble : ownKnob Try.prog.godebug = none := by kernel_rfl
theorem laidOut_starGarble : laidOutB Try.prog = true := by kernel_rfl
set_option maxRecDepth 100000 in
theorem lifted_starGarble (os : Os) (started : os.Started) (H : Type) (enc : TypeId × Value → H) :
    ReturnsInHanded {} Try.checked os 8 .any (Rows.starGarbleSpec.pre6 enc Try.prog Try.f8 Rows.starGarbleRow.domain false) (Rows.starGarbleSpec.post enc Try.prog Try.f8 false true false false) := by
  refine returnsInHanded_of_change_sized (C := Try.checked) own_starGarble started (by kernel_rfl) Try.func8
    (ChangeSpec.witness6 (enc := enc) (C := Try.checked) false ⟨#[], #[.int .i64 0, .slice none 0 0, .int .i64 0], []⟩ 8 (by kernel_rfl) (by kernel_rfl) (by kernel_rfl) (by kernel_rfl)) ?_
  intro W base args ds gs before hval0 hW hcnd hsz0 _
  have hval : ∀ (j : Nat) t v, Try.f8.params[j]? = some t → args[j]? = some v → Value.okWide Try.prog W .any base t v := hval0
  have hW' := hW
  obtain ⟨p, q, hA0, hV, rfl, hfz, hnd⟩ := hW
  have hA : DataW.TrodAll enc Try.prog W 0 (fun _ => true) true Try.f8.params.toList args.toList ds p := hA0
  have hsz : (DataW.weightsEach Try.prog (Try.f8.params.toList ++ Rows.starGarbleSpec.plain.varTypes Try.prog) (ds ++ gs)).all (· ≤ reachBytes) = true := hsz0
  rw [Try.params8] at hA hval hsz
  obtain ⟨v0, vs0, d0, ds0, p0, q0, hargs, rfl, rfl, h0, r0⟩ := trodAll_cons hA
  obtain ⟨v1, vs1, d1, ds1, p1, q1, rfl, rfl, rfl, h1, r1⟩ := trodAll_cons r0
  obtain ⟨v2, vs2, d2, ds2, p2, q2, rfl, rfl, rfl, h2, r2⟩ := trodAll_cons r1
  obtain ⟨rfl, rfl, rfl⟩ := trodAll_nil r2
  obtain rfl : args = #[v0, v1, v2] := by cases args; simp_all
  obtain ⟨rfl, rfl⟩ := trodVars_none hV
  obtain ⟨a0, rfl, rfl, rfl, w0⟩ := open_int Try.underlying3 (hval 0 3 v0 rfl rfl) h0
  obtain ⟨A1, n1, c1, rfl⟩ := okWide_slice Try.underlying22 (hval 1 22 v1 rfl rfl)
  have k1 := h1
  have lt1 : ∀ x ∈ p1, x.block < W.heap.size := by obtain ⟨m, hm⟩ := k1; exact DataW.trod_lt m _ _ _ hm
  obtain ⟨z1, s1⟩ := sees_bytesn Try.underlying22 Try.underlying5 (by kernel_rfl) h1 (by kernel_rfl) (fun _ _ hd => sized_slice hsz (j := 1) (t := 22) (e := 5) rfl (congrArg some hd) Try.underlying22)
  obtain ⟨a2, rfl, rfl, rfl, w2⟩ := open_int Try.underlying3 (hval 2 3 v2 rfl rfl) h2
  clear hA0 hval0
  refine (walk_starGarble a0 A1 n1 c1 z1 a2 W (bounds_i64 w0) s1 (bounds_i64 w2)).mono fun e W' ⟨he, bel⟩ => ?_
  subst he
  exact ⟨_, rfl, _, _, _, [], _, [], hW', trodAll_mk1 (shut_bool Try.underlying4 _), (trodAll_cons_mk (shut_int Try.underlying3 w0) (trodAll_cons_mk (Below.trod laidOut_starGarble (by kernel_rfl) (of_decide_eq_true (by kernel_rfl)) k1 bel lt1) (trodAll_cons_mk (shut_int Try.underlying3 w2) trodAll_mk0))), rfl, bel.frame _, fun h => by cases h⟩

theorem over_starGarble : Rows.starGarbleRow.holds Try.pinned (OpenSpec.ofChange Rows.starGarbleSpec) :=
  OpenClaim.holds_of_wide 8 Try.f8 rfl rfl rfl rfl rfl rfl rfl ⟨rfl, rfl, rfl, rfl, rfl⟩ rfl rfl rfl rfl rfl (by kernel_rfl) Try.func8 (by kernel_rfl)
    (of_decide_eq_true (by kernel_rfl)) (by unfold Func.isWrapper; first | (rw [if_pos (by decide +kernel)]; kernel_rfl) | (rw [if_neg (by decide +kernel)]; exact ⟨rfl, rfl⟩))
    (fun os started H enc _ => lifted_starGarble os started H enc)

theorem proved_starGarble : Rows.StarGarbleSaid := over_starGarble
end Go.Proofs.Ytfnolnmdhppnmaa
