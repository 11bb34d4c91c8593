/- StarBoth holds: both channels blocked: nobody is heard; the guardians still go on. For all arguments. -/
import Derived.Test.YtfnolnmdhppnmaaSB32
import Derived.Deep.QuietTactic
import Derived.BigQuiet
namespace Go.Proofs.Ytfnolnmdhppnmaa
open Go.ChangeShapes Go.WideShapes Go.ChangeAt Go.RowKit

theorem S1_missed (n : Nat) (h4 : 4 ≤ n) : ((S1 n).ended [] 0).slot = 2 ∧ ((S1 n).ended [] 0).kn = true := by
  have hl : (S1 n).n = n := someL_length n
  have hs := S1_slot n h4
  unfold G.ended
  rw [show (S1 n).kn = true from rfl, if_pos rfl, if_neg (by simp)]
  unfold G.missed
  rw [if_neg (by rw [hl]; show ¬ 0 + 1 = 2 * n; omega)]
  unfold G.on
  rw [if_neg (by show ¬ (S1 n).slot + 1 = (S1 n).n; rw [hs, hl]; omega)]
  exact ⟨by show (S1 n).slot + 1 = 2; rw [hs], rfl⟩
theorem HAt.lt {W : World} {b : Nat} {f : Nat → Hd} (h : HAt W b f) : b < W.heap.size := by
  have := (h.get 0 (by omega)).1
  rcases Nat.lt_or_ge b W.heap.size with h1 | h1
  · exact h1
  · exfalso
    unfold World.cell? at this
    simp [Array.getElem?_eq_none h1] at this
def at9 (i : Nat) : Int := if i < 4 then 9 else 0
set_option maxRecDepth 100000 in
set_option maxHeartbeats 4000000 in
theorem same_hz (X Y : Value) (w : World) (B : Nat) (hX : SeesL w B X []) (hY : SeesL w B Y []) :
    Calls Try.prog 20 #[.agg #[.int .i64 0, .int .i64 0, X, Y, .int .i64 0], .agg #[.int .i64 0, .int .i64 0, .slice none 0 0, .slice none 0 0, .int .i64 0]] w fun e w' => e = .returned (.bool true) ∧ Below w.heap.size w w' := by
  have hb := ((Below.refl w.heap.size w).alloc (Nat.le_refl _) (.cells #[.int .i64 0, .int .i64 0, X, Y, .int .i64 0] 26)).alloc (by simp) (.cells #[.int .i64 0, .int .i64 0, .slice none 0 0, .slice none 0 0, .int .i64 0] 26)
  obtain ⟨A, c, rfl, -⟩ := hX.at_
  obtain ⟨A', c', rfl, -⟩ := hY.at_
  have hX : SeesL w B (.slice A 0 c) [] := hX
  have hY : SeesL w B (.slice A' 0 c') [] := hY
  have R1 := run_textL ((hX.alloc (.cells #[.int .i64 0, .int .i64 0, .slice A 0 c, .slice A' 0 c', .int .i64 0] 26)).alloc (.cells #[.int .i64 0, .int .i64 0, .slice none 0 0, .slice none 0 0, .int .i64 0] 26))
  have R2 := run_textL ((hY.alloc (.cells #[.int .i64 0, .int .i64 0, .slice A 0 c, .slice A' 0 c', .int .i64 0] 26)).alloc (.cells #[.int .i64 0, .int .i64 0, .slice none 0 0, .slice none 0 0, .int .i64 0] 26))
  have R3 := run_textL (w := (w.alloc (.cells #[.int .i64 0, .int .i64 0, .slice A 0 c, .slice A' 0 c', .int .i64 0] 26)).alloc (.cells #[.int .i64 0, .int .i64 0, .slice none 0 0, .slice none 0 0, .int .i64 0] 26)) (B := 0) SeesL.nil
  generalize textL [] = tx at *
  go_enter Try.func20, Try.ntmps20
  go_wp2
  go_ret
  exact ⟨rfl, hb⟩
set_option maxRecDepth 100000 in
set_option maxHeartbeats 4000000 in
theorem core_starBoth (n : Int) (l : List Int) (A : Option Addr) (c : Nat) (w : World) (hv : SeesL w w.heap.size (.slice A l.length c) l) (hl : bytesL l) :
    Calls Try.prog 10 #[.int .i64 n, .slice A l.length c] w fun e w' => e = .returned (.bool true) ∧ Below w.heap.size w w' := by
  by_cases call : 4 ≤ n ∧ n ≤ 8 ∧ 1 ≤ l.length ∧ l.length ≤ 40
  case neg =>
    go_enter Try.func10, Try.ntmps10
    go_wp2
    all_goals first
      | (exfalso; omega)
      | (go_ret; exact ⟨rfl, Below.refl _ _⟩)
      | skip
  obtain ⟨n4, n8, l1, l40⟩ := call
  obtain ⟨N, rfl⟩ : ∃ t : Nat, n = t := ⟨n.toNat, by omega⟩
  have q1 : decide (((N : Nat) : Int) < 4) = false := decide_eq_false (by omega)
  have q2 : decide ((8 : Int) < ((N : Nat) : Int)) = false := decide_eq_false (by omega)
  have q5 : decide (((l.length : Nat) : Int) < 1) = false := decide_eq_false (by omega)
  have q6 : decide ((40 : Int) < ((l.length : Nat) : Int)) = false := decide_eq_false (by omega)
  have hBg := fun W => Lib.hid (begun_sr N (by omega) (by omega) W)
  have hKn := fun W => Lib.hid (known_sr W)
  have hGu := fun g W (h : GsAt W g N ((S1 N).ended [] 0) ((S1 N).ended [] 0)) => Lib.hid (show Calls Try.prog 17 #[.pointer (some ⟨g, 0, none⟩), .int .i64 0] W fun e w' => e = .returned (.tuple #[.int .i64 2, .bool true]) ∧ Below W.heap.size W w' from by
    have := guard_sr g N _ _ 0 W h (by omega)
    obtain ⟨z1, z2⟩ := S1_missed N (by omega)
    simp only [if_true, z1, z2] at this
    exact this)
  have hSm := fun X Y W B (hX : SeesL W B X []) (hY : SeesL W B Y []) => Lib.hid (same_hz X Y W B hX hY)
  have hS : ∀ (g : Nat) (W : World), GsAt W g N (S1 N) (S1 N) → SeesL W W.heap.size (.slice A l.length c) l → Hid (Calls Try.prog 14 #[.pointer (some ⟨g, 0, none⟩), .agg #[.slice none 0 0, .slice A l.length c, .slice none 0 0, .slice none 0 0, .slice none 0 0, .slice none 0 0, .slice none 0 0, .slice none 0 0], .agg #[.int .i64 9, .int .i64 9, .int .i64 9, .int .i64 9, .int .i64 0, .int .i64 0, .int .i64 0, .int .i64 0], .slice (some ⟨W.heap.size, 0, none⟩) 2 2]
      (W.alloc (.cells #[.int .i64 4, .int .i64 0, .int .i64 0, .slice none 0 0, .int .i64 4, .int .i64 1, .int .i64 0, .slice none 0 0] 34)) fun e w' => ∃ f, e = .returned (.tuple #[.agg (hdC f), .int .i64 0]) ∧ Hid (∀ i, i < 8 → ((f i).A = 0 ∧ (f i).B = 0 ∧ (f i).o = 0) ∧ OwnsL w' (W.heap.size + 1) (f i).X [] ∧ OwnsL w' (W.heap.size + 1) (f i).Y []) ∧ Hid (∀ i, i < 8 → (∃ A n c, (f i).X = .slice A n c) ∧ ∃ A n c, (f i).Y = .slice A n c) ∧ Hid (GsAt w' g N ((S1 N).ended [] 0) ((S1 N).ended [] 0)) ∧ Only g (W.alloc (.cells #[.int .i64 4, .int .i64 0, .int .i64 0, .slice none 0 0, .int .i64 4, .int .i64 1, .int .i64 0, .slice none 0 0] 34)) w') := fun g W hG hv => Lib.hid (by
    have hF := SeesF.two W W.heap.size rfl 34 ⟨4, 0, 0, []⟩ ⟨4, 1, 0, []⟩ (.slice none 0 0) (.slice none 0 0) SeesL.nil (fun x hx => by cases hx) SeesL.nil (fun x hx => by cases hx)
    have hb := (Below.refl W.heap.size W).alloc (Nat.le_refl _) (.cells #[.int .i64 4, .int .i64 0, .int .i64 0, .slice none 0 0, .int .i64 4, .int .i64 1, .int .i64 0, .slice none 0 0] 34)
    have hz : (W.alloc (.cells #[.int .i64 4, .int .i64 0, .int .i64 0, .slice none 0 0, .int .i64 4, .int .i64 1, .int .i64 0, .slice none 0 0] 34)).heap.size = W.heap.size + 1 := by simp
    refine (slot_quiet (A := at1 1 A none) (c := at1 1 c 0) (bs := at1 1 l []) (a := at9) (fl := [⟨4, 0, 0, []⟩, ⟨4, 1, 0, []⟩]) (s := sd0 (at1 1 l []) at9 1) true (by omega) (by omega) (hG.below hb hG.lt) (fun i _ => by
        by_cases e : i = 1
        · subst e; exact ⟨(hv.below hb).more (by omega), hl⟩
        · simp only [at1, if_neg e]; exact ⟨SeesL.nil, fun x hx => by cases hx⟩) (fun i => by unfold at9; split <;> omega) (hF.more (by simp)) (by decide) (fun f hf => by rcases List.mem_cons.1 hf with rfl | hf; (· simp); (· rw [List.mem_singleton.1 hf]; simp)) (by simp [blocks]) (by simp [blocks]) rfl
      (m0_get N _ _ 1 (by omega)) (.inl rfl)).mono ?_
    rintro e w' ⟨f, r, rfl, hH, hG', hO⟩
    rw [hz] at hH
    exact ⟨f, rfl, Lib.hid (fun i hi => ⟨⟨(hH i hi).quiet.1, (hH i hi).quiet.2, by rw [(hH i hi).o, if_neg (by omega)]⟩, (hH i hi).quietX⟩), Lib.hid (fun i hi => (hH i hi).forms), Lib.hid hG', hO⟩)
  have hin := infoHeard8
  go_enter Try.func10, Try.ntmps10
  go_wp2_with fail
  refine (hBg w).out.mono ?_
  rintro e w1 ⟨g, rfl, hg, hG, hb1⟩
  have hsl := hS g w1 hG ((hv.below hb1).more hb1.size)
  have hB2 := hb1.alloc hb1.size (.cells #[.int .i64 4, .int .i64 0, .int .i64 0, .slice none 0 0, .int .i64 4, .int .i64 1, .int .i64 0, .slice none 0 0] 34)
  have hgl := hG.lt
  have hz2 : (w1.alloc (.cells #[.int .i64 4, .int .i64 0, .int .i64 0, .slice none 0 0, .int .i64 4, .int .i64 1, .int .i64 0, .slice none 0 0] 34)).heap.size = w1.heap.size + 1 := by simp
  clear hS hBg hG
  go_wp2_with fail
  refine hsl.out.mono ?_
  rintro e w4 ⟨f, rfl, hA, hXY, hG4, hO⟩
  have hb4 := Lib.hid (hB2.trans (hO.below (by omega) (by omega)))
  have hl' := hear_lies w4 w4.heap.size rfl f 27
  have hth := hdz_there w4 w4.heap.size rfl 27
  have h40 : 40 = (hdC f).size := rfl
  rw [hdz_lit] at hl' hth
  rw [h40] at hth
  clear h40
  obtain ⟨hH, hB5⟩ := hl'
  have hone := Lib.hid (hdC_one f (fun i hi => (hXY.out i hi).1) (fun i hi => (hXY.out i hi).2))
  have HF : Hid (∀ W i, i < N → HAt W w4.heap.size f → Below w4.heap.size w4 W → W.cell? ⟨w4.heap.size, i * 5, none⟩ = some (.int .i64 0) ∧ W.cell? ⟨w4.heap.size, i * 5 + 1, none⟩ = some (.int .i64 0) ∧ (∃ A c, W.cell? ⟨w4.heap.size, i * 5 + 2, none⟩ = some (.slice A 0 c) ∧ SeesL W W.heap.size (.slice A 0 c) []) ∧ (∃ A c, W.cell? ⟨w4.heap.size, i * 5 + 3, none⟩ = some (.slice A 0 c) ∧ SeesL W W.heap.size (.slice A 0 c) []) ∧ W.cell? ⟨w4.heap.size, i * 5 + 4, none⟩ = some (.int .i64 0)) := Lib.hid fun W i hi h hb => by
    obtain ⟨e0, e1, e2, e3, e4⟩ := h.get i (by omega)
    obtain ⟨⟨a0, b0, o0⟩, ox, oy⟩ := hA.out i (by omega)
    have sx := (ox.below hb (Nat.le_refl _)).sees
    have sy := (oy.below hb (Nat.le_refl _)).sees
    obtain ⟨Ax, cx, hx, -⟩ := sx.at_
    obtain ⟨Ay, cy, hy, -⟩ := sy.at_
    rw [a0] at e0
    rw [b0] at e1
    rw [o0] at e4
    rw [hx] at e2 sx
    rw [hy] at e3 sy
    exact ⟨e0, e1, ⟨Ax, cx, e2, sx⟩, ⟨Ay, cy, e3, sy⟩, e4⟩
  have hG5 : Hid (∀ W, Below w4.heap.size w4 W → Hid (Calls Try.prog 17 #[.pointer (some ⟨g, 0, none⟩), .int .i64 0] W fun e w' => e = .returned (.tuple #[.int .i64 2, .bool true]) ∧ Below W.heap.size W w')) := Lib.hid fun W hb => hGu g W (hG4.out.below hb hG4.out.lt)
  clear hA hXY hO hB2 hsl hGu hG4
  go_wp2_with (refine wpList_store_mid rfl _ _ _ rfl _ _ (hdC f) rfl rfl hth hin hone.out ?_; clear hth; generalize World.setCells _ _ _ _ = w5 at hH hB5 ⊢)
  have hg5 := hG5.out w5 hB5
  clear hG5
  have hlt4 : Hid (w4.heap.size < w5.heap.size) := Lib.hid (HAt.lt hH)
  go_wp2_with fail
  refine hg5.out.mono ?_
  rintro e w7 ⟨rfl, hb7⟩
  have hz7 : Hid (w4.heap.size < w7.heap.size) := Lib.hid (Nat.lt_of_lt_of_le hlt4.out hb7.size)
  have hB7 : Hid (Below w4.heap.size w4 w7) := Lib.hid (hB5.trans (hb7.mono hB5.size))
  have hH7 : Hid (HAt w7 w4.heap.size f) := Lib.hid (hH.below hb7 hlt4.out)
  clear hH hB5 hb7
  go_wp2_with fail
  go_loopw [10] (fun i wr => ∃ j : Nat, j ≤ N ∧ i = .int .i64 j ∧ HAt wr w4.heap.size f ∧ Below (w4.heap.size + 1) w7 wr) (fun i _ => N - (intOf i).toNat)
  case atStart => exact ⟨0, by omega, rfl, hH7.out, Below.refl _ _⟩
  case round =>
    obtain ⟨j, hj, rfl, hH, hB5⟩ := hrel
    by_cases hlt : j < N
    · have r1 : decide ((j : Int) < (N : Nat)) = true := by simp; omega
      obtain ⟨e0, e1, ⟨Ax, cx, e2, s2⟩, ⟨Ay, cy, e3, s3⟩, e4⟩ := HF.out wr j (by omega) hH (hB7.out.trans (hB5.mono (Nat.le_succ _)))
      have hsm := hSm _ _ wr _ s2 s3
      have i1 : (j : Int) < 8 := by omega
      have HR : Hid (∀ W, Below wr.heap.size wr W → HAt W w4.heap.size f ∧ Below (w4.heap.size + 1) w7 W) := Lib.hid fun W hb => ⟨hH.below hb (Nat.lt_of_lt_of_le hz7.out hB5.size), hB5.trans (hb.mono (Nat.le_trans hz7.out hB5.size))⟩
      clear hH hB5 hSm s2 s3
      go_wp2_with fail
      refine hsm.out.mono ?_
      rintro e w8 ⟨rfl, hb8⟩
      have hR8 := Lib.hid (HR.out w8 hb8)
      go_wp2_with fail
      go_roundw
      case rel => exact ⟨j + 1, by omega, by go_num, hR8.out.1, hR8.out.2⟩
      case measure => simp [intOf]; omega
    · have r1 : decide ((j : Int) < (N : Nat)) = false := by simp; omega
      have hk := hKn wr
      have hbb := Lib.hid (hb4.out.trans (hB7.out.trans (hB5.mono (Nat.le_succ _)) |>.mono hb4.out.size))
      clear hKn
      go_wp2_with fail
      refine hk.out.mono ?_
      rintro e w6 ⟨rfl, hb6⟩
      have hbz := Lib.hid (hbb.out.trans (hb6.mono hbb.out.size))
      go_wp2_with fail
      go_ret
      exact ⟨rfl, hbz.out⟩
theorem walk_starBoth (n : Int) (A0 : Option Addr) (m c : Nat) (z : Nat → Int) (w : World) (_h_n : -9223372036854775808 ≤ n ∧ n ≤ 9223372036854775807) (s : InBytesN w A0 m c z) :
    Calls Try.prog 10 #[.int .i64 n, .slice A0 m c] w fun e w' => e = .returned (.bool true) ∧ Below w.heap.size w w' := by
  obtain ⟨hv, hl⟩ := s.list
  have hm : (lst z m).length = m := lst_length z m
  generalize lst z m = l at *
  subst hm
  exact core_starBoth n l A0 c w hv hl

/-! ### THE ROW's STEP around the walk. -/
theorem own_starBoth : ownKnob Try.prog.godebug = none := by kernel_rfl
theorem laidOut_starBoth : laidOutB Try.prog = true := by kernel_rfl
set_option maxRecDepth 100000 in
theorem lifted_starBoth (os : Os) (started : os.Started) (H : Type) (enc : TypeId × Value → H) :
    ReturnsInHanded {} Try.checked os 10 .any (Rows.starBothSpec.pre6 enc Try.prog Try.f10 Rows.starBothRow.domain false) (Rows.starBothSpec.post enc Try.prog Try.f10 false true false false) := by
  refine returnsInHanded_of_change_sized (C := Try.checked) own_starBoth started (by kernel_rfl) Try.func10
    (ChangeSpec.witness6 (enc := enc) (C := Try.checked) false ⟨#[], #[.int .i64 0, .slice none 0 0], []⟩ 8 (by kernel_rfl) (by kernel_rfl) (by kernel_rfl) (by kernel_rfl)) ?_
  intro W base args ds gs before hval0 hW hcnd hsz0 _
  have hval : ∀ (j : Nat) t v, Try.f10.params[j]? = some t → args[j]? = some v → Value.okWide Try.prog W .any base t v := hval0
  have hW' := hW
  obtain ⟨p, q, hA0, hV, rfl, hfz, hnd⟩ := hW
  have hA : DataW.TrodAll enc Try.prog W 0 (fun _ => true) true Try.f10.params.toList args.toList ds p := hA0
  have hsz : (DataW.weightsEach Try.prog (Try.f10.params.toList ++ Rows.starBothSpec.plain.varTypes Try.prog) (ds ++ gs)).all (· ≤ reachBytes) = true := hsz0
  rw [Try.params10] at hA hval hsz
  obtain ⟨v0, vs0, d0, ds0, p0, q0, hargs, rfl, rfl, h0, r0⟩ := trodAll_cons hA
  obtain ⟨v1, vs1, d1, ds1, p1, q1, rfl, rfl, rfl, h1, r1⟩ := trodAll_cons r0
  obtain ⟨rfl, rfl, rfl⟩ := trodAll_nil r1
  obtain rfl : args = #[v0, v1] := by cases args; simp_all
  obtain ⟨rfl, rfl⟩ := trodVars_none hV
  obtain ⟨a0, rfl, rfl, rfl, w0⟩ := open_int Try.underlying3 (hval 0 3 v0 rfl rfl) h0
  obtain ⟨A1, n1, c1, rfl⟩ := okWide_slice Try.underlying22 (hval 1 22 v1 rfl rfl)
  have k1 := h1
  have lt1 : ∀ x ∈ p1, x.block < W.heap.size := by obtain ⟨m, hm⟩ := k1; exact DataW.trod_lt m _ _ _ hm
  obtain ⟨z1, s1⟩ := sees_bytesn Try.underlying22 Try.underlying5 (by kernel_rfl) h1 (by kernel_rfl) (fun _ _ hd => sized_slice hsz (j := 1) (t := 22) (e := 5) rfl (congrArg some hd) Try.underlying22)
  clear hA0 hval0
  refine (walk_starBoth a0 A1 n1 c1 z1 W (bounds_i64 w0) s1).mono fun e W' ⟨he, bel⟩ => ?_
  subst he
  exact ⟨_, rfl, _, _, _, [], _, [], hW', trodAll_mk1 (shut_bool Try.underlying4 _), (trodAll_cons_mk (shut_int Try.underlying3 w0) (trodAll_cons_mk (Below.trod laidOut_starBoth (by kernel_rfl) (of_decide_eq_true (by kernel_rfl)) k1 bel lt1) trodAll_mk0)), rfl, bel.frame _, fun h => by cases h⟩

theorem over_starBoth : Rows.starBothRow.holds Try.pinned (OpenSpec.ofChange Rows.starBothSpec) :=
  OpenClaim.holds_of_wide 10 Try.f10 rfl rfl rfl rfl rfl rfl rfl ⟨rfl, rfl, rfl, rfl, rfl⟩ rfl rfl rfl rfl rfl (by kernel_rfl) Try.func10 (by kernel_rfl)
    (of_decide_eq_true (by kernel_rfl)) (by unfold Func.isWrapper; first | (rw [if_pos (by decide +kernel)]; kernel_rfl) | (rw [if_neg (by decide +kernel)]; exact ⟨rfl, rfl⟩))
    (fun os started H enc _ => lifted_starBoth os started H enc)

theorem proved_starBoth : Rows.StarBothSaid := over_starBoth
end Go.Proofs.Ytfnolnmdhppnmaa
