/- StarQuiet holds: in a slot whose node does not send nobody is heard, whoever else sends. For all arguments. -/
import Derived.Test.YtfnolnmdhppnmaaSB32
namespace Go.Proofs.Ytfnolnmdhppnmaa
open Go.ChangeShapes Go.WideShapes Go.ChangeAt Go.RowKit

set_option maxRecDepth 100000 in
set_option maxHeartbeats 4000000 in
theorem core_starQuiet (n k : Int) (l : List Int) (A : Option Addr) (c : Nat) (w : World) (hv : SeesL w w.heap.size (.slice A l.length c) l) (hl : bytesL l) :
    Calls Try.prog 4 #[.int .i64 n, .int .i64 k, .slice A l.length c] w fun e w' => e = .returned (.bool true) ∧ Below w.heap.size w w' := by
  by_cases call : 4 ≤ n ∧ n ≤ 8 ∧ 0 ≤ k ∧ k < n ∧ k ≠ 1 ∧ l.length ≤ 24
  case neg =>
    go_enter Try.func4, Try.ntmps4
    go_wp2
    all_goals first
      | (exfalso; omega)
      | (go_ret; exact ⟨rfl, Below.refl _ _⟩)
      | skip
  obtain ⟨n4, n8, k0, kn, k1, l24⟩ := call
  obtain ⟨N, rfl⟩ : ∃ t : Nat, n = t := ⟨n.toNat, by omega⟩
  obtain ⟨K, rfl⟩ : ∃ t : Nat, k = t := ⟨k.toNat, by omega⟩
  have q1 : decide (((N : Nat) : Int) < 4) = false := decide_eq_false (by omega)
  have q2 : decide ((8 : Int) < ((N : Nat) : Int)) = false := decide_eq_false (by omega)
  have q3 : decide (((K : Nat) : Int) < 0) = false := decide_eq_false (by omega)
  have q4 : decide (((N : Nat) : Int) ≤ ((K : Nat) : Int)) = false := decide_eq_false (by omega)
  have q5 : (((K : Nat) : Int) == 1) = false := by rw [beq_eq_false_iff_ne]; omega
  have q6 : decide ((24 : Int) < ((l.length : Nat) : Int)) = false := decide_eq_false (by omega)
  have hBg := fun W => Lib.hid (begun_sr N (by omega) (by omega) W)
  have hKn := fun W => Lib.hid (known_sr W)
  have hS : ∀ (g : Nat) (W : World), GsAt W g N (S1 N) (S1 N) → SeesL W W.heap.size (.slice A l.length c) l → Hid (Calls Try.prog 14 #[.pointer (some ⟨g, 0, none⟩), .agg #[.slice none 0 0, .slice none 0 0, .slice none 0 0, .slice none 0 0, .slice none 0 0, .slice none 0 0, .slice none 0 0, .slice none 0 0], .agg #[.int .i64 0, .int .i64 0, .int .i64 0, .int .i64 0, .int .i64 0, .int .i64 0, .int .i64 0, .int .i64 0], .slice (some ⟨W.heap.size, 0, none⟩) 1 1]
      (W.alloc (.cells #[.int .i64 5, .int .i64 (K : Nat), .int .i64 0, .slice A l.length c] 34)) fun e w' => ∃ f, e = .returned (.tuple #[.agg (hdC f), .int .i64 0]) ∧ Hid (∀ i, i < 8 → (f i).A = 0 ∧ (f i).B = 0) ∧ Hid (∀ i, i < 8 → (∃ A n c, (f i).X = .slice A n c) ∧ ∃ A n c, (f i).Y = .slice A n c) ∧ Only g (W.alloc (.cells #[.int .i64 5, .int .i64 (K : Nat), .int .i64 0, .slice A l.length c] 34)) w') := fun g W hG hv => Lib.hid (by
    have hF := SeesF.one W W.heap.size rfl 34 ⟨5, (K : Nat), 0, l⟩ _ hv hl
    have hb := (Below.refl W.heap.size W).alloc (Nat.le_refl _) (.cells #[.int .i64 5, .int .i64 (K : Nat), .int .i64 0, .slice A l.length c] 34)
    refine (slot_quiet (A := fun _ => none) (c := fun _ => 0) (bs := fun _ => []) (a := fun _ => 0) (fl := [⟨5, (K : Nat), 0, l⟩]) (s := sd0 (fun _ => []) (fun _ => 0) 1) false (by omega) (by omega) (hG.below hb hG.lt) (fun i _ => ⟨SeesL.nil, fun x hx => by cases hx⟩) (fun i => by simp) (hF.more (by simp)) (by simp [ftIs, Ft.may, ftMay]; omega) (fun f hf => by rw [List.mem_singleton.1 hf]; simp) (by simp [blocks]) (by simp [blocks]) rfl
      (by
        rw [show strikes [(⟨5, (K : Nat), 0, l⟩ : Ft)] (m0 N (fun _ => []) fun _ => 0) = strikeL ⟨5, (K : Nat), 0, l⟩ (m0 N (fun _ => []) fun _ => 0) from rfl, strikeL_other _ _ 1 (by simp; omega), m0_get N _ _ 1 (by omega)]) (.inr rfl)).mono ?_
    rintro e w' ⟨f, r, rfl, hH, -, hO⟩
    exact ⟨f, rfl, Lib.hid (fun i hi => (hH i hi).quiet), Lib.hid (fun i hi => (hH i hi).forms), hO⟩)
  have hin := infoHeard8
  go_enter Try.func4, Try.ntmps4
  go_wp2_with fail
  refine (hBg w).out.mono ?_
  rintro e w1 ⟨g, rfl, hg, hG, hb1⟩
  have hsl := hS g w1 hG ((hv.below hb1).more hb1.size)
  have hB2 := hb1.alloc hb1.size (.cells #[.int .i64 5, .int .i64 (K : Nat), .int .i64 0, .slice A l.length c] 34)
  have hgl := hG.lt
  have hz2 : (w1.alloc (.cells #[.int .i64 5, .int .i64 (K : Nat), .int .i64 0, .slice A l.length c] 34)).heap.size = w1.heap.size + 1 := by simp
  clear hS hBg hG
  go_wp2_with fail
  refine hsl.out.mono ?_
  rintro e w4 ⟨f, rfl, hA, hXY, hO⟩
  have hb4 := Lib.hid (hB2.trans (hO.below (by omega) (by omega)))
  have hl' := hear_lies w4 w4.heap.size rfl f 27
  have hth := hdz_there w4 w4.heap.size rfl 27
  have h40 : 40 = (hdC f).size := rfl
  rw [hdz_lit] at hl' hth
  rw [h40] at hth
  clear h40
  obtain ⟨hH, hB5⟩ := hl'
  have hone := Lib.hid (hdC_one f (fun i hi => (hXY.out i hi).1) (fun i hi => (hXY.out i hi).2))
  have HF : Hid (∀ W i, i < 8 → HAt W w4.heap.size f → W.cell? ⟨w4.heap.size, i * 5, none⟩ = some (.int .i64 0) ∧ W.cell? ⟨w4.heap.size, i * 5 + 1, none⟩ = some (.int .i64 0)) := Lib.hid fun W i hi h => by
    obtain ⟨e0, e1, -⟩ := h.get i hi
    obtain ⟨a0, b0⟩ := hA.out i hi
    rw [a0] at e0
    rw [b0] at e1
    exact ⟨e0, e1⟩
  clear hA hXY hO hB2 hsl
  go_wp2_with (refine wpList_store_mid rfl _ _ _ rfl _ _ (hdC f) rfl rfl hth hin hone.out ?_; clear hth; generalize World.setCells _ _ _ _ = w5 at hH hB5 ⊢)
  go_loop [10] (fun i => ∃ j : Nat, j ≤ N ∧ i = .int .i64 j) (fun i => N - (intOf i).toNat)
  case atStart => exact ⟨0, by omega, rfl⟩
  case round =>
    obtain ⟨j, hj, rfl⟩ := hrel
    by_cases hlt : j < N
    · have r1 : decide ((j : Int) < (N : Nat)) = true := by simp; omega
      obtain ⟨e0, e1⟩ := HF.out w5 j (by omega) hH
      have i1 : (j : Int) < 8 := by omega
      go_wp2_with fail
      go_round
      case rel => exact ⟨j + 1, by omega, by go_num⟩
      case measure => simp [intOf]; omega
    · have r1 : decide ((j : Int) < (N : Nat)) = false := by simp; omega
      have hk := hKn w5
      have hbb := Lib.hid (hb4.out.trans (hB5.mono hb4.out.size))
      clear hKn
      go_wp2_with fail
      refine hk.out.mono ?_
      rintro e w6 ⟨rfl, hb6⟩
      have hbz := Lib.hid (hbb.out.trans (hb6.mono hbb.out.size))
      go_wp2_with fail
      go_ret
      exact ⟨rfl, hbz.out⟩
theorem walk_starQuiet (n k : Int) (A0 : Option Addr) (m c : Nat) (z : Nat → Int) (w : World) (_h_n : -9223372036854775808 ≤ n ∧ n ≤ 9223372036854775807) (_h_k : -9223372036854775808 ≤ k ∧ k ≤ 9223372036854775807) (s : InBytesN w A0 m c z) :
    Calls Try.prog 4 #[.int .i64 n, .int .i64 k, .slice A0 m c] w fun e w' => e = .returned (.bool true) ∧ Below w.heap.size w w' := by
  obtain ⟨hv, hl⟩ := s.list
  have hm : (lst z m).length = m := lst_length z m
  generalize lst z m = l at *
  subst hm
  exact core_starQuiet n k l A0 c w hv hl

/-! ### THE ROW's STEP around the walk. -/
theorem own_starQuiet : ownKnob Try.prog.godebug = none := by kernel_rfl
theorem laidOut_starQuiet : laidOutB Try.prog = true := by kernel_rfl
set_option maxRecDepth 100000 in
theorem lifted_starQuiet (os : Os) (started : os.Started) (H : Type) (enc : TypeId × Value → H) :
    ReturnsInHanded {} Try.checked os 4 .any (Rows.starQuietSpec.pre6 enc Try.prog Try.f4 Rows.starQuietRow.domain false) (Rows.starQuietSpec.post enc Try.prog Try.f4 false true false false) := by
  refine returnsInHanded_of_change_sized (C := Try.checked) own_starQuiet started (by kernel_rfl) Try.func4
    (ChangeSpec.witness6 (enc := enc) (C := Try.checked) false ⟨#[], #[.int .i64 0, .int .i64 0, .slice none 0 0], []⟩ 8 (by kernel_rfl) (by kernel_rfl) (by kernel_rfl) (by kernel_rfl)) ?_
  intro W base args ds gs before hval0 hW hcnd hsz0 _
  have hval : ∀ (j : Nat) t v, Try.f4.params[j]? = some t → args[j]? = some v → Value.okWide Try.prog W .any base t v := hval0
  have hW' := hW
  obtain ⟨p, q, hA0, hV, rfl, hfz, hnd⟩ := hW
  have hA : DataW.TrodAll enc Try.prog W 0 (fun _ => true) true Try.f4.params.toList args.toList ds p := hA0
  have hsz : (DataW.weightsEach Try.prog (Try.f4.params.toList ++ Rows.starQuietSpec.plain.varTypes Try.prog) (ds ++ gs)).all (· ≤ reachBytes) = true := hsz0
  rw [Try.params4] at hA hval hsz
  obtain ⟨v0, vs0, d0, ds0, p0, q0, hargs, rfl, rfl, h0, r0⟩ := trodAll_cons hA
  obtain ⟨v1, vs1, d1, ds1, p1, q1, rfl, rfl, rfl, h1, r1⟩ := trodAll_cons r0
  obtain ⟨v2, vs2, d2, ds2, p2, q2, rfl, rfl, rfl, h2, r2⟩ := trodAll_cons r1
  obtain ⟨rfl, rfl, rfl⟩ := trodAll_nil r2
  obtain rfl : args = #[v0, v1, v2] := by cases args; simp_all
  obtain ⟨rfl, rfl⟩ := trodVars_none hV
  obtain ⟨a0, rfl, rfl, rfl, w0⟩ := open_int Try.underlying3 (hval 0 3 v0 rfl rfl) h0
  obtain ⟨a1, rfl, rfl, rfl, w1⟩ := open_int Try.underlying3 (hval 1 3 v1 rfl rfl) h1
  obtain ⟨A2, n2, c2, rfl⟩ := okWide_slice Try.underlying22 (hval 2 22 v2 rfl rfl)
  have k2 := h2
  have lt2 : ∀ x ∈ p2, x.block < W.heap.size := by obtain ⟨m, hm⟩ := k2; exact DataW.trod_lt m _ _ _ hm
  obtain ⟨z2, s2⟩ := sees_bytesn Try.underlying22 Try.underlying5 (by kernel_rfl) h2 (by kernel_rfl) (fun _ _ hd => sized_slice hsz (j := 2) (t := 22) (e := 5) rfl (congrArg some hd) Try.underlying22)
  clear hA0 hval0
  refine (walk_starQuiet a0 a1 A2 n2 c2 z2 W (bounds_i64 w0) (bounds_i64 w1) s2).mono fun e W' ⟨he, bel⟩ => ?_
  subst he
  exact ⟨_, rfl, _, _, _, [], _, [], hW', trodAll_mk1 (shut_bool Try.underlying4 _), (trodAll_cons_mk (shut_int Try.underlying3 w0) (trodAll_cons_mk (shut_int Try.underlying3 w1) (trodAll_cons_mk (Below.trod laidOut_starQuiet (by kernel_rfl) (of_decide_eq_true (by kernel_rfl)) k2 bel lt2) trodAll_mk0))), rfl, bel.frame _, fun h => by cases h⟩

theorem over_starQuiet : Rows.starQuietRow.holds Try.pinned (OpenSpec.ofChange Rows.starQuietSpec) :=
  OpenClaim.holds_of_wide 4 Try.f4 rfl rfl rfl rfl rfl rfl rfl ⟨rfl, rfl, rfl, rfl, rfl⟩ rfl rfl rfl rfl rfl (by kernel_rfl) Try.func4 (by kernel_rfl)
    (of_decide_eq_true (by kernel_rfl)) (by unfold Func.isWrapper; first | (rw [if_pos (by decide +kernel)]; kernel_rfl) | (rw [if_neg (by decide +kernel)]; exact ⟨rfl, rfl⟩))
    (fun os started H enc _ => lifted_starQuiet os started H enc)

theorem proved_starQuiet : Rows.StarQuietSaid := over_starQuiet
end Go.Proofs.Ytfnolnmdhppnmaa
