/- StarDeaf holds: who is deaf hears nothing, all others do. For all arguments. -/
import Derived.Test.YtfnolnmdhppnmaaSB32
namespace Go.Proofs.Ytfnolnmdhppnmaa
open Go.ChangeShapes Go.WideShapes Go.ChangeAt Go.RowKit

/-- What one hears of bytes, if he is not deaf. -/
theorem Hears.deaf {W : World} {Bs : Nat} {m : List Sd} {n : Nat} {q : Nat → Int} {p : Int} {a : Nat → Int} {i : Nat} {h : Hd} {d : Bool} (H : Hears W Bs m n q q p a i h) (hi : i < m.length) (hd : m[i]?.map Sd.df = some d) (ht : tk n q = 2) : h.A = (if d then 0 else 2) ∧ h.B = (if d then 0 else 2) := by
  obtain ⟨h1, h2, -, -, -⟩ := H
  rw [hd, ht] at h1 h2
  cases d
  · rw [if_pos ⟨hi, by simp⟩] at h1 h2
    exact ⟨h1, h2⟩
  · rw [if_neg (by simp)] at h1 h2
    exact ⟨h1, h2⟩
set_option maxRecDepth 100000 in
set_option maxHeartbeats 4000000 in
theorem core_starDeaf (n k : Int) (l : List Int) (A : Option Addr) (c : Nat) (w : World) (hv : SeesL w w.heap.size (.slice A l.length c) l) (hl : bytesL l) :
    Calls Try.prog 6 #[.int .i64 n, .int .i64 k, .slice A l.length c] w fun e w' => e = .returned (.bool true) ∧ Below w.heap.size w w' := by
  by_cases call : 4 ≤ n ∧ n ≤ 8 ∧ 0 ≤ k ∧ k < n ∧ 1 ≤ l.length ∧ l.length ≤ 40
  case neg =>
    go_enter Try.func6, Try.ntmps6
    go_wp2
    all_goals first
      | (exfalso; omega)
      | (go_ret; exact ⟨rfl, Below.refl _ _⟩)
      | skip
  obtain ⟨n4, n8, k0, kn, l1, l40⟩ := call
  obtain ⟨N, rfl⟩ : ∃ t : Nat, n = t := ⟨n.toNat, by omega⟩
  obtain ⟨K, rfl⟩ : ∃ t : Nat, k = t := ⟨k.toNat, by omega⟩
  have q1 : decide (((N : Nat) : Int) < 4) = false := decide_eq_false (by omega)
  have q2 : decide ((8 : Int) < ((N : Nat) : Int)) = false := decide_eq_false (by omega)
  have q3 : decide (((K : Nat) : Int) < 0) = false := decide_eq_false (by omega)
  have q4 : decide (((N : Nat) : Int) ≤ ((K : Nat) : Int)) = false := decide_eq_false (by omega)
  have q5 : decide (((l.length : Nat) : Int) < 1) = false := decide_eq_false (by omega)
  have q6 : decide ((40 : Int) < ((l.length : Nat) : Int)) = false := decide_eq_false (by omega)
  have hBg := fun W => Lib.hid (begun_sr N (by omega) (by omega) W)
  have hKn := fun W => Lib.hid (known_sr W)
  have hS : ∀ (g : Nat) (W : World), GsAt W g N (S1 N) (S1 N) → SeesL W W.heap.size (.slice A l.length c) l → Hid (Calls Try.prog 14 #[.pointer (some ⟨g, 0, none⟩), .agg #[.slice none 0 0, .slice A l.length c, .slice none 0 0, .slice none 0 0, .slice none 0 0, .slice none 0 0, .slice none 0 0, .slice none 0 0], .agg #[.int .i64 0, .int .i64 0, .int .i64 0, .int .i64 0, .int .i64 0, .int .i64 0, .int .i64 0, .int .i64 0], .slice (some ⟨W.heap.size, 0, none⟩) 1 1]
      (W.alloc (.cells #[.int .i64 3, .int .i64 (K : Nat), .int .i64 0, .slice none 0 0] 34)) fun e w' => ∃ f, e = .returned (.tuple #[.agg (hdC f), .int .i64 0]) ∧ Hid (∀ i, i < N → (f i).A = (if i = K then 0 else 2) ∧ (f i).B = (if i = K then 0 else 2)) ∧ Hid (∀ i, i < 8 → (∃ A n c, (f i).X = .slice A n c) ∧ ∃ A n c, (f i).Y = .slice A n c) ∧ Only g (W.alloc (.cells #[.int .i64 3, .int .i64 (K : Nat), .int .i64 0, .slice none 0 0] 34)) w') := fun g W hG hv => Lib.hid (by
    have hF := SeesF.one W W.heap.size rfl 34 ⟨3, (K : Nat), 0, []⟩ (.slice none 0 0) SeesL.nil (fun x hx => by cases hx)
    have hb := (Below.refl W.heap.size W).alloc (Nat.le_refl _) (.cells #[.int .i64 3, .int .i64 (K : Nat), .int .i64 0, .slice none 0 0] 34)
    have hz : (W.alloc (.cells #[.int .i64 3, .int .i64 (K : Nat), .int .i64 0, .slice none 0 0] 34)).heap.size = W.heap.size + 1 := by simp
    have e0 : strikes [(⟨3, (K : Nat), 0, []⟩ : Ft)] (m0 N (at1 1 l []) fun _ => 0) = strikeL ⟨3, (K : Nat), 0, []⟩ (m0 N (at1 1 l []) fun _ => 0) := rfl
    have es : ∀ i, i < N → (strikeL ⟨3, (K : Nat), 0, []⟩ (m0 N (at1 1 l []) fun _ => 0))[i]? = some { sd0 (at1 1 l []) (fun _ => 0) i with df := decide (i = K) } := fun i hi => by
      by_cases e : i = K
      · rw [strikeL_same _ _ i _ (by simp) (by simp [e]) (m0_get N _ _ i hi)]
        simp [Sd.strike, e]
      · rw [strikeL_other _ _ i (by simp; omega), m0_get N _ _ i hi]
        simp [sd0, e]
    refine (slot_heard (A := at1 1 A none) (c := at1 1 c 0) (bs := at1 1 l []) (a := fun _ => 0) (fl := [⟨3, (K : Nat), 0, []⟩]) (s := { sd0 (at1 1 l []) (fun _ => 0) 1 with df := decide (1 = K) }) (by omega) (by omega) (hG.below hb hG.lt) (fun i _ => by
        by_cases e : i = 1
        · subst e; exact ⟨(hv.below hb).more (by omega), hl⟩
        · simp only [at1, if_neg e]; exact ⟨SeesL.nil, fun x hx => by cases hx⟩) (fun i => by simp) (hF.more (by simp)) (by simp [ftIs, Ft.may, ftMay]; omega) (fun f hf => by rw [List.mem_singleton.1 hf]; simp) (by simp [blocks]) (by simp [blocks]) e0
      (es 1 (by omega)) (by show -1000000 ≤ (0 : Int) ∧ (0 : Int) ≤ 1000000; omega) (by
        unfold on1
        rw [show ({ sd0 (at1 1 l []) (fun _ => 0) 1 with df := decide (1 = K) } : Sd).n = rn l from rfl, show ({ sd0 (at1 1 l []) (fun _ => 0) 1 with df := decide (1 = K) } : Sd).at_ = 0 from rfl]
        rw [show decide (0 < rn l) = true from decide_eq_true (by unfold rn; omega)]
        decide)).mono ?_
    rintro e w' ⟨f, rfl, hH, -, hO⟩
    refine ⟨f, rfl, Lib.hid (fun i hi => ?_), Lib.hid (fun i hi => (hH i hi).forms), hO⟩
    have := (hH i (by omega)).deaf (d := decide (i = K)) (by rw [strikeL_length, m0_length]; exact hi) (by rw [es i hi]; rfl) (tk_rq l (by omega))
    simpa using this)
  have hin := infoHeard8
  go_enter Try.func6, Try.ntmps6
  go_wp2_with fail
  refine (hBg w).out.mono ?_
  rintro e w1 ⟨g, rfl, hg, hG, hb1⟩
  have hsl := hS g w1 hG ((hv.below hb1).more hb1.size)
  have hB2 := hb1.alloc hb1.size (.cells #[.int .i64 3, .int .i64 (K : Nat), .int .i64 0, .slice none 0 0] 34)
  have hgl := hG.lt
  have hz2 : (w1.alloc (.cells #[.int .i64 3, .int .i64 (K : Nat), .int .i64 0, .slice none 0 0] 34)).heap.size = w1.heap.size + 1 := by simp
  clear hS hBg hG
  go_wp2_with fail
  refine hsl.out.mono ?_
  rintro e w4 ⟨f, rfl, hA, hXY, hO⟩
  have hb4 := Lib.hid (hB2.trans (hO.below (by omega) (by omega)))
  have hl' := hear_lies w4 w4.heap.size rfl f 27
  have hth := hdz_there w4 w4.heap.size rfl 27
  have h40 : 40 = (hdC f).size := rfl
  rw [hdz_lit] at hl' hth
  rw [h40] at hth
  clear h40
  obtain ⟨hH, hB5⟩ := hl'
  have hone := Lib.hid (hdC_one f (fun i hi => (hXY.out i hi).1) (fun i hi => (hXY.out i hi).2))
  have HF : Hid (∀ W i, i < N → HAt W w4.heap.size f → W.cell? ⟨w4.heap.size, i * 5, none⟩ = some (.int .i64 (if i = K then 0 else 2)) ∧ W.cell? ⟨w4.heap.size, i * 5 + 1, none⟩ = some (.int .i64 (if i = K then 0 else 2))) := Lib.hid fun W i hi h => by
    obtain ⟨e0, e1, -⟩ := h.get i (by omega)
    obtain ⟨a0, b0⟩ := hA.out i hi
    rw [a0] at e0
    rw [b0] at e1
    exact ⟨e0, e1⟩
  clear hA hXY hO hB2 hsl
  go_wp2_with (refine wpList_store_mid rfl _ _ _ rfl _ _ (hdC f) rfl rfl hth hin hone.out ?_; clear hth; generalize World.setCells _ _ _ _ = w5 at hH hB5 ⊢)
  go_loop [10] (fun i => ∃ j : Nat, j ≤ N ∧ i = .int .i64 j) (fun i => N - (intOf i).toNat)
  case atStart => exact ⟨0, by omega, rfl⟩
  case round =>
    obtain ⟨j, hj, rfl⟩ := hrel
    by_cases hlt : j < N
    · have r1 : decide ((j : Int) < (N : Nat)) = true := by simp; omega
      obtain ⟨e0, e1⟩ := HF.out w5 j (by omega) hH
      have i1 : (j : Int) < 8 := by omega
      by_cases e : j = K
      · rw [if_pos e] at e0 e1
        subst e
        have r2 : ((j : Int) == (j : Int)) = true := by rw [beq_iff_eq]
        have r3 : ((j : Int) != (j : Int)) = false := by simp
        go_wp2_with fail
        exact ⟨⟨j + 1, by omega, by go_num⟩, by simp [intOf]; omega⟩
      · rw [if_neg e] at e0 e1
        have r2 : ((j : Int) == (K : Int)) = false := by rw [beq_eq_false_iff_ne]; omega
        have r3 : ((j : Int) != (K : Int)) = true := by rw [bne_iff_ne]; omega
        go_wp2_with fail
        exact ⟨⟨j + 1, by omega, by go_num⟩, by simp [intOf]; omega⟩
    · have r1 : decide ((j : Int) < (N : Nat)) = false := by simp; omega
      have hk := hKn w5
      have hbb := Lib.hid (hb4.out.trans (hB5.mono hb4.out.size))
      clear hKn
      go_wp2_with fail
      refine hk.out.mono ?_
      rintro e w6 ⟨rfl, hb6⟩
      have hbz := Lib.hid (hbb.out.trans (hb6.mono hbb.out.size))
      go_wp2_with fail
      go_ret
      exact ⟨rfl, hbz.out⟩
theorem walk_starDeaf (n k : Int) (A0 : Option Addr) (m c : Nat) (z : Nat → Int) (w : World) (_h_n : -9223372036854775808 ≤ n ∧ n ≤ 9223372036854775807) (_h_k : -9223372036854775808 ≤ k ∧ k ≤ 9223372036854775807) (s : InBytesN w A0 m c z) :
    Calls Try.prog 6 #[.int .i64 n, .int .i64 k, .slice A0 m c] w fun e w' => e = .returned (.bool true) ∧ Below w.heap.size w w' := by
  obtain ⟨hv, hl⟩ := s.list
  have hm : (lst z m).length = m := lst_length z m
  generalize lst z m = l at *
  subst hm
  exact core_starDeaf n k l A0 c w hv hl

/-! ### THE ROW's STEP around the walk. -/
theorem own_starDeaf : ownKnob Try.prog.godebug = none := by kernel_rfl
theorem laidOut_starDeaf : laidOutB Try.prog = true := by kernel_rfl
set_option maxRecDepth 100000 in
theorem lifted_starDeaf (os : Os) (started : os.Started) (H : Type) (enc : TypeId × Value → H) :
    ReturnsInHanded {} Try.checked os 6 .any (Rows.starDeafSpec.pre6 enc Try.prog Try.f6 Rows.starDeafRow.domain false) (Rows.starDeafSpec.post enc Try.prog Try.f6 false true false false) := by
  refine returnsInHanded_of_change_sized (C := Try.checked) own_starDeaf started (by kernel_rfl) Try.func6
    (ChangeSpec.witness6 (enc := enc) (C := Try.checked) false ⟨#[], #[.int .i64 0, .int .i64 0, .slice none 0 0], []⟩ 8 (by kernel_rfl) (by kernel_rfl) (by kernel_rfl) (by kernel_rfl)) ?_
  intro W base args ds gs before hval0 hW hcnd hsz0 _
  have hval : ∀ (j : Nat) t v, Try.f6.params[j]? = some t → args[j]? = some v → Value.okWide Try.prog W .any base t v := hval0
  have hW' := hW
  obtain ⟨p, q, hA0, hV, rfl, hfz, hnd⟩ := hW
  have hA : DataW.TrodAll enc Try.prog W 0 (fun _ => true) true Try.f6.params.toList args.toList ds p := hA0
  have hsz : (DataW.weightsEach Try.prog (Try.f6.params.toList ++ Rows.starDeafSpec.plain.varTypes Try.prog) (ds ++ gs)).all (· ≤ reachBytes) = true := hsz0
  rw [Try.params6] at hA hval hsz
  obtain ⟨v0, vs0, d0, ds0, p0, q0, hargs, rfl, rfl, h0, r0⟩ := trodAll_cons hA
  obtain ⟨v1, vs1, d1, ds1, p1, q1, rfl, rfl, rfl, h1, r1⟩ := trodAll_cons r0
  obtain ⟨v2, vs2, d2, ds2, p2, q2, rfl, rfl, rfl, h2, r2⟩ := trodAll_cons r1
  obtain ⟨rfl, rfl, rfl⟩ := trodAll_nil r2
  obtain rfl : args = #[v0, v1, v2] := by cases args; simp_all
  obtain ⟨rfl, rfl⟩ := trodVars_none hV
  obtain ⟨a0, rfl, rfl, rfl, w0⟩ := open_int Try.underlying3 (hval 0 3 v0 rfl rfl) h0
  obtain ⟨a1, rfl, rfl, rfl, w1⟩ := open_int Try.underlying3 (hval 1 3 v1 rfl rfl) h1
  obtain ⟨A2, n2, c2, rfl⟩ := okWide_slice Try.underlying22 (hval 2 22 v2 rfl rfl)
  have k2 := h2
  have lt2 : ∀ x ∈ p2, x.block < W.heap.size := by obtain ⟨m, hm⟩ := k2; exact DataW.trod_lt m _ _ _ hm
  obtain ⟨z2, s2⟩ := sees_bytesn Try.underlying22 Try.underlying5 (by kernel_rfl) h2 (by kernel_rfl) (fun _ _ hd => sized_slice hsz (j := 2) (t := 22) (e := 5) rfl (congrArg some hd) Try.underlying22)
  clear hA0 hval0
  refine (walk_starDeaf a0 a1 A2 n2 c2 z2 W (bounds_i64 w0) (bounds_i64 w1) s2).mono fun e W' ⟨he, bel⟩ => ?_
  subst he
  exact ⟨_, rfl, _, _, _, [], _, [], hW', trodAll_mk1 (shut_bool Try.underlying4 _), (trodAll_cons_mk (shut_int Try.underlying3 w0) (trodAll_cons_mk (shut_int Try.underlying3 w1) (trodAll_cons_mk (Below.trod laidOut_starDeaf (by kernel_rfl) (of_decide_eq_true (by kernel_rfl)) k2 bel lt2) trodAll_mk0))), rfl, bel.frame _, fun h => by cases h⟩

theorem over_starDeaf : Rows.starDeafRow.holds Try.pinned (OpenSpec.ofChange Rows.starDeafSpec) :=
  OpenClaim.holds_of_wide 6 Try.f6 rfl rfl rfl rfl rfl rfl rfl ⟨rfl, rfl, rfl, rfl, rfl⟩ rfl rfl rfl rfl rfl (by kernel_rfl) Try.func6 (by kernel_rfl)
    (of_decide_eq_true (by kernel_rfl)) (by unfold Func.isWrapper; first | (rw [if_pos (by decide +kernel)]; kernel_rfl) | (rw [if_neg (by decide +kernel)]; exact ⟨rfl, rfl⟩))
    (fun os started H enc _ => lifted_starDeaf os started H enc)

theorem proved_starDeaf : Rows.StarDeafSaid := over_starDeaf
end Go.Proofs.Ytfnolnmdhppnmaa
