/- StarBabble holds: whoever sends whatever in another node's slot is not heard: the slot's node is, byte by byte. For all arguments. -/
import Derived.Test.YtfnolnmdhppnmaaSB32
import Derived.Deep.QuietTactic
import Derived.BigQuiet
namespace Go.Proofs.Ytfnolnmdhppnmaa
open Go.ChangeShapes Go.WideShapes Go.ChangeAt Go.RowKit

/-- What one hears of bytes, if he is not deaf. -/
theorem Hears.loud {W : World} {Bs : Nat} {m : List Sd} {n : Nat} {q : Nat → Int} {p : Int} {a : Nat → Int} {i : Nat} {h : Hd} (H : Hears W Bs m n q q p a i h) (hi : i < m.length) (hd : m[i]?.map Sd.df = some false) : (h.A = tk n q ∧ h.B = tk n q) ∧ OwnsL W Bs h.X (tl n q) ∧ OwnsL W Bs h.Y (tl n q) := by
  obtain ⟨h1, h2, h3, h4, -⟩ := H
  rw [hd] at h1 h2 h3 h4
  rw [if_pos ⟨hi, by simp⟩] at h1 h2 h3 h4
  exact ⟨⟨h1, h2⟩, h3, h4⟩
set_option maxRecDepth 100000 in
set_option maxHeartbeats 4000000 in
theorem core_starBabble (n k : Int) (l : List Int) (A : Option Addr) (c : Nat) (lo : List Int) (Ao : Option Addr) (co : Nat) (w : World) (hv : SeesL w w.heap.size (.slice A l.length c) l) (hl : bytesL l) (hvo : SeesL w w.heap.size (.slice Ao lo.length co) lo) (hlo : bytesL lo) :
    Calls Try.prog 3 #[.int .i64 n, .slice A l.length c, .int .i64 k, .slice Ao lo.length co] w fun e w' => e = .returned (.bool true) ∧ Below w.heap.size w w' := by
  by_cases call : 4 ≤ n ∧ n ≤ 8 ∧ 0 ≤ k ∧ k < n ∧ k ≠ 1 ∧ 1 ≤ l.length ∧ l.length ≤ 40 ∧ lo.length ≤ 24
  case neg =>
    go_enter Try.func3, Try.ntmps3
    go_wp2
    all_goals first
      | (exfalso; omega)
      | (go_ret; exact ⟨rfl, Below.refl _ _⟩)
      | skip
  obtain ⟨n4, n8, k0, kn, k1, l1, l40, o24⟩ := call
  obtain ⟨N, rfl⟩ : ∃ t : Nat, n = t := ⟨n.toNat, by omega⟩
  obtain ⟨K, rfl⟩ : ∃ t : Nat, k = t := ⟨k.toNat, by omega⟩
  have q1 : decide (((N : Nat) : Int) < 4) = false := decide_eq_false (by omega)
  have q2 : decide ((8 : Int) < ((N : Nat) : Int)) = false := decide_eq_false (by omega)
  have q3 : decide (((K : Nat) : Int) < 0) = false := decide_eq_false (by omega)
  have q4 : decide (((N : Nat) : Int) ≤ ((K : Nat) : Int)) = false := decide_eq_false (by omega)
  have q5 : decide (((l.length : Nat) : Int) < 1) = false := decide_eq_false (by omega)
  have q6 : decide ((40 : Int) < ((l.length : Nat) : Int)) = false := decide_eq_false (by omega)
  have q7 : (((K : Nat) : Int) == 1) = false := by rw [beq_eq_false_iff_ne]; omega
  have q8 : decide ((24 : Int) < ((lo.length : Nat) : Int)) = false := decide_eq_false (by omega)
  have hBg := fun W => Lib.hid (begun_sr N (by omega) (by omega) W)
  have hKn := fun W => Lib.hid (known_sr W)
  have hS : ∀ (g : Nat) (W : World), GsAt W g N (S1 N) (S1 N) → SeesL W W.heap.size (.slice A l.length c) l → SeesL W W.heap.size (.slice Ao lo.length co) lo → Hid (Calls Try.prog 14 #[.pointer (some ⟨g, 0, none⟩), .agg #[.slice none 0 0, .slice A l.length c, .slice none 0 0, .slice none 0 0, .slice none 0 0, .slice none 0 0, .slice none 0 0, .slice none 0 0], .agg #[.int .i64 0, .int .i64 0, .int .i64 0, .int .i64 0, .int .i64 0, .int .i64 0, .int .i64 0, .int .i64 0], .slice (some ⟨W.heap.size, 0, none⟩) 1 1]
      (W.alloc (.cells #[.int .i64 5, .int .i64 (K : Nat), .int .i64 0, .slice Ao lo.length co] 34)) fun e w' => ∃ f, e = .returned (.tuple #[.agg (hdC f), .int .i64 0]) ∧ Hid (∀ i, i < N → ((f i).A = 2 ∧ (f i).B = 2) ∧ OwnsL w' (W.heap.size + 1) (f i).X l ∧ OwnsL w' (W.heap.size + 1) (f i).Y l) ∧ Hid (∀ i, i < 8 → (∃ A n c, (f i).X = .slice A n c) ∧ ∃ A n c, (f i).Y = .slice A n c) ∧ Only g (W.alloc (.cells #[.int .i64 5, .int .i64 (K : Nat), .int .i64 0, .slice Ao lo.length co] 34)) w') := fun g W hG hv hvo => Lib.hid (by
    have hF := SeesF.one W W.heap.size rfl 34 ⟨5, (K : Nat), 0, lo⟩ _ hvo hlo
    have hb := (Below.refl W.heap.size W).alloc (Nat.le_refl _) (.cells #[.int .i64 5, .int .i64 (K : Nat), .int .i64 0, .slice Ao lo.length co] 34)
    have hz : (W.alloc (.cells #[.int .i64 5, .int .i64 (K : Nat), .int .i64 0, .slice Ao lo.length co] 34)).heap.size = W.heap.size + 1 := by simp
    have e0 : strikes [(⟨5, (K : Nat), 0, lo⟩ : Ft)] (m0 N (at1 1 l []) fun _ => 0) = strikeL ⟨5, (K : Nat), 0, lo⟩ (m0 N (at1 1 l []) fun _ => 0) := rfl
    have es : ∀ i, i < N → i ≠ K → (strikeL ⟨5, (K : Nat), 0, lo⟩ (m0 N (at1 1 l []) fun _ => 0))[i]? = some (sd0 (at1 1 l []) (fun _ => 0) i) := fun i hi e => by
      rw [strikeL_other _ _ i (by simp; omega), m0_get N _ _ i hi]
    have ed : ∀ i, i < N → (strikeL ⟨5, (K : Nat), 0, lo⟩ (m0 N (at1 1 l []) fun _ => 0))[i]?.map Sd.df = some false := fun i hi => by
      by_cases e : i = K
      · rw [strikeL_same _ _ i _ (by simp) (by simp [e]) (m0_get N _ _ i hi)]
        simp [Sd.strike, sd0]
      · rw [es i hi e]; rfl
    refine (slot_heard (A := at1 1 A none) (c := at1 1 c 0) (bs := at1 1 l []) (a := fun _ => 0) (fl := [⟨5, (K : Nat), 0, lo⟩]) (s := sd0 (at1 1 l []) (fun _ => 0) 1) (by omega) (by omega) (hG.below hb hG.lt) (fun i _ => by
        by_cases e : i = 1
        · subst e; exact ⟨(hv.below hb).more (by omega), hl⟩
        · simp only [at1, if_neg e]; exact ⟨SeesL.nil, fun x hx => by cases hx⟩) (fun i => by simp) (hF.more (by simp)) (by simp [ftIs, Ft.may, ftMay]; omega) (fun f hf => by rw [List.mem_singleton.1 hf]; simp) (by simp [blocks]) (by simp [blocks]) e0
      (es 1 (by omega) (by omega)) (by show -1000000 ≤ (0 : Int) ∧ (0 : Int) ≤ 1000000; omega) (by
        unfold on1
        rw [show (sd0 (at1 1 l []) (fun _ => 0) 1).n = rn l from rfl, show (sd0 (at1 1 l []) (fun _ => 0) 1).at_ = 0 from rfl]
        rw [show decide (0 < rn l) = true from decide_eq_true (by unfold rn; omega)]
        decide)).mono ?_
    rintro e w' ⟨f, rfl, hH, -, hO⟩
    refine ⟨f, rfl, Lib.hid (fun i hi => ?_), Lib.hid (fun i hi => (hH i hi).forms), hO⟩
    have := (hH i (by omega)).loud (by rw [strikeL_length, m0_length]; exact hi) (ed i hi)
    rw [hz, show (sd0 (at1 1 l []) (fun _ => 0) 1).n = rn l from rfl, show (sd0 (at1 1 l []) (fun _ => 0) 1).q = rq l from rfl, tk_rq l (by omega), tl_rq l hl (by omega)] at this
    exact this)
  have hin := infoHeard8
  go_enter Try.func3, Try.ntmps3
  go_wp2_with fail
  refine (hBg w).out.mono ?_
  rintro e w1 ⟨g, rfl, hg, hG, hb1⟩
  have hsl := hS g w1 hG ((hv.below hb1).more hb1.size) ((hvo.below hb1).more hb1.size)
  have hB2 := hb1.alloc hb1.size (.cells #[.int .i64 5, .int .i64 (K : Nat), .int .i64 0, .slice Ao lo.length co] 34)
  have hgl := hG.lt
  have hz2 : (w1.alloc (.cells #[.int .i64 5, .int .i64 (K : Nat), .int .i64 0, .slice Ao lo.length co] 34)).heap.size = w1.heap.size + 1 := by simp
  clear hS hBg hG
  go_wp2_with fail
  refine hsl.out.mono ?_
  rintro e w4 ⟨f, rfl, hA, hXY, hO⟩
  have hb4 := Lib.hid (hB2.trans (hO.below (by omega) (by omega)))
  have hl' := hear_lies w4 w4.heap.size rfl f 27
  have hth := hdz_there w4 w4.heap.size rfl 27
  have h40 : 40 = (hdC f).size := rfl
  rw [hdz_lit] at hl' hth
  rw [h40] at hth
  clear h40
  obtain ⟨hH, hB5⟩ := hl'
  have hone := Lib.hid (hdC_one f (fun i hi => (hXY.out i hi).1) (fun i hi => (hXY.out i hi).2))
  have HF : Hid (∀ W i, i < N → HAt W w4.heap.size f → Below w4.heap.size w4 W → W.cell? ⟨w4.heap.size, i * 5, none⟩ = some (.int .i64 2) ∧ W.cell? ⟨w4.heap.size, i * 5 + 1, none⟩ = some (.int .i64 2) ∧ (∃ A c, W.cell? ⟨w4.heap.size, i * 5 + 2, none⟩ = some (.slice A l.length c) ∧ ∀ d, (convert 22 9 (.slice A l.length c)).run Try.prog (W.drewN d) = .ok (.string (textL l)) (W.drewN d)) ∧ (∃ A c, W.cell? ⟨w4.heap.size, i * 5 + 3, none⟩ = some (.slice A l.length c) ∧ ∀ d, (convert 22 9 (.slice A l.length c)).run Try.prog (W.drewN d) = .ok (.string (textL l)) (W.drewN d))) := Lib.hid fun W i hi h hb => by
    obtain ⟨e0, e1, e2, e3, -⟩ := h.get i (by omega)
    obtain ⟨⟨a0, b0⟩, ox, oy⟩ := hA.out i hi
    have sx := (ox.below hb (Nat.le_refl _)).sees
    have sy := (oy.below hb (Nat.le_refl _)).sees
    obtain ⟨Ax, cx, hx, -⟩ := sx.at_
    obtain ⟨Ay, cy, hy, -⟩ := sy.at_
    rw [a0] at e0
    rw [b0] at e1
    rw [hx] at e2 sx
    rw [hy] at e3 sy
    exact ⟨e0, e1, ⟨Ax, cx, e2, fun d => run_textL (sx.below (below_drewN (Below.refl _ _) d))⟩, ⟨Ay, cy, e3, fun d => run_textL (sy.below (below_drewN (Below.refl _ _) d))⟩⟩
  have HD : Hid (∀ W, Below w4.heap.size w4 W → ∀ d, (convert 22 9 (.slice A l.length c)).run Try.prog (W.drewN d) = .ok (.string (textL l)) (W.drewN d)) := Lib.hid fun W hb d => run_textL (hv.below (below_drewN (hb4.out.trans (hb.mono hb4.out.size)) d))
  clear hA hXY hO hB2 hsl
  go_wp2_with (refine wpList_store_mid rfl _ _ _ rfl _ _ (hdC f) rfl rfl hth hin hone.out ?_; clear hth; generalize World.setCells _ _ _ _ = w5 at hH hB5 ⊢)
  go_loopw [12] (fun i wr => ∃ j : Nat, j ≤ N ∧ i = .int .i64 j ∧ HAt wr w4.heap.size f ∧ Below w4.heap.size w4 wr) (fun i _ => N - (intOf i).toNat)
  case atStart => exact ⟨0, by omega, rfl, hH, hB5⟩
  case round =>
    clear hH hB5
    obtain ⟨j, hj, rfl, hH, hB5⟩ := hrel
    by_cases hlt : j < N
    · have r1 : decide ((j : Int) < (N : Nat)) = true := by simp; omega
      obtain ⟨e0, e1, ⟨Ax, cx, e2, t2⟩, ⟨Ay, cy, e3, t3⟩⟩ := HF.out wr j (by omega) hH hB5
      have t1 := HD.out wr hB5
      have i1 : (j : Int) < 8 := by omega
      have HR : Hid (∀ nq, HAt (wr.drewN nq) w4.heap.size f ∧ Below w4.heap.size w4 (wr.drewN nq)) := Lib.hid fun nq => ⟨hH.below (below_drewN (Below.refl (w4.heap.size + 1) wr) nq) (Nat.lt_succ_self _), hB5.trans (below_drewN (Below.refl _ wr) nq)⟩
      clear hH hB5
      generalize textL l = tx at *
      go_wp2_with fail
      go_quiet (fail)
      go_wp2
      go_roundw
      case rel => exact ⟨j + 1, by omega, by go_num, (HR.out _).1, (HR.out _).2⟩
      case measure => simp [intOf]; omega
    · have r1 : decide ((j : Int) < (N : Nat)) = false := by simp; omega
      have hk := hKn wr
      have hbb := Lib.hid (hb4.out.trans (hB5.mono hb4.out.size))
      clear hKn
      go_wp2_with fail
      refine hk.out.mono ?_
      rintro e w6 ⟨rfl, hb6⟩
      have hbz := Lib.hid (hbb.out.trans (hb6.mono hbb.out.size))
      go_wp2_with fail
      go_ret
      exact ⟨rfl, hbz.out⟩
theorem walk_starBabble (n : Int) (A0 : Option Addr) (m c : Nat) (z : Nat → Int) (k : Int) (A1 : Option Addr) (m1 c1 : Nat) (z1 : Nat → Int) (w : World) (_h_n : -9223372036854775808 ≤ n ∧ n ≤ 9223372036854775807) (s : InBytesN w A0 m c z) (_h_k : -9223372036854775808 ≤ k ∧ k ≤ 9223372036854775807) (s1 : InBytesN w A1 m1 c1 z1) :
    Calls Try.prog 3 #[.int .i64 n, .slice A0 m c, .int .i64 k, .slice A1 m1 c1] w fun e w' => e = .returned (.bool true) ∧ Below w.heap.size w w' := by
  obtain ⟨hv, hl⟩ := s.list
  obtain ⟨hv1, hl1⟩ := s1.list
  have hm : (lst z m).length = m := lst_length z m
  have hm1 : (lst z1 m1).length = m1 := lst_length z1 m1
  generalize lst z m = l at *
  generalize lst z1 m1 = l1 at *
  subst hm hm1
  exact core_starBabble n k l A0 c l1 A1 c1 w hv hl hv1 hl1

/-! ### THE ROW's STEP around the walk. -/
theorem own_starBabble : ownKnob Try.prog.godebug = none := by kernel_rfl
theorem laidOut_starBabble : laidOutB Try.prog = true := by kernel_rfl
set_option maxRecDepth 100000 in
theorem lifted_starBabble (os : Os) (started : os.Started) (H : Type) (enc : TypeId × Value → H) :
    ReturnsInHanded {} Try.checked os 3 .any (Rows.starBabbleSpec.pre6 enc Try.prog Try.f3 Rows.starBabbleRow.domain false) (Rows.starBabbleSpec.post enc Try.prog Try.f3 false true false false) := by
  refine returnsInHanded_of_change_sized (C := Try.checked) own_starBabble started (by kernel_rfl) Try.func3
    (ChangeSpec.witness6 (enc := enc) (C := Try.checked) false ⟨#[], #[.int .i64 0, .slice none 0 0, .int .i64 0, .slice none 0 0], []⟩ 8 (by kernel_rfl) (by kernel_rfl) (by kernel_rfl) (by kernel_rfl)) ?_
  intro W base args ds gs before hval0 hW hcnd hsz0 _
  have hval : ∀ (j : Nat) t v, Try.f3.params[j]? = some t → args[j]? = some v → Value.okWide Try.prog W .any base t v := hval0
  have hW' := hW
  obtain ⟨p, q, hA0, hV, rfl, hfz, hnd⟩ := hW
  have hA : DataW.TrodAll enc Try.prog W 0 (fun _ => true) true Try.f3.params.toList args.toList ds p := hA0
  have hsz : (DataW.weightsEach Try.prog (Try.f3.params.toList ++ Rows.starBabbleSpec.plain.varTypes Try.prog) (ds ++ gs)).all (· ≤ reachBytes) = true := hsz0
  rw [Try.params3] at hA hval hsz
  obtain ⟨v0, vs0, d0, ds0, p0, q0, hargs, rfl, rfl, h0, r0⟩ := trodAll_cons hA
  obtain ⟨v1, vs1, d1, ds1, p1, q1, rfl, rfl, rfl, h1, r1⟩ := trodAll_cons r0
  obtain ⟨v2, vs2, d2, ds2, p2, q2, rfl, rfl, rfl, h2, r2⟩ := trodAll_cons r1
  obtain ⟨v3, vs3, d3, ds3, p3, q3, rfl, rfl, rfl, h3, r3⟩ := trodAll_cons r2
  obtain ⟨rfl, rfl, rfl⟩ := trodAll_nil r3
  obtain rfl : args = #[v0, v1, v2, v3] := by cases args; simp_all
  obtain ⟨rfl, rfl⟩ := trodVars_none hV
  obtain ⟨a0, rfl, rfl, rfl, w0⟩ := open_int Try.underlying3 (hval 0 3 v0 rfl rfl) h0
  obtain ⟨A1, n1, c1, rfl⟩ := okWide_slice Try.underlying22 (hval 1 22 v1 rfl rfl)
  have k1 := h1
  have lt1 : ∀ x ∈ p1, x.block < W.heap.size := by obtain ⟨m, hm⟩ := k1; exact DataW.trod_lt m _ _ _ hm
  obtain ⟨z1, s1⟩ := sees_bytesn Try.underlying22 Try.underlying5 (by kernel_rfl) h1 (by kernel_rfl) (fun _ _ hd => sized_slice hsz (j := 1) (t := 22) (e := 5) rfl (congrArg some hd) Try.underlying22)
  obtain ⟨a2, rfl, rfl, rfl, w2⟩ := open_int Try.underlying3 (hval 2 3 v2 rfl rfl) h2
  obtain ⟨A3, n3, c3, rfl⟩ := okWide_slice Try.underlying22 (hval 3 22 v3 rfl rfl)
  have k3 := h3
  have lt3 : ∀ x ∈ p3, x.block < W.heap.size := by obtain ⟨m, hm⟩ := k3; exact DataW.trod_lt m _ _ _ hm
  obtain ⟨z3, s3⟩ := sees_bytesn Try.underlying22 Try.underlying5 (by kernel_rfl) h3 (by kernel_rfl) (fun _ _ hd => sized_slice hsz (j := 3) (t := 22) (e := 5) rfl (congrArg some hd) Try.underlying22)
  clear hA0 hval0
  refine (walk_starBabble a0 A1 n1 c1 z1 a2 A3 n3 c3 z3 W (bounds_i64 w0) s1 (bounds_i64 w2) s3).mono fun e W' ⟨he, bel⟩ => ?_
  subst he
  exact ⟨_, rfl, _, _, _, [], _, [], hW', trodAll_mk1 (shut_bool Try.underlying4 _), (trodAll_cons_mk (shut_int Try.underlying3 w0) (trodAll_cons_mk (Below.trod laidOut_starBabble (by kernel_rfl) (of_decide_eq_true (by kernel_rfl)) k1 bel lt1) (trodAll_cons_mk (shut_int Try.underlying3 w2) (trodAll_cons_mk (Below.trod laidOut_starBabble (by kernel_rfl) (of_decide_eq_true (by kernel_rfl)) k3 bel lt3) trodAll_mk0)))), rfl, bel.frame _, fun h => by cases h⟩

theorem over_starBabble : Rows.starBabbleRow.holds Try.pinned (OpenSpec.ofChange Rows.starBabbleSpec) :=
  OpenClaim.holds_of_wide 3 Try.f3 rfl rfl rfl rfl rfl rfl rfl ⟨rfl, rfl, rfl, rfl, rfl⟩ rfl rfl rfl rfl rfl (by kernel_rfl) Try.func3 (by kernel_rfl)
    (of_decide_eq_true (by kernel_rfl)) (by unfold Func.isWrapper; first | (rw [if_pos (by decide +kernel)]; kernel_rfl) | (rw [if_neg (by decide +kernel)]; exact ⟨rfl, rfl⟩))
    (fun os started H enc _ => lifted_starBabble os started H enc)

theorem proved_starBabble : Rows.StarBabbleSaid := over_starBabble
end Go.Proofs.Ytfnolnmdhppnmaa
