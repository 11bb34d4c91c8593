/- StarOmit holds: who sends nothing is not heard, and nobody in its place. For all arguments. -/
import Derived.Test.YtfnolnmdhppnmaaSB32
namespace Go.Proofs.Ytfnolnmdhppnmaa
open Go.ChangeShapes Go.WideShapes Go.ChangeAt Go.RowKit

def t4 {α : Type} (x y z : α) (i : Nat) : α := if i = 1 then x else if i = 0 ∨ i = 2 ∨ i = 3 then y else z
set_option maxRecDepth 100000 in
set_option maxHeartbeats 4000000 in
theorem core_starOmit (n : Int) (l : List Int) (A : Option Addr) (c : Nat) (lo : List Int) (Ao : Option Addr) (co : Nat) (w : World) (hv : SeesL w w.heap.size (.slice A l.length c) l) (hl : bytesL l) (hvo : SeesL w w.heap.size (.slice Ao lo.length co) lo) (hlo : bytesL lo) :
    Calls Try.prog 11 #[.int .i64 n, .slice A l.length c, .slice Ao lo.length co] w fun e w' => e = .returned (.bool true) ∧ Below w.heap.size w w' := by
  by_cases call : 4 ≤ n ∧ n ≤ 8 ∧ l.length ≤ 40 ∧ lo.length ≤ 40
  case neg =>
    go_enter Try.func11, Try.ntmps11
    go_wp2
    all_goals first
      | (exfalso; omega)
      | (go_ret; exact ⟨rfl, Below.refl _ _⟩)
      | skip
  obtain ⟨n4, n8, l40, lo40⟩ := call
  obtain ⟨N, rfl⟩ : ∃ t : Nat, n = t := ⟨n.toNat, by omega⟩
  have q1 : decide (((N : Nat) : Int) < 4) = false := decide_eq_false (by omega)
  have q2 : decide ((8 : Int) < ((N : Nat) : Int)) = false := decide_eq_false (by omega)
  have q6 : decide ((40 : Int) < ((l.length : Nat) : Int)) = false := decide_eq_false (by omega)
  have q7 : decide ((40 : Int) < ((lo.length : Nat) : Int)) = false := decide_eq_false (by omega)
  have hBg := fun W => Lib.hid (begun_sr N (by omega) (by omega) W)
  have hKn := fun W => Lib.hid (known_sr W)
  have hS : ∀ (g : Nat) (W : World), GsAt W g N (S1 N) (S1 N) → SeesL W W.heap.size (.slice A l.length c) l → SeesL W W.heap.size (.slice Ao lo.length co) lo → Hid (Calls Try.prog 14 #[.pointer (some ⟨g, 0, none⟩), .agg #[.slice Ao lo.length co, .slice A l.length c, .slice Ao lo.length co, .slice Ao lo.length co, .slice none 0 0, .slice none 0 0, .slice none 0 0, .slice none 0 0], .agg #[.int .i64 0, .int .i64 0, .int .i64 0, .int .i64 0, .int .i64 0, .int .i64 0, .int .i64 0, .int .i64 0], .slice (some ⟨W.heap.size, 0, none⟩) 1 1]
      (W.alloc (.cells #[.int .i64 1, .int .i64 1, .int .i64 0, .slice none 0 0] 34)) fun e w' => ∃ f, e = .returned (.tuple #[.agg (hdC f), .int .i64 0]) ∧ Hid (∀ i, i < 8 → ((f i).A = 0 ∧ (f i).B = 0) ∧ OwnsL w' (W.heap.size + 1) (f i).X []) ∧ Hid (∀ i, i < 8 → (∃ A n c, (f i).X = .slice A n c) ∧ ∃ A n c, (f i).Y = .slice A n c) ∧ Only g (W.alloc (.cells #[.int .i64 1, .int .i64 1, .int .i64 0, .slice none 0 0] 34)) w') := fun g W hG hv hvo => Lib.hid (by
    have hF := SeesF.one W W.heap.size rfl 34 ⟨1, 1, 0, []⟩ (.slice none 0 0) SeesL.nil (fun x hx => by cases hx)
    have hb := (Below.refl W.heap.size W).alloc (Nat.le_refl _) (.cells #[.int .i64 1, .int .i64 1, .int .i64 0, .slice none 0 0] 34)
    have hz : (W.alloc (.cells #[.int .i64 1, .int .i64 1, .int .i64 0, .slice none 0 0] 34)).heap.size = W.heap.size + 1 := by simp
    refine (slot_quiet (A := t4 A Ao none) (c := t4 c co 0) (bs := t4 l lo []) (a := fun _ => 0) (fl := [⟨1, 1, 0, []⟩]) (s := (sd0 (t4 l lo []) (fun _ => 0) 1).strike ⟨1, 1, 0, []⟩) false (by omega) (by omega) (hG.below hb hG.lt) (fun i _ => by
        unfold t4
        by_cases e : i = 1
        · simp only [if_pos e]; exact ⟨(hv.below hb).more (by omega), hl⟩
        · simp only [if_neg e]
          by_cases e2 : i = 0 ∨ i = 2 ∨ i = 3
          · simp only [if_pos e2]; exact ⟨(hvo.below hb).more (by omega), hlo⟩
          · simp only [if_neg e2]; exact ⟨SeesL.nil, fun x hx => by cases hx⟩) (fun i => by simp) (hF.more (by simp)) (by decide) (fun f hf => by rw [List.mem_singleton.1 hf]; simp) (by simp [blocks]) (by simp [blocks]) rfl
      (by
        rw [show strikes [(⟨1, 1, 0, []⟩ : Ft)] (m0 N (t4 l lo []) fun _ => 0) = strikeL ⟨1, 1, 0, []⟩ (m0 N (t4 l lo []) fun _ => 0) from rfl]
        exact strikeL_same _ _ 1 _ (by simp) rfl (m0_get N _ _ 1 (by omega))) (.inr rfl)).mono ?_
    rintro e w' ⟨f, r, rfl, hH, -, hO⟩
    rw [hz] at hH
    exact ⟨f, rfl, Lib.hid (fun i hi => ⟨(hH i hi).quiet, (hH i hi).quietX.1⟩), Lib.hid (fun i hi => (hH i hi).forms), hO⟩)
  have hin := infoHeard8
  go_enter Try.func11, Try.ntmps11
  go_wp2_with fail
  refine (hBg w).out.mono ?_
  rintro e w1 ⟨g, rfl, hg, hG, hb1⟩
  have hsl := hS g w1 hG ((hv.below hb1).more hb1.size) ((hvo.below hb1).more hb1.size)
  have hB2 := hb1.alloc hb1.size (.cells #[.int .i64 1, .int .i64 1, .int .i64 0, .slice none 0 0] 34)
  have hgl := hG.lt
  have hz2 : (w1.alloc (.cells #[.int .i64 1, .int .i64 1, .int .i64 0, .slice none 0 0] 34)).heap.size = w1.heap.size + 1 := by simp
  clear hS hBg hG
  go_wp2_with fail
  refine hsl.out.mono ?_
  rintro e w4 ⟨f, rfl, hA, hXY, hO⟩
  have hb4 := Lib.hid (hB2.trans (hO.below (by omega) (by omega)))
  have hl' := hear_lies w4 w4.heap.size rfl f 27
  have hth := hdz_there w4 w4.heap.size rfl 27
  have h40 : 40 = (hdC f).size := rfl
  rw [hdz_lit] at hl' hth
  rw [h40] at hth
  clear h40
  obtain ⟨hH, hB5⟩ := hl'
  have hone := Lib.hid (hdC_one f (fun i hi => (hXY.out i hi).1) (fun i hi => (hXY.out i hi).2))
  have HF : Hid (∀ W, HAt W w4.heap.size f → W.cell? ⟨w4.heap.size, 0, none⟩ = some (.int .i64 0) ∧ W.cell? ⟨w4.heap.size, 16, none⟩ = some (.int .i64 0) ∧ ∃ A c, W.cell? ⟨w4.heap.size, 12, none⟩ = some (.slice A 0 c)) := Lib.hid fun W h => by
    have e0 := (h.get 0 (by omega)).1
    have e3 := (h.get 3 (by omega)).2.1
    have e2 := (h.get 2 (by omega)).2.2.1
    rw [(hA.out 0 (by omega)).1.1] at e0
    rw [(hA.out 3 (by omega)).1.2] at e3
    obtain ⟨A, c, hx2, -⟩ := (hA.out 2 (by omega)).2.sees.at_
    rw [hx2] at e2
    exact ⟨e0, e3, A, c, e2⟩
  clear hA hXY hO hB2 hsl
  go_wp2_with (first
    | (refine wpList_store_mid rfl _ _ _ rfl _ _ (hdC f) rfl rfl hth hin hone.out ?_; clear hth; generalize World.setCells _ _ _ _ = w5 at hH hB5 ⊢; obtain ⟨e0, e3, A2, c2, e2⟩ := HF.out w5 hH; have hk := hKn w5; have hbb := Lib.hid (hb4.out.trans (hB5.mono hb4.out.size))))
  refine hk.out.mono ?_
  rintro e w6 ⟨rfl, hb6⟩
  have hbz := Lib.hid (hbb.out.trans (hb6.mono hbb.out.size))
  go_wp2_with fail
  go_ret
  exact ⟨rfl, hbz.out⟩
theorem walk_starOmit (n : Int) (A0 : Option Addr) (m c : Nat) (z : Nat → Int) (A1 : Option Addr) (m1 c1 : Nat) (z1 : Nat → Int) (w : World) (_h_n : -9223372036854775808 ≤ n ∧ n ≤ 9223372036854775807) (s : InBytesN w A0 m c z) (s1 : InBytesN w A1 m1 c1 z1) :
    Calls Try.prog 11 #[.int .i64 n, .slice A0 m c, .slice A1 m1 c1] w fun e w' => e = .returned (.bool true) ∧ Below w.heap.size w w' := by
  obtain ⟨hv, hl⟩ := s.list
  obtain ⟨hv1, hl1⟩ := s1.list
  have hm : (lst z m).length = m := lst_length z m
  have hm1 : (lst z1 m1).length = m1 := lst_length z1 m1
  generalize lst z m = l at *
  generalize lst z1 m1 = l1 at *
  subst hm hm1
  exact core_starOmit n l A0 c l1 A1 c1 w hv hl hv1 hl1

/-! ### THE ROW's STEP around the walk. -/
theorem own_starOmit : ownKnob Try.prog.godebug = none := by kernel_rfl
theorem laidOut_starOmit : laidOutB Try.prog = true := by kernel_rfl
set_option maxRecDepth 100000 in
theorem lifted_starOmit (os : Os) (started : os.Started) (H : Type) (enc : TypeId × Value → H) :
    ReturnsInHanded {} Try.checked os 11 .any (Rows.starOmitSpec.pre6 enc Try.prog Try.f11 Rows.starOmitRow.domain false) (Rows.starOmitSpec.post enc Try.prog Try.f11 false true false false) := by
  refine returnsInHanded_of_change_sized (C := Try.checked) own_starOmit started (by kernel_rfl) Try.func11
    (ChangeSpec.witness6 (enc := enc) (C := Try.checked) false ⟨#[], #[.int .i64 0, .slice none 0 0, .slice none 0 0], []⟩ 8 (by kernel_rfl) (by kernel_rfl) (by kernel_rfl) (by kernel_rfl)) ?_
  intro W base args ds gs before hval0 hW hcnd hsz0 _
  have hval : ∀ (j : Nat) t v, Try.f11.params[j]? = some t → args[j]? = some v → Value.okWide Try.prog W .any base t v := hval0
  have hW' := hW
  obtain ⟨p, q, hA0, hV, rfl, hfz, hnd⟩ := hW
  have hA : DataW.TrodAll enc Try.prog W 0 (fun _ => true) true Try.f11.params.toList args.toList ds p := hA0
  have hsz : (DataW.weightsEach Try.prog (Try.f11.params.toList ++ Rows.starOmitSpec.plain.varTypes Try.prog) (ds ++ gs)).all (· ≤ reachBytes) = true := hsz0
  rw [Try.params11] at hA hval hsz
  obtain ⟨v0, vs0, d0, ds0, p0, q0, hargs, rfl, rfl, h0, r0⟩ := trodAll_cons hA
  obtain ⟨v1, vs1, d1, ds1, p1, q1, rfl, rfl, rfl, h1, r1⟩ := trodAll_cons r0
  obtain ⟨v2, vs2, d2, ds2, p2, q2, rfl, rfl, rfl, h2, r2⟩ := trodAll_cons r1
  obtain ⟨rfl, rfl, rfl⟩ := trodAll_nil r2
  obtain rfl : args = #[v0, v1, v2] := by cases args; simp_all
  obtain ⟨rfl, rfl⟩ := trodVars_none hV
  obtain ⟨a0, rfl, rfl, rfl, w0⟩ := open_int Try.underlying3 (hval 0 3 v0 rfl rfl) h0
  obtain ⟨A1, n1, c1, rfl⟩ := okWide_slice Try.underlying22 (hval 1 22 v1 rfl rfl)
  have k1 := h1
  have lt1 : ∀ x ∈ p1, x.block < W.heap.size := by obtain ⟨m, hm⟩ := k1; exact DataW.trod_lt m _ _ _ hm
  obtain ⟨z1, s1⟩ := sees_bytesn Try.underlying22 Try.underlying5 (by kernel_rfl) h1 (by kernel_rfl) (fun _ _ hd => sized_slice hsz (j := 1) (t := 22) (e := 5) rfl (congrArg some hd) Try.underlying22)
  obtain ⟨A2, n2, c2, rfl⟩ := okWide_slice Try.underlying22 (hval 2 22 v2 rfl rfl)
  have k2 := h2
  have lt2 : ∀ x ∈ p2, x.block < W.heap.size := by obtain ⟨m, hm⟩ := k2; exact DataW.trod_lt m _ _ _ hm
  obtain ⟨z2, s2⟩ := sees_bytesn Try.underlying22 Try.underlying5 (by kernel_rfl) h2 (by kernel_rfl) (fun _ _ hd => sized_slice hsz (j := 2) (t := 22) (e := 5) rfl (congrArg some hd) Try.underlying22)
  clear hA0 hval0
  refine (walk_starOmit a0 A1 n1 c1 z1 A2 n2 c2 z2 W (bounds_i64 w0) s1 s2).mono fun e W' ⟨he, bel⟩ => ?_
  subst he
  exact ⟨_, rfl, _, _, _, [], _, [], hW', trodAll_mk1 (shut_bool Try.underlying4 _), (trodAll_cons_mk (shut_int Try.underlying3 w0) (trodAll_cons_mk (Below.trod laidOut_starOmit (by kernel_rfl) (of_decide_eq_true (by kernel_rfl)) k1 bel lt1) (trodAll_cons_mk (Below.trod laidOut_starOmit (by kernel_rfl) (of_decide_eq_true (by kernel_rfl)) k2 bel lt2) trodAll_mk0))), rfl, bel.frame _, fun h => by cases h⟩

theorem over_starOmit : Rows.starOmitRow.holds Try.pinned (OpenSpec.ofChange Rows.starOmitSpec) :=
  OpenClaim.holds_of_wide 11 Try.f11 rfl rfl rfl rfl rfl rfl rfl ⟨rfl, rfl, rfl, rfl, rfl⟩ rfl rfl rfl rfl rfl (by kernel_rfl) Try.func11 (by kernel_rfl)
    (of_decide_eq_true (by kernel_rfl)) (by unfold Func.isWrapper; first | (rw [if_pos (by decide +kernel)]; kernel_rfl) | (rw [if_neg (by decide +kernel)]; exact ⟨rfl, rfl⟩))
    (fun os started H enc _ => lifted_starOmit os started H enc)

theorem proved_starOmit : Rows.StarOmitSaid := over_starOmit
end Go.Proofs.Ytfnolnmdhppnmaa
