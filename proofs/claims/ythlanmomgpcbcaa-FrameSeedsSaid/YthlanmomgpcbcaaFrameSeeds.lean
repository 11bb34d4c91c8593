/- FrameSeeds holds: a Normal frame is read by another state just if its seed is one. For all states and bytes. -/
import Derived.Test.YthlanmomgpcbcaaFrP
namespace Go.Proofs.Ythlanmomgpcbcaa
open Go.ChangeShapes Go.WideShapes Go.ChangeAt Go.RowKit
open Go.ChangeMaps (open_string shut_string)
open Fr (St F)

set_option maxRecDepth 100000 in
set_option maxHeartbeats 8000000 in
theorem walk_frameSeeds (s o : St) (A : Option Addr) (n c : Nat) (z : Nat → Int) (w : World) (_hs : InState s) (_ho : InState o) (h : InBytesN w A n c z) :
    Calls Try.prog 6 #[stV s, stV o, .slice A n c] w fun e w' => e = .returned (.bool true) ∧ Below w.heap.size w w' := by
  obtain ⟨hv, hd⟩ := h.list
  have hreach := h.reach
  clear h
  have hln := lst_length z n
  generalize lst z n = d at *
  have hn1 : d.length ≤ n ∧ n ≤ d.length := by omega
  clear hln
  have R4 := fun W => Lib.hid (may_ref s W)
  have R5 := fun W => Lib.hid (may_ref o W)
  have hbox := Lib.hid (box33 w (.int .i64 s.r) (.int .i64 s.s) (.int .i64 s.m) (.int .i64 o.r) (.int .i64 o.s) (.int .i64 o.m) 23 23)
  have early : s.may = false ∨ (s.may = true ∧ o.may = false) ∨ (s.may = true ∧ o.may = true ∧ 8 < n) ∨ (s.may = true ∧ o.may = true ∧ n ≤ 8) := by
    cases s.may <;> cases o.may <;> simp <;> omega
  rcases early with hm | ⟨hm, hm'⟩ | ⟨hm, hm', h8⟩ | ⟨hm, hm', h8⟩
  · rw [hm] at R4
    unfold stV at R4 R5 ⊢
    clear hm
    go_enter Try.func6, Try.ntmps6
    go_wp2_with fail
    refine (R4 _).out.mono ?_
    rintro e w1 ⟨rfl, hb⟩
    have hb := hbox.out.below.trans (hb.mono hbox.out.below.size)
    go_wp2
    go_ret
    exact ⟨rfl, hb⟩
  · rw [hm] at R4
    rw [hm'] at R5
    unfold stV at R4 R5 ⊢
    clear hm hm'
    go_enter Try.func6, Try.ntmps6
    go_wp2_with fail
    generalize (w.alloc (.cells #[.int .i64 s.r, .int .i64 s.s, .int .i64 s.m] 23)).alloc (.cells #[.int .i64 o.r, .int .i64 o.s, .int .i64 o.m] 23) = w0 at *
    refine (R4 _).out.mono ?_
    rintro e w1 ⟨rfl, hb1⟩
    obtain ⟨z1, -, y0, y1, y2⟩ := hbox.out.cell w1 hb1
    go_wp2_with fail
    refine (R5 _).out.mono ?_
    rintro e w2 ⟨rfl, hb2⟩
    have hb := hbox.out.below.trans ((hb1.trans (hb2.mono hb1.size)).mono hbox.out.below.size)
    go_wp2
    go_ret
    exact ⟨rfl, hb⟩
  · rw [hm] at R4
    rw [hm'] at R5
    have q1 : decide ((8 : Int) < n) = true := by simp; omega
    unfold stV at R4 R5 ⊢
    clear hm hm'
    go_enter Try.func6, Try.ntmps6
    go_wp2_with fail
    generalize (w.alloc (.cells #[.int .i64 s.r, .int .i64 s.s, .int .i64 s.m] 23)).alloc (.cells #[.int .i64 o.r, .int .i64 o.s, .int .i64 o.m] 23) = w0 at *
    refine (R4 _).out.mono ?_
    rintro e w1 ⟨rfl, hb1⟩
    obtain ⟨z1, -, y0, y1, y2⟩ := hbox.out.cell w1 hb1
    go_wp2_with fail
    refine (R5 _).out.mono ?_
    rintro e w2 ⟨rfl, hb2⟩
    have hb := hbox.out.below.trans ((hb1.trans (hb2.mono hb1.size)).mono hbox.out.below.size)
    go_wp2
    go_ret
    exact ⟨rfl, hb⟩
  · rw [hm] at R4
    rw [hm'] at R5
    have q1 : decide ((8 : Int) < n) = false := by simp; omega
    have hi : F.is ⟨1, s, d⟩ = true := (F.is_iff _).2 ⟨⟨by show (1 : Int) ≤ 1; omega, by show (1 : Int) ≤ 3; omega⟩, hm, by show d.length ≤ 8; omega⟩
    have R1 := fun W (hb : Below w.heap.size w W) => encode_dev ⟨1, s, d⟩ (.slice A n c) W ((hv.below hb).more hb.size) hd
    unfold Enc at R1
    rw [(encR_is hi).1, (encR_is hi).2] at R1
    obtain ⟨hF, hrd, hS⟩ := Fr.back hi o hm'
    rw [if_pos rfl] at hrd
    have hS' : Fr.sumB (F.bytes ⟨1, s, d⟩) o = true ↔ o.seed = s.seed := ⟨fun h => hS.1 h rfl, fun h => hS.2 fun _ => h⟩
    have R2 := fun V W (hs : SeesL W W.heap.size V (F.bytes ⟨1, s, d⟩)) => decode_dev V (F.bytes ⟨1, s, d⟩) o W hs (F.bytes_ok hi hd)
    unfold Dec at R2
    have R6 := fun W => Lib.hid (seed_ref s W)
    have R7 := fun W => Lib.hid (seed_ref o W)
    have hErr : ∀ b, Fr.sumB (F.bytes ⟨1, s, d⟩) o = b → Fr.err (F.bytes ⟨1, s, d⟩) o = (if b then 0 else 3) := fun b h => by rw [Fr.err, hF, h]; rfl
    have hRes : ∀ b, Fr.sumB (F.bytes ⟨1, s, d⟩) o = b → Fr.res (F.bytes ⟨1, s, d⟩) o = (if b then ⟨1, o, d⟩ else Fr.zero) := fun b h => by
      rw [Fr.res, hF, h, Bool.true_and]
      cases b
      · rfl
      · exact hrd
    by_cases he : o.seed = s.seed
    case' pos =>
      have hsb := hS'.2 he
      rw [hErr _ hsb, hRes _ hsb, if_pos rfl, if_pos rfl] at R2
      rw [he] at R7
      unfold frV at R2
    case' neg =>
      have hsb : Fr.sumB (F.bytes ⟨1, s, d⟩) o = false := by rw [Bool.eq_false_iff]; exact fun h => he (hS'.1 h)
      rw [hErr _ hsb, hRes _ hsb, if_neg (by decide), if_neg (by decide)] at R2
      have d1 : (((s.seed : Nat) : Int) == ((o.seed : Nat) : Int)) = false := by simp; omega
      unfold frV Fr.zero at R2
    all_goals
      have R1 := fun W hb => Lib.hid (R1 W hb)
      have R2 := fun V W hs => Lib.hid (R2 V W hs)
      clear hi hm hm' hF hrd hS hS' hErr hRes hsb he hv hd
      unfold frV at R1
      unfold stV at R2 R4 R5 R6 R7 ⊢
      generalize F.bytes ⟨1, s, d⟩ = L at *
      go_enter Try.func6, Try.ntmps6
      go_wp2_with fail
      generalize (w.alloc (.cells #[.int .i64 s.r, .int .i64 s.s, .int .i64 s.m] 23)).alloc (.cells #[.int .i64 o.r, .int .i64 o.s, .int .i64 o.m] 23) = w0 at *
      have hz0 : w0.heap.size ≤ w.heap.size + 2 ∧ w.heap.size + 2 ≤ w0.heap.size := by have := hbox.out.size; omega
      refine (R4 _).out.mono ?_
      rintro e wa ⟨rfl, hba⟩
      obtain ⟨z1, ⟨x0, x1, x2⟩, y0, y1, y2⟩ := hbox.out.cell wa hba
      go_wp2_with fail
      refine (R5 _).out.mono ?_
      rintro e wb ⟨rfl, hb⟩
      have hbb := hba.trans (hb.mono hba.size)
      clear x0 x1 x2 y0 y1 y2 hb hba z1 R4 R5
      obtain ⟨z1, ⟨x0, x1, x2⟩, y0, y1, y2⟩ := hbox.out.cell wb hbb
      go_wp2_with fail
      refine (R1 _ (hbox.out.below.trans (hbb.mono (by omega)))).out.mono ?_
      rintro e wc ⟨v1, rfl, ho1, hb⟩
      have hbc := hbb.trans (hb.mono hbb.size)
      obtain ⟨A1, d1', rfl, -⟩ := ho1.sees.at_
      clear x0 x1 x2 y0 y1 y2 hb hbb z1 R1
      obtain ⟨z1, ⟨x0, x1, x2⟩, y0, y1, y2⟩ := hbox.out.cell wc hbc
      have hs1 := ho1.sees
      clear ho1
      go_wp2_with fail
      refine (R2 _ _ hs1).out.mono ?_
      rintro e wd ⟨v3, rfl, ho3, hb⟩
      have hbd := hbc.trans (hb.mono hbc.size)
      obtain ⟨A3, d3, rfl, -⟩ := ho3.sees.at_
      clear x0 x1 x2 y0 y1 y2 hb hbc z1 R2 hs1 ho3
      have hzd : w0.heap.size ≤ wd.heap.size := hbd.size
      go_wp2_with fail
      first
        | (have _t := d1
           have hb5 := Lib.hid (box5 wd (.int .i64 0) (.int .i64 0) (.int .i64 0) (.int .i64 0) (.slice A3 0 d3) 26)
           have hbX := hbd.alloc hzd (.cells #[.int .i64 0, .int .i64 0, .int .i64 0, .int .i64 0, .slice A3 0 d3] 26)
           generalize wd.alloc (.cells #[.int .i64 0, .int .i64 0, .int .i64 0, .int .i64 0, .slice A3 0 d3] 26) = X at *)
        | (have hb5 := Lib.hid (box5 wd (.int .i64 1) (.int .i64 o.r) (.int .i64 o.s) (.int .i64 o.m) (.slice A3 d.length d3) 26)
           have hbX := hbd.alloc hzd (.cells #[.int .i64 1, .int .i64 o.r, .int .i64 o.s, .int .i64 o.m, .slice A3 d.length d3] 26)
           generalize wd.alloc (.cells #[.int .i64 1, .int .i64 o.r, .int .i64 o.s, .int .i64 o.m, .slice A3 d.length d3] 26) = X at *)
      have hXX := Below.refl X.heap.size X
      go_region_held3 (fun w' => (w'.cell? ⟨w.heap.size, 0, none⟩ = some (.int .i64 s.r) ∧ w'.cell? ⟨w.heap.size, 1, none⟩ = some (.int .i64 s.s) ∧ w'.cell? ⟨w.heap.size, 2, none⟩ = some (.int .i64 s.m)) ∧ w'.cell? ⟨w.heap.size + 1, 0, none⟩ = some (.int .i64 o.r) ∧ w'.cell? ⟨w.heap.size + 1, 1, none⟩ = some (.int .i64 o.s) ∧ w'.cell? ⟨w.heap.size + 1, 2, none⟩ = some (.int .i64 o.m))
        (first | exact (hbox.out.cell _ hbX).2 | exact (hbox.out.cell _ hbX.drew).2 | exact (hbox.out.cell _ (hbX.trans (hb3.mono hbX.size))).2 | exact (hbox.out.cell _ (hbX.trans (hb4.mono hbX.size))).2)
        (first
          | ((go_at_call_of 21 (Value.agg #[Value.int IntKind.i64 s.r, Value.int IntKind.i64 s.s, Value.int IntKind.i64 s.m]); refine (R6 _).out.mono ?_); rintro e w3 ⟨rfl, hb⟩; have hb3 := hXX.drew.trans (hb.mono hXX.size))
          | ((go_at_call 21; refine (R7 _).out.mono ?_); rintro e w4 ⟨rfl, hb⟩; have hb4 := hb3.trans (hb.mono hb3.size)))
      obtain ⟨zX, v0, v1, v2, v3, v4⟩ := hb5.out.cell _ hb4
      have hbF := hbX.trans (hb4.mono hbX.size)
      obtain ⟨z1, ⟨x0, x1, x2⟩, y0, y1, y2⟩ := hbox.out.cell _ hbF
      clear hb3 hb4 hXX hbX hbd R6 R7
      go_wp2_with (go_at_call 22; refine (knownFr_any _).mono ?_; rintro e wf ⟨rfl, hb6⟩)
      go_ret
      have hbF2 := hbox.out.below.trans (hbF.mono (by omega))
      exact ⟨by simp, hbF2.trans (hb6.mono hbF2.size)⟩

/-! ### THE ROW's STEP around the walk. -/
theorem own_frameSeeds : ownKnob Try.prog.godebug = none := by kernel_rfl
theorem laidOut_frameSeeds : laidOutB Try.prog = true := by kernel_rfl
set_option maxRecDepth 100000 in
theorem lifted_frameSeeds (os : Os) (started : os.Started) (H : Type) (enc : TypeId × Value → H) :
    ReturnsInHanded {} Try.checked os 6 .any (Rows.frameSeedsSpec.pre6 enc Try.prog Try.f6 Rows.frameSeedsRow.domain false) (Rows.frameSeedsSpec.post enc Try.prog Try.f6 false true false false) := by
  refine returnsInHanded_of_change_sized (C := Try.checked) own_frameSeeds started (by kernel_rfl) Try.func6
    (ChangeSpec.witness6 (enc := enc) (C := Try.checked) false ⟨#[], #[.agg #[.int .i64 0, .int .i64 0, .int .i64 0], .agg #[.int .i64 0, .int .i64 0, .int .i64 0], .slice none 0 0], []⟩ 8 (by kernel_rfl) (by kernel_rfl) (by kernel_rfl) (by kernel_rfl)) ?_
  intro W base args ds gs before hval0 hW hcnd hsz0 _
  have hval : ∀ (j : Nat) t v, Try.f6.params[j]? = some t → args[j]? = some v → Value.okWide Try.prog W .any base t v := hval0
  have hW' := hW
  obtain ⟨p, q, hA0, hV, rfl, hfz, hnd⟩ := hW
  have hA : DataW.TrodAll enc Try.prog W 0 (fun _ => true) true Try.f6.params.toList args.toList ds p := hA0
  have hsz : (DataW.weightsEach Try.prog (Try.f6.params.toList ++ Rows.frameSeedsSpec.plain.varTypes Try.prog) (ds ++ gs)).all (· ≤ reachBytes) = true := hsz0
  rw [Try.params6] at hA hval hsz
  obtain ⟨v0, vs0, d0, ds0, p0, q0, hargs, rfl, rfl, h0, r0⟩ := trodAll_cons hA
  obtain ⟨v1, vs1, d1, ds1, p1, q1, rfl, rfl, rfl, h1, r1⟩ := trodAll_cons r0
  obtain ⟨v2, vs2, d2, ds2, p2, q2, rfl, rfl, rfl, h2, r2⟩ := trodAll_cons r1
  obtain ⟨rfl, rfl, rfl⟩ := trodAll_nil r2
  obtain rfl : args = #[v0, v1, v2] := by cases args; simp_all
  obtain ⟨rfl, rfl⟩ := trodVars_none hV
  obtain ⟨y0, rfl, s0⟩ := sees_state Try.underlying23 (by kernel_rfl) ⟨rfl, rfl⟩ ⟨rfl, rfl⟩ ⟨rfl, rfl⟩ Try.underlying3 (by kernel_rfl) (hval 0 23 v0 rfl rfl) h0
  have k0 := h0
  have lt0 : ∀ x ∈ p0, x.block < W.heap.size := by obtain ⟨m, hm⟩ := k0; exact DataW.trod_lt m _ _ _ hm
  obtain ⟨y1, rfl, s1⟩ := sees_state Try.underlying23 (by kernel_rfl) ⟨rfl, rfl⟩ ⟨rfl, rfl⟩ ⟨rfl, rfl⟩ Try.underlying3 (by kernel_rfl) (hval 1 23 v1 rfl rfl) h1
  have k1 := h1
  have lt1 : ∀ x ∈ p1, x.block < W.heap.size := by obtain ⟨m, hm⟩ := k1; exact DataW.trod_lt m _ _ _ hm
  obtain ⟨A2, n2, c2, rfl⟩ := okWide_slice Try.underlying24 (hval 2 24 v2 rfl rfl)
  have k2 := h2
  have lt2 : ∀ x ∈ p2, x.block < W.heap.size := by obtain ⟨m, hm⟩ := k2; exact DataW.trod_lt m _ _ _ hm
  obtain ⟨z2, s2⟩ := sees_bytesn Try.underlying24 Try.underlying5 (by kernel_rfl) h2 (by kernel_rfl) (fun _ _ hd => sized_slice hsz (j := 2) (t := 24) (e := 5) rfl (congrArg some hd) Try.underlying24)
  clear hA0 hval0
  refine (walk_frameSeeds y0 y1 A2 n2 c2 z2 W s0 s1 s2).mono fun e W' ⟨he, bel⟩ => ?_
  subst he
  exact ⟨_, rfl, _, _, _, [], _, [], hW', trodAll_mk1 (shut_bool Try.underlying4 _), (trodAll_cons_mk (Below.trod laidOut_frameSeeds (by kernel_rfl) (of_decide_eq_true (by kernel_rfl)) k0 bel lt0) (trodAll_cons_mk (Below.trod laidOut_frameSeeds (by kernel_rfl) (of_decide_eq_true (by kernel_rfl)) k1 bel lt1) (trodAll_cons_mk (Below.trod laidOut_frameSeeds (by kernel_rfl) (of_decide_eq_true (by kernel_rfl)) k2 bel lt2) trodAll_mk0))), rfl, bel.frame _, fun h => by cases h⟩

theorem over_frameSeeds : Rows.frameSeedsRow.holds Try.pinned (OpenSpec.ofChange Rows.frameSeedsSpec) :=
  OpenClaim.holds_of_wide 6 Try.f6 rfl rfl rfl rfl rfl rfl rfl ⟨rfl, rfl, rfl, rfl, rfl⟩ rfl rfl rfl rfl rfl (by kernel_rfl) Try.func6 (by kernel_rfl)
    (of_decide_eq_true (by kernel_rfl)) (by unfold Func.isWrapper; first | (rw [if_pos (by decide +kernel)]; kernel_rfl) | (rw [if_neg (by decide +kernel)]; exact ⟨rfl, rfl⟩))
    (fun os started H enc _ => lifted_frameSeeds os started H enc)

theorem proved_frameSeeds : Rows.FrameSeedsSaid := over_frameSeeds
end Go.Proofs.Ythlanmomgpcbcaa
