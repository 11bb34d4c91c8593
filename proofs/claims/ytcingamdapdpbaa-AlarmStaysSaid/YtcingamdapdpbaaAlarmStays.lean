/- AlarmStays holds: what is so now can not be acknowledged away. For all messages and numbers. -/
import Derived.Test.YtcingamdapdpbaaAlL
import Derived.Test.YtcingamdapdpbaaOpen
import Derived.Test.YtcingamdapdpbaaAlO
import Derived.StillTailTactics
import Derived.Deep.RegionHeld3
namespace Go.Proofs.Ytcingamdapdpbaa
open Go.ChangeShapes Go.WideShapes Go.ChangeAt Go.RowKit

set_option maxRecDepth 100000 in
set_option maxHeartbeats 2000000 in
theorem walk_alarmStays (l : List Int) (A : Option Addr) (c : Nat) (a : Int) (g : Bool) (n : Int) (w : World) (s : SeesL w w.heap.size (.slice A l.length c) l ∧ bytesL l) (_h : -9223372036854775808 ≤ n ∧ n ≤ 9223372036854775807) :
    Calls Try.prog 5 #[.agg #[.slice A l.length c, .int .i64 a, .bool g], .int .i64 n] w fun e w' => e = .returned (.bool true) ∧ Below w.heap.size w w' := by
  obtain ⟨hv, hl⟩ := s
  have b0 := (Below.refl w.heap.size w).alloc (Nat.le_refl _) (.cells #[.slice A l.length c, .int .i64 a, .bool g] 26)
  by_cases call : l.length ≤ 8 ∧ 1 ≤ n ∧ n ≤ 10
  case neg =>
    clear hv hl
    go_enter Try.func5, Try.ntmps5
    go_wp2
    all_goals first
      | (exfalso; omega)
      | (go_ret; exact ⟨rfl, b0⟩)
      | skip
  obtain ⟨k1, k2, k3⟩ := call
  obtain ⟨N, rfl⟩ : ∃ t : Nat, n = t := ⟨n.toNat, by omega⟩
  have d1 : decide ((8 : Int) < ((l.length : Nat) : Int)) = false := decide_eq_false (by omega)
  have d2 : decide (((N : Nat) : Int) < 1) = false := decide_eq_false (by omega)
  have d3 : decide ((10 : Int) < ((N : Nat) : Int)) = false := decide_eq_false (by omega)
  have hmf : ∀ (fn : Fn) (first cap : Array Value) (w : World), (Instr.makeFunc fn first cap).run Try.prog w = .ok (.func fn first cap) w := fun _ _ _ _ => rfl
  have H1 := fun W k hk => Lib.hid (new1 ⟨3, 50, 60, 2⟩ (by decide) W 23 k hk)
  have hY := (Blk.new w w.heap.size rfl #[.slice A l.length c, .int .i64 a, .bool g] 26).alloc (.cells #[.int .i64 3, .int .i64 50, .int .i64 60, .int .i64 2] 23)
  have hX := Blk.new (w.alloc (.cells #[.slice A l.length c, .int .i64 a, .bool g] 26)) (w.heap.size + 1) (by simp) #[.int .i64 3, .int .i64 50, .int .i64 60, .int .i64 2] 23
  have b1 := b0.alloc b0.size (.cells #[.int .i64 3, .int .i64 50, .int .i64 60, .int .i64 2] 23)
  have hz2 : ((w.alloc (.cells #[.slice A l.length c, .int .i64 a, .bool g] 26)).alloc (.cells #[.int .i64 3, .int .i64 50, .int .i64 60, .int .i64 2] 23)).heap.size = w.heap.size + 2 := by simp
  have HV := Lib.hid hv
  clear hv
  go_enter Try.func5, Try.ntmps5
  go_wp2_with fail
  refine (H1 _ _ (by simp)).out.mono ?_
  rintro _ w1 ⟨ga, rfl, hga, hA, b2⟩
  rw [hz2] at hga b2
  replace hX := hX.below b2 (by omega)
  replace hY := hY.below b2 (by omega)
  replace b1 := b1.trans (b2.mono (by omega))
  replace hA := A1.start hA
  have hal := A1.lt hA
  have hlt0 : w.heap.size < w1.heap.size := hY.lt
  have y0 := hY.cell 0 (x := .slice A l.length c) rfl
  have y1 := hY.cell 1 (x := .int .i64 a) rfl
  have y2 := hY.cell 2 (x := .bool g) rfl
  clear H1 b0 b2 hz2
  have hP := pat_new [ga] w1 38
  have hk := Below.refl w1.heap.size w1 |>.alloc (Nat.le_refl _) (.cells (stc (fun _ => .slice none 0 0) (fun _ => 0) (fun _ => false)) 38)
  have hA := AAt.more hA hk (f := w1.heap.size) (Nat.le_refl _)
  replace hX := hX.below hk hX.lt
  replace hY := hY.below hk hY.lt
  replace b1 := b1.trans (hk.mono b1.size)
  have hW := fun W (hW : Below w.heap.size w W) => Lib.hid (why_rf ⟨3, 50, 60, 2⟩ _ l a g _ W (HV.out.below hW) hl)
  have hq : whyS ⟨3, 50, 60, 2⟩ ⟨upd MS.z0.d 3 l, upd MS.z0.a 3 a, upd MS.z0.g 3 g⟩ = whyM ⟨3, 50, 60, 2⟩ l a g := rfl
  have hy16 : whyM ⟨3, 50, 60, 2⟩ l a g < 16 := whyM_lt _ _ _ _
  have hz3 : ga < (w1.alloc (.cells (stc (fun _ => .slice none 0 0) (fun _ => 0) (fun _ => false)) 38)).heap.size := by simp; omega
  clear y0 y1 y2 hk
  go_wp2_with fail
  change Code.wp _ _ _ _ (w1.alloc (.cells (stc (fun _ => .slice none 0 0) (fun _ => 0) (fun _ => false)) 38))
  have HB := Lib.hid b1
  generalize (w1.alloc (.cells (stc (fun _ => .slice none 0 0) (fun _ => 0) (fun _ => false)) 38)) = wa at *
  generalize w1.heap.size = gs at *
  have y0 := hY.cell 0 (x := .slice A l.length c) rfl
  have y1 := hY.cell 1 (x := .int .i64 a) rfl
  have y2 := hY.cell 2 (x := .bool g) rfl
  obtain ⟨A3, c3, s0, -, -⟩ := hP.cs (i := 3) (by omega)
  have s1 := hP.ca (i := 3) (by omega)
  have s2 := hP.cg (i := 3) (by omega)
  have f0 := hP.frozen 9
  have f1 := hP.frozen 10
  have f2 := hP.frozen 11
  have hga2 : w.heap.size ≠ ga := by omega
  have hDl : Dat [gs, ga] wa (.slice A l.length c) l := by
    refine ⟨((HV.out.below b1).more b1.size), fun f hf hne e => ?_⟩
    obtain ⟨A', c', e2, -, -, h3, -⟩ := HV.out.at_
    cases e2
    obtain ⟨b, off, rfl, hb, -⟩ := h3 (List.length_pos_iff.2 hne)
    simp only [Value.ownBlock] at e
    cases e
    rcases List.mem_cons.1 hf with h | hf
    · omega
    · have := List.mem_singleton.1 hf
      omega
  have hP2 := (hP.below (Below.refl _ _).drew).say (i := 3) (by omega) (a := a) (b := g) (hDl.keep (kp_below (Below.refl _ _).drew)) hl
  have hA2 := (A1.below hA (Below.refl _ _).drew).only ((((Only.refl gs _).set 9 (.slice A l.length c)).set 10 (.int .i64 a)).set 11 (.bool g)) (by omega) (by simp)
  have oo := ((((Only.refl gs wa.drew).set 9 (.slice A l.length c)).set 10 (.int .i64 a)).set 11 (.bool g))
  have hX2 := hX.drew.only oo (by omega)
  have hY2 := hY.drew.only oo (by omega)
  have b2 := b1.drew.trans (oo.below (B := w.heap.size) (by omega) hP.lt)
  generalize hsd : (⟨upd MS.z0.d 3 l, upd MS.z0.a 3 a, upd MS.z0.g 3 g⟩ : MS) = sd at *
  rw [show 3 * 3 = 9 from rfl] at s0 s1 s2 hP2
  clear HV hl hP hA hX hY b1 hDl oo HB
  go_still_tail 5, (by kernel_rfl)
  change wpList _ _ _ _ _ wa.drew
  go_wp2_with fail
  have hga3 : w.heap.size ≤ ga := by omega
  have hgs2 : ga ≠ gs := by omega
  clear y0 y1 y2 s0 s1 s2 f0 f1 f2
  generalize whyM ⟨3, 50, 60, 2⟩ l a g = y at *
  go_loopw [9] (fun i wr => ∃ k : Nat, k ≤ N ∧ i = .int .i64 k ∧ A1 [gs, ga] wr ga ⟨3, 50, 60, 2⟩ (if k = 0 then 0 else y) (if k = 0 then 0 else y) ∧ PAt 38 [ga] wr gs sd ∧ Blk wr w.heap.size #[.slice A l.length c, .int .i64 a, .bool g] 26 ∧ Blk wr (w.heap.size + 1) #[.int .i64 3, .int .i64 50, .int .i64 60, .int .i64 2] 23 ∧ Below w.heap.size w wr) (fun i _ => N - (intOf i).toNat)
  case atStart => exact ⟨0, by omega, rfl, hA2, hP2, hY2, hX2, b2⟩
  case round =>
    clear hA2 hP2 hY2 hX2 b2
    obtain ⟨k, hk, rfl, hA, hP, hY, hX, b⟩ := hrel
    by_cases hlt : k < N
    · have r1 : decide ((k : Int) < (N : Int)) = true := decide_eq_true (by omega)
      go_wp2_with fail
      refine (look1 [gs, ga] [ga] _ ga gs _ _ _ sd _ hA (by simp) hP).mono ?_
      rintro _ w5 ⟨rfl, h', o⟩
      have e : (if k = 0 then 0 else y) ||| y = y := by split <;> simp
      rw [hq, e] at h'
      replace hP := hP.kq (o.kq (F := [ga]) (by simp)) (by simp; omega)
      replace hY := hY.only o (by omega)
      replace hX := hX.only o (by omega)
      replace b := b.trans (o.below (by omega) (A1.lt hA))
      clear o hA
      go_wp2_with fail
      refine (ack1 _ ga _ _ _ _ h' (by simp)).mono ?_
      rintro _ w6 ⟨rfl, h6, o⟩
      rw [andn_self hy16, if_pos rfl] at h6
      replace hP := hP.kq (o.kq (F := [ga]) (by simp)) (by simp; omega)
      replace hY := hY.only o (by omega)
      replace hX := hX.only o (by omega)
      replace b := b.trans (o.below (by omega) (A1.lt h'))
      clear o h'
      go_wp2
      go_roundw
      case rel => exact ⟨k + 1, by omega, by go_num, (by rw [if_neg (Nat.succ_ne_zero k)]; exact h6), hP, hY, hX, b⟩
      case measure => simp [intOf]; omega
    · obtain rfl : k = N := by omega
      have r1 : decide ((k : Int) < (k : Int)) = false := decide_eq_false (by omega)
      rw [if_neg (by omega)] at hA
      clear hlt hP hq
      have HS : ∀ W, Blk W (w.heap.size + 1) #[.int .i64 3, .int .i64 50, .int .i64 60, .int .i64 2] 23 → Blk W w.heap.size #[.slice A l.length c, .int .i64 a, .bool g] 26 → W.cell? ⟨w.heap.size + 1, 0, none⟩ = some (.int .i64 3) ∧ W.cell? ⟨w.heap.size + 1, 1, none⟩ = some (.int .i64 50) ∧ W.cell? ⟨w.heap.size + 1, 2, none⟩ = some (.int .i64 60) ∧ W.cell? ⟨w.heap.size + 1, 3, none⟩ = some (.int .i64 2) ∧ W.cell? ⟨w.heap.size, 0, none⟩ = some (.slice A l.length c) ∧ W.cell? ⟨w.heap.size, 1, none⟩ = some (.int .i64 a) ∧ W.cell? ⟨w.heap.size, 2, none⟩ = some (.bool g) := fun W hx hy => ⟨Blk.cell hx 0 rfl, Blk.cell hx 1 rfl, Blk.cell hx 2 rfl, Blk.cell hx 3 rfl, Blk.cell hy 0 rfl, Blk.cell hy 1 rfl, Blk.cell hy 2 rfl⟩
      go_wp2_with fail
      have S0 := HS _ hX.drew hY.drew
      have hyy : (((y : Nat) : Int) == ((y : Nat) : Int)) = true := by simp
      go_region_held3 (fun W => W.cell? ⟨w.heap.size + 1, 0, none⟩ = some (.int .i64 3) ∧ W.cell? ⟨w.heap.size + 1, 1, none⟩ = some (.int .i64 50) ∧ W.cell? ⟨w.heap.size + 1, 2, none⟩ = some (.int .i64 60) ∧ W.cell? ⟨w.heap.size + 1, 3, none⟩ = some (.int .i64 2) ∧ W.cell? ⟨w.heap.size, 0, none⟩ = some (.slice A l.length c) ∧ W.cell? ⟨w.heap.size, 1, none⟩ = some (.int .i64 a) ∧ W.cell? ⟨w.heap.size, 2, none⟩ = some (.bool g)) ((first | exact S0 | exact S1 | exact S2))
        (first
        | (go_at_call 11; refine (hW _ b.drew).out.mono ?_; rintro _ w4 ⟨rfl, b4⟩; (have hA4 := (A1.below hA (Below.refl _ _).drew).below b4); (have hX4 := hX.drew.below b4 hX.drew.lt); (have hY4 := hY.drew.below b4 hY.drew.lt); (have b5 := b.drew.trans (b4.mono b.drew.size)); (have S1 := HS w4 hX4 hY4))
        | (go_at_call 16; refine (rings1 _ ga _ _ _ _ (by first | exact hA4 | exact A1.below hA (Below.refl _ _).drew)).mono ?_; rintro _ _ ⟨rfl, rfl⟩)
        | (go_at_call 18; refine (now1 _ ga _ _ _ _ hA4).mono ?_; rintro _ _ ⟨rfl, rfl⟩)
        | (go_at_call 12; refine (known_al _).mono ?_; rintro _ w6 ⟨rfl, b6⟩; (have b7 := b5.trans (b6.mono b5.size)); (have S2 := HS w6 (hX4.below b6 hX4.lt) (hY4.below b6 hY4.lt)))
        | fail)
      all_goals
        go_wp2
        go_ret
        exact ⟨rfl, b7⟩

/-! ### THE ROW's STEP around the walk. -/
theorem own_alarmStays : ownKnob Try.prog.godebug = none := by kernel_rfl
theorem laidOut_alarmStays : laidOutB Try.prog = true := by kernel_rfl
set_option maxRecDepth 100000 in
theorem lifted_alarmStays (os : Os) (started : os.Started) (H : Type) (enc : TypeId × Value → H) :
    ReturnsInHanded {} Try.checked os 5 .any (Rows.alarmStaysSpec.pre6 enc Try.prog Try.f5 Rows.alarmStaysRow.domain false) (Rows.alarmStaysSpec.post enc Try.prog Try.f5 false true false false) := by
  refine returnsInHanded_of_change (C := Try.checked) own_alarmStays started (by kernel_rfl) Try.func5
    (ChangeSpec.witness6 (enc := enc) (C := Try.checked) false ⟨#[], #[.agg #[.slice none 0 0, .int .i64 0, .bool false], .int .i64 0], []⟩ 8 (by kernel_rfl) (by kernel_rfl) (by kernel_rfl) (by kernel_rfl)) ?_
  intro W base args ds gs before hval0 hW hcnd _
  have hval : ∀ (j : Nat) t v, Try.f5.params[j]? = some t → args[j]? = some v → Value.okWide Try.prog W .any base t v := hval0
  have hW' := hW
  obtain ⟨p, q, hA0, hV, rfl, hfz, hnd⟩ := hW
  have hA : DataW.TrodAll enc Try.prog W 0 (fun _ => true) true Try.f5.params.toList args.toList ds p := hA0
  rw [Try.params5] at hA hval
  obtain ⟨v0, vs0, d0, ds0, p0, q0, hargs, rfl, rfl, h0, r0⟩ := trodAll_cons hA
  obtain ⟨v1, vs1, d1, ds1, p1, q1, rfl, rfl, rfl, h1, r1⟩ := trodAll_cons r0
  obtain ⟨rfl, rfl, rfl⟩ := trodAll_nil r1
  obtain rfl : args = #[v0, v1] := by cases args; simp_all
  obtain ⟨rfl, rfl⟩ := trodVars_none hV
  obtain ⟨l0, A0, c0, a0, g0, rfl, s0⟩ := sees_msg Try.underlying26 (by kernel_rfl) ⟨rfl, rfl⟩ ⟨rfl, rfl⟩ ⟨rfl, rfl⟩ Try.underlying3 Try.underlying4 Try.underlying24 Try.underlying5 (by kernel_rfl) (by kernel_rfl) (by kernel_rfl) (by kernel_rfl) (hval 0 26 v0 rfl rfl) h0
  have k0 := h0
  have lt0 : ∀ x ∈ p0, x.block < W.heap.size := by obtain ⟨m, hm⟩ := k0; exact DataW.trod_lt m _ _ _ hm
  obtain ⟨a1, rfl, rfl, rfl, w1⟩ := open_int Try.underlying3 (hval 1 3 v1 rfl rfl) h1
  clear hA0 hval0
  refine (walk_alarmStays l0 A0 c0 a0 g0 a1 W s0 (bounds_i64 w1)).mono fun e W' ⟨he, bel⟩ => ?_
  subst he
  exact ⟨_, rfl, _, _, _, [], _, [], hW', trodAll_mk1 (shut_bool Try.underlying4 _), (trodAll_cons_mk (Below.trod laidOut_alarmStays (by kernel_rfl) (of_decide_eq_true (by kernel_rfl)) k0 bel lt0) (trodAll_cons_mk (shut_int Try.underlying3 w1) trodAll_mk0)), rfl, bel.frame _, fun h => by cases h⟩

theorem over_alarmStays : Rows.alarmStaysRow.holds Try.pinned (OpenSpec.ofChange Rows.alarmStaysSpec) :=
  OpenClaim.holds_of_wide 5 Try.f5 rfl rfl rfl rfl rfl rfl rfl ⟨rfl, rfl, rfl, rfl, rfl⟩ rfl rfl rfl rfl rfl (by kernel_rfl) Try.func5 (by kernel_rfl)
    (of_decide_eq_true (by kernel_rfl)) (by unfold Func.isWrapper; first | (rw [if_pos (by decide +kernel)]; kernel_rfl) | (rw [if_neg (by decide +kernel)]; exact ⟨rfl, rfl⟩))
    (fun os started H enc _ => lifted_alarmStays os started H enc)

theorem proved_alarmStays : Rows.AlarmStaysSaid := over_alarmStays
end Go.Proofs.Ytcingamdapdpbaa
