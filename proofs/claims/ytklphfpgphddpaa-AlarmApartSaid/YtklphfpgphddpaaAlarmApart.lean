/- AlarmApart holds: alarms ring each for itself. For all numbers. -/
import Derived.Test.YtklphfpgphddpaaAlL
import Derived.Test.YtklphfpgphddpaaOpen
namespace Go.Proofs.Ytklphfpgphddpaa
open Go.ChangeShapes Go.WideShapes Go.ChangeAt Go.RowKit

/-- The rules, and what is said. -/
def rlA (k : Nat) : List R4 := (List.range k).map fun i : Nat => (⟨(i : Int), 0, 100, 9⟩ : R4)
theorem rlA_length (k : Nat) : (rlA k).length = k := by simp [rlA]
theorem rlA_succ (k : Nat) : rlA (k + 1) = rlA k ++ [⟨k, 0, 100, 9⟩] := by simp [rlA, List.range_succ]
theorem rlA_getD (k i : Nat) (h : i < k) : (rlA k).getD i default = ⟨i, 0, 100, 9⟩ := by simp [rlA, List.getD_eq_getElem?_getD, h]
def sdA (m k : Nat) : MS := ⟨fun i => if i < k then [50] else [], fun _ => 0, fun i => if i < k then !decide (i = m) else false⟩
theorem sdA_succ (m k : Nat) : (⟨upd (sdA m k).d k [50], upd (sdA m k).a k 0, upd (sdA m k).g k (!decide (k = m))⟩ : MS) = sdA m (k + 1) := by
  unfold sdA
  congr 1
  · funext i
    simp only [upd]
    rcases lt_or_eq_or i k with h | h | h
    · rw [if_neg (by omega), if_pos h, if_pos (by omega)]
    · subst h; rw [if_pos rfl, if_pos (by omega)]
    · rw [if_neg (by omega), if_neg (by omega), if_neg (by omega)]
  · funext i
    simp only [upd]
    split <;> rfl
  · funext i
    simp only [upd]
    rcases lt_or_eq_or i k with h | h | h
    · rw [if_neg (by omega), if_pos h, if_pos (by omega)]
    · subst h; rw [if_pos rfl, if_pos (by omega)]
    · rw [if_neg (by omega), if_neg (by omega), if_neg (by omega)]
theorem now_sdA (m n i : Nat) (h8 : n ≤ 8) (hi : i < n) : nowM (rlA n) (sdA m n) i = if i = m then 8 else 0 := by
  unfold nowM
  rw [if_pos (by rw [rlA_length]; exact hi), rlA_getD n i hi]
  have hN : isN (i : Int) := ⟨by omega, by omega⟩
  simp only [MS.gd, MS.ga, MS.gg, hN, if_true, Int.toNat_natCast, sdA, hi]
  unfold whyM
  by_cases h : i = m <;> simp [h]
set_option maxRecDepth 100000 in
set_option maxHeartbeats 2000000 in
theorem walk_alarmApart (n m t : Int) (w : World) (_h1 : -9223372036854775808 ≤ n ∧ n ≤ 9223372036854775807) (_h2 : -9223372036854775808 ≤ m ∧ m ≤ 9223372036854775807) (_h3 : -9223372036854775808 ≤ t ∧ t ≤ 9223372036854775807) :
    Calls Try.prog 9 #[.int .i64 n, .int .i64 m, .int .i64 t] w fun e w' => e = .returned (.bool true) ∧ Below w.heap.size w w' := by
  by_cases call : 1 ≤ n ∧ n ≤ 8 ∧ 0 ≤ m ∧ m < n ∧ 1 ≤ t ∧ t ≤ 5
  case neg =>
    go_enter Try.func9, Try.ntmps9
    go_wp2
    all_goals first
      | (exfalso; omega)
      | (go_ret; exact ⟨rfl, Below.refl _ _⟩)
      | skip
  obtain ⟨k1, k2, k3, k4, k5, k6⟩ := call
  obtain ⟨N, rfl⟩ : ∃ x : Nat, n = x := ⟨n.toNat, by omega⟩
  obtain ⟨M, rfl⟩ : ∃ x : Nat, m = x := ⟨m.toNat, by omega⟩
  obtain ⟨T, rfl⟩ : ∃ x : Nat, t = x := ⟨t.toNat, by omega⟩
  have d1 : decide (((N : Nat) : Int) < 1) = false := decide_eq_false (by omega)
  have d2 : decide ((8 : Int) < ((N : Nat) : Int)) = false := decide_eq_false (by omega)
  have d3 : decide (((M : Nat) : Int) < 0) = false := decide_eq_false (by omega)
  have d4 : decide (N ≤ M) = false := decide_eq_false (by omega)
  have d5 : decide (((T : Nat) : Int) < 1) = false := decide_eq_false (by omega)
  have d6 : decide ((5 : Int) < ((T : Nat) : Int)) = false := decide_eq_false (by omega)
  have hmf : ∀ (fn : Fn) (first cap : Array Value) (w : World), (Instr.makeFunc fn first cap).run Try.prog w = .ok (.func fn first cap) w := fun _ _ _ _ => rfl
  have hP := pat_new [] w 38
  have b0 := Below.refl w.heap.size w |>.alloc (Nat.le_refl _) (.cells (stc (fun _ => .slice none 0 0) (fun _ => 0) (fun _ => false)) 38)
  go_enter Try.func9, Try.ntmps9
  go_wp2_with fail
  go_loopw [7, 9] (fun u i wr => ∃ (k : Nat) (v : Value), k ≤ N ∧ u = v ∧ i = .int .i64 k ∧ OwnsRl wr (w.heap.size + 1) v (rlA k) ∧ PAt 38 v.ownBlock.toList wr w.heap.size (sdA M k) ∧ Below w.heap.size w wr) (fun _ i _ => N - (intOf i).toNat)
  case atStart => exact ⟨0, _, by omega, rfl, rfl, OwnsRl.nil, hP, b0⟩
  case round =>
    clear hP b0
    obtain ⟨k, v, hk, hv, rfl, ho, hP, b⟩ := hrel
    replace hv := hv.symm
    subst hv
    by_cases hlt : k < N
    · have r1 : decide ((k : Int) < (N : Int)) = true := decide_eq_true (by omega)
      have hgl := hP.lt
      have hvs := World.ownsRow.lt ho
      obtain ⟨rr, hrr⟩ : ∃ r : R4, r = ⟨k, 0, 100, 9⟩ := ⟨_, rfl⟩
      have hk1 := (Below.refl wr.heap.size wr).alloc (Nat.le_refl _) (.cells #[.int .i64 (k : Nat), .int .i64 0, .int .i64 100, .int .i64 9] 23)
      have hlen := rlA_length k
      have hR := rules_room (n := (rlA k).length) (m := 1) (by omega)
      go_wp2_with (at_builtin; go_loud (refine wpList_pushC _ rfl (.tmp 44) (.tmp 47) 34 rfl (w.heap.size + 1) 23 _ 4 32 info_rule rfl (by omega) Try.underlying34 _ (rlA k).length _ (OwnsRl.alloc ho _) rfl _ _ _ rfl (SeesRs.src (sees_rule1 _ ⟨k, 0, 100, 9⟩ _ _ rfl _ (Nat.lt_succ_self _))) (by simp; omega) hR.1 hR.2 ?_))
      intro v2 w2 ho2 he
      have ho3 : OwnsRl w2 (w.heap.size + 1) v2 (rlA (k + 1)) := by
        rw [rlA_succ]
        exact OwnsRl.joined (by rw [hlen]; simpa using ho2)
      have hxx := ((Ext.refl wr v).alloc (.cells #[.int .i64 (k : Nat), .int .i64 0, .int .i64 100, .int .i64 9] 23)).trans he
      have hgv : v.ownBlock ≠ some w.heap.size := fun e => by have := (hvs _ e).1; omega
      have hP2 := hP.ext hxx hgv
      have b2 := b.trans (hxx.toBelow (B := w.heap.size) (by omega) (fun j hj => by have := (hvs j hj).1; omega))
      have hvs2 := World.ownsRow.lt ho3
      obtain ⟨hP3, o3⟩ := say_at (u := 5) hP2 k (by omega) 50 (by omega) (!decide (k = M)) (fun f hf => (hvs2 f (by simpa using hf)).2)
      rw [sdA_succ] at hP3
      have b3 := b2.trans (o3.below (B := w.heap.size) (Nat.le_refl _) hP2.lt)
      have ho4 : OwnsRl _ (w.heap.size + 1) v2 (rlA (k + 1)) := World.ownsRow.kept (row := some w.heap.size) ho3 o3 (.inr (fun e => by
        have := (hvs2 w.heap.size e).1
        omega))
      obtain ⟨A0, c0, s0, -, -⟩ := hP2.cs (i := k) (by omega)
      have s1 := hP2.ca (i := k) (by omega)
      have s2 := hP2.cg (i := k) (by omega)
      have f0 := hP2.frozen (k * 3)
      have f1 := hP2.frozen (k * 3 + 1)
      have f2 := hP2.frozen (k * 3 + 2)
      have hgl2 := hP2.lt
      have hkm : (((k : Nat) : Int) != ((M : Nat) : Int)) = !decide (k = M) := by
        by_cases h : k = M
        · subst h; simp
        · have : ((k : Nat) : Int) ≠ (M : Nat) := by omega
          simp [h, this]
      have hk8 : k < 8 := by omega
      clear ho2 hxx he hP ho hP2 b2 b o3
      go_wp2
      go_roundw
      case rel => exact ⟨k + 1, v2, by omega, rfl, by go_num, ho4, hP3, b3⟩
      case measure => simp [intOf]; omega
    · obtain rfl : k = N := by omega
      have r1 : decide ((k : Int) < (k : Int)) = false := decide_eq_false (by omega)
      clear hlt hk
      have hlen := rlA_length k
      have hs := ho.sees
      have hgl := hP.lt
      have hN := new_al (rlA k) v wr.heap.size wr hs (Nat.le_refl _) (by omega) (fun i hi => by
        rw [rlA_getD k i (by omega)]
        unfold R4.may
        dsimp only
        omega)
      have HN := Lib.hid hN
      clear hN hs ho
      go_wp2_with fail
      refine HN.out.mono ?_
      rintro _ w1 ⟨ga, rfl, hga, hA, b1⟩
      replace hA := hA [w.heap.size, ga] (fun f hf => by
        rcases List.mem_cons.1 hf with rfl | hf
        · exact .inl hgl
        · exact .inr (List.mem_singleton.1 hf))
      replace hP := (hP.sub (F' := []) (fun f hf => by simp at hf)).more b1 hga
      replace b := b.trans (b1.mono b.size)
      have hgs2 : w.heap.size ≠ ga := by omega
      have hal := hA.lt
      clear b1 HN
      have hnow := now_sdA M k
      go_wp2_with fail
      generalize hl : rlA k = l at *
      generalize sdA M k = sd at *
      go_loopw [12] (fun i wr => ∃ j : Nat, j ≤ T ∧ i = .int .i64 j ∧ AAt [w.heap.size, ga] wr ga l (fun i => if j = 0 then 0 else nowM l sd i) (fun i => if j = 0 then 0 else nowM l sd i) ∧ PAt 38 [ga] wr w.heap.size sd ∧ Below w.heap.size w wr) (fun i _ => T - (intOf i).toNat)
      case atStart => exact ⟨0, by omega, rfl, hA, hP, b⟩
      case round =>
        clear hA hP b hal
        obtain ⟨j, hj, rfl, hA, hP, b⟩ := hrel
        by_cases hlt : j < T
        · have r1 : decide ((j : Int) < (T : Int)) = true := decide_eq_true (by omega)
          go_wp2_with fail
          refine (look_al _ [ga] _ ga w.heap.size l _ _ sd _ hA (by simp) hP).mono ?_
          rintro _ w5 ⟨rfl, h', o⟩
          replace hP := hP.kq (o.kq (F := [ga]) (by simp)) (by simp; omega)
          replace b := b.trans (o.below (by omega) hA.lt)
          have h' := h'.alike (n' := fun i => if j + 1 = 0 then 0 else nowM l sd i) (r' := fun i => if j + 1 = 0 then 0 else nowM l sd i) (fun i _ => by simp) (fun i _ => by
            simp only [Nat.succ_ne_zero, if_false]
            split <;> simp)
          go_wp2
          go_roundw
          case rel => exact ⟨j + 1, by omega, by go_num, h', hP, b⟩
          case measure => simp [intOf]; omega
        · obtain rfl : j = T := by omega
          have r1 : decide ((j : Int) < (j : Int)) = false := decide_eq_false (by omega)
          have hA := hA.alike (n' := nowM l sd) (r' := nowM l sd) (fun i _ => by rw [if_neg (by omega)]) (fun i _ => by rw [if_neg (by omega)])
          clear hlt hP
          go_wp2_with fail
          go_loopw [13] (fun i wr => ∃ j : Nat, j ≤ k ∧ i = .int .i64 j ∧ AAt [w.heap.size, ga] wr ga l (nowM l sd) (nowM l sd) ∧ Below w.heap.size w wr) (fun i _ => k - (intOf i).toNat)
          case atStart => exact ⟨0, by omega, rfl, hA, b⟩
          case round =>
            clear hA b
            obtain ⟨i, hi, rfl, hA, b⟩ := hrel
            by_cases hlt : i < k
            · have r3 : decide ((i : Int) < (k : Int)) = true := decide_eq_true (by omega)
              have hR := fun W (h : AAt [w.heap.size, ga] W ga l (nowM l sd) (nowM l sd)) => Lib.hid (rings_al _ ga l _ _ (i : Int) W h)
              rw [if_pos (show isR l i from ⟨by omega, by omega⟩), Int.toNat_natCast, hnow i (by omega) hlt] at hR
              by_cases him : i = M
              · subst him
                rw [if_pos rfl] at hR
                go_wp2_with fail
                refine (hR _ hA).out.mono ?_
                rintro _ _ ⟨rfl, rfl⟩
                go_wp2_with fail
                refine (hR _ hA).out.mono ?_
                rintro _ _ ⟨rfl, rfl⟩
                go_wp2
                go_roundw
                case rel => exact ⟨i + 1, by omega, by go_num, hA, b⟩
                case measure => simp [intOf]; omega
              · rw [if_neg him] at hR
                have e1 : (((i : Nat) : Int) == ((M : Nat) : Int)) = false := by rw [beq_eq_false_iff_ne]; omega
                have e2 : (((i : Nat) : Int) != ((M : Nat) : Int)) = true := by rw [bne_iff_ne]; omega
                go_wp2_with fail
                refine (hR _ hA).out.mono ?_
                rintro _ _ ⟨rfl, rfl⟩
                go_wp2_with fail
                refine (hR _ hA).out.mono ?_
                rintro _ _ ⟨rfl, rfl⟩
                go_wp2
                go_roundw
                case rel => exact ⟨i + 1, by omega, by go_num, hA, b⟩
                case measure => simp [intOf]; omega
            · obtain rfl : i = k := by omega
              have r3 : decide ((i : Int) < (i : Int)) = false := decide_eq_false (by omega)
              go_wp2_with fail
              refine (known_al _).mono ?_
              rintro _ wk ⟨rfl, bk⟩
              replace bk := b.trans (bk.mono b.size)
              go_wp2
              go_ret
              exact ⟨rfl, bk⟩

/-! ### THE ROW's STEP around the walk. -/
theorem own_alarmApart : ownKnob Try.prog.godebug = none := by kernel_rfl
theorem laidOut_alarmApart : laidOutB Try.prog = true := by kernel_rfl
set_option maxRecDepth 100000 in
theorem lifted_alarmApart (os : Os) (started : os.Started) (H : Type) (enc : TypeId × Value → H) :
    ReturnsInHanded {} Try.checked os 9 .any (Rows.alarmApartSpec.pre6 enc Try.prog Try.f9 Rows.alarmApartRow.domain false) (Rows.alarmApartSpec.post enc Try.prog Try.f9 false true false false) := by
  refine returnsInHanded_of_change (C := Try.checked) own_alarmApart started (by kernel_rfl) Try.func9
    (ChangeSpec.witness6 (enc := enc) (C := Try.checked) false ⟨#[], #[.int .i64 0, .int .i64 0, .int .i64 0], []⟩ 8 (by kernel_rfl) (by kernel_rfl) (by kernel_rfl) (by kernel_rfl)) ?_
  intro W base args ds gs before hval0 hW hcnd _
  have hval : ∀ (j : Nat) t v, Try.f9.params[j]? = some t → args[j]? = some v → Value.okWide Try.prog W .any base t v := hval0
  have hW' := hW
  obtain ⟨p, q, hA0, hV, rfl, hfz, hnd⟩ := hW
  have hA : DataW.TrodAll enc Try.prog W 0 (fun _ => true) true Try.f9.params.toList args.toList ds p := hA0
  rw [Try.params9] at hA hval
  obtain ⟨v0, vs0, d0, ds0, p0, q0, hargs, rfl, rfl, h0, r0⟩ := trodAll_cons hA
  obtain ⟨v1, vs1, d1, ds1, p1, q1, rfl, rfl, rfl, h1, r1⟩ := trodAll_cons r0
  obtain ⟨v2, vs2, d2, ds2, p2, q2, rfl, rfl, rfl, h2, r2⟩ := trodAll_cons r1
  obtain ⟨rfl, rfl, rfl⟩ := trodAll_nil r2
  obtain rfl : args = #[v0, v1, v2] := by cases args; simp_all
  obtain ⟨rfl, rfl⟩ := trodVars_none hV
  obtain ⟨a0, rfl, rfl, rfl, w0⟩ := open_int Try.underlying3 (hval 0 3 v0 rfl rfl) h0
  obtain ⟨a1, rfl, rfl, rfl, w1⟩ := open_int Try.underlying3 (hval 1 3 v1 rfl rfl) h1
  obtain ⟨a2, rfl, rfl, rfl, w2⟩ := open_int Try.underlying3 (hval 2 3 v2 rfl rfl) h2
  clear hA0 hval0
  refine (walk_alarmApart a0 a1 a2 W (bounds_i64 w0) (bounds_i64 w1) (bounds_i64 w2)).mono fun e W' ⟨he, bel⟩ => ?_
  subst he
  exact ⟨_, rfl, _, _, _, [], _, [], hW', trodAll_mk1 (shut_bool Try.underlying4 _), (trodAll_cons_mk (shut_int Try.underlying3 w0) (trodAll_cons_mk (shut_int Try.underlying3 w1) (trodAll_cons_mk (shut_int Try.underlying3 w2) trodAll_mk0))), rfl, bel.frame _, fun h => by cases h⟩

theorem over_alarmApart : Rows.alarmApartRow.holds Try.pinned (OpenSpec.ofChange Rows.alarmApartSpec) :=
  OpenClaim.holds_of_wide 9 Try.f9 rfl rfl rfl rfl rfl rfl rfl ⟨rfl, rfl, rfl, rfl, rfl⟩ rfl rfl rfl rfl rfl (by kernel_rfl) Try.func9 (by kernel_rfl)
    (of_decide_eq_true (by kernel_rfl)) (by unfold Func.isWrapper; first | (rw [if_pos (by decide +kernel)]; kernel_rfl) | (rw [if_neg (by decide +kernel)]; exact ⟨rfl, rfl⟩))
    (fun os started H enc _ => lifted_alarmApart os started H enc)

theorem proved_alarmApart : Rows.AlarmApartSaid := over_alarmApart
end Go.Proofs.Ytklphfpgphddpaa
