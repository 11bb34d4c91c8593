/- GuardGoes holds: the slots that a guardian knows go round, by frames or by silence, as long as that is not too long. For all numbers of nodes and lists. -/
import Derived.Test.YthigojakapgllaaGdS
import Derived.Test.YthigojakapgllaaGdO
namespace Go.Proofs.Ythigojakapgllaa
open Go.ChangeShapes Go.WideShapes Go.ChangeAt Go.RowKit

/-- Behind a Cold frame of slot 0, and i slots, the last q of them silent. -/
def goG (N i q j : Nat) : G := { newG (someT N 1) with kn := true, slot := (1 + i) % N, now := 0, si := q, l := List.replicate j 0 }
theorem goG_start (N : Nat) : (newG (someT N 1)).told 0 0 = goG N 0 0 0 := by
  unfold goG G.told
  rw [newG_n]
  show G.mk _ _ _ _ _ _ _ _ _ = G.mk _ _ _ _ _ _ _ _ _
  congr 1
  exact (newG_n N 1).symm
theorem term_zero (j : Nat) (hj : j ≤ 4) : termV 13 (List.replicate j 0) = 0 := by
  rcases (by omega : j = 0 ∨ j = 1 ∨ j = 2 ∨ j = 3 ∨ j = 4) with rfl | rfl | rfl | rfl | rfl <;> decide +kernel
theorem keep_zero (j : Nat) (hj : j ≤ 4) : ∃ j', j' ≤ 4 ∧ keep4 (List.replicate j 0) (0 - 0) = List.replicate j' 0 := by
  rcases (by omega : j = 0 ∨ j = 1 ∨ j = 2 ∨ j = 3 ∨ j = 4) with rfl | rfl | rfl | rfl | rfl
  · exact ⟨1, by omega, by decide +kernel⟩
  · exact ⟨2, by omega, by decide +kernel⟩
  · exact ⟨3, by omega, by decide +kernel⟩
  · exact ⟨4, by omega, by decide +kernel⟩
  · exact ⟨4, by omega, by decide +kernel⟩
theorem goG_on (N i q j : Nat) (h4 : 4 ≤ N) (h8 : N ≤ 8) (hj : j ≤ 4) : ∃ j', j' ≤ 4 ∧ (goG N i q j).on = goG N (i + 1) q j' := by
  obtain ⟨m1, m2⟩ := mod_next N (1 + i) h4 h8
  unfold goG G.on
  simp only
  rw [newG_n, show (newG (someT N 1)).lm = 13 from rfl, term_zero j hj]
  by_cases h3 : (1 + i) % N + 1 = N
  · exact ⟨0, by omega, by rw [if_pos h3, show 1 + (i + 1) = 1 + i + 1 by omega, m1 h3]; rfl⟩
  · exact ⟨j, hj, by rw [if_neg h3, show 1 + (i + 1) = 1 + i + 1 by omega, m2 h3]⟩
theorem goG_heard (N i q j : Nat) (h4 : 4 ≤ N) (h8 : N ≤ 8) (hj : j ≤ 4) (l : List Int) (hl : 0 < l.length) : ∃ j', j' ≤ 4 ∧ (goG N i q j).ended l 0 = goG N (i + 1) 0 j' := by
  have e : (goG N i q j).ended l 0 = (goG N i q j).heard 0 := by
    unfold G.ended
    rw [if_pos (show (goG N i q j).kn = true from rfl), if_pos hl]
  rw [e]
  unfold G.heard
  obtain ⟨j2, h2, e2⟩ := keep_zero j hj
  by_cases hs : (goG N i q j).sy (goG N i q j).slot = true
  · rw [if_pos hs]
    have : ({ goG N i q j with si := 0, l := keep4 (goG N i q j).l (0 - (goG N i q j).now) } : G) = goG N i 0 j2 := by
      show ({ goG N i q j with si := 0, l := keep4 (List.replicate j 0) (0 - 0) } : G) = _
      rw [e2]
      rfl
    rw [this]
    exact goG_on N i 0 j2 h4 h8 h2
  · rw [if_neg hs]
    exact goG_on N i 0 j h4 h8 hj
theorem goG_quiet (N i q j : Nat) (h4 : 4 ≤ N) (h8 : N ≤ 8) (hj : j ≤ 4) (hq : q + 1 < 2 * N) : ∃ j', j' ≤ 4 ∧ (goG N i q j).ended [] 0 = goG N (i + 1) (q + 1) j' := by
  have e : (goG N i q j).ended [] 0 = (goG N i q j).missed := by
    unfold G.ended
    rw [if_pos (show (goG N i q j).kn = true from rfl), if_neg (by simp)]
  rw [e]
  unfold G.missed
  have hne : ¬ ((goG N i q j).si + 1 = 2 * (goG N i q j).n) := by
    show ¬ q + 1 = 2 * (newG (someT N 1)).n
    rw [newG_n]
    omega
  rw [if_neg hne]
  exact goG_on N i (q + 1) j h4 h8 hj
theorem goG_ok (N i q j : Nat) (h4 : 4 ≤ N) (h8 : N ≤ 8) (hq : q < 2 * N) : (goG N i q j).Ok 0 := by
  have hm := Nat.mod_lt (1 + i) (show 0 < N by omega)
  refine ⟨by show (newG (someT N 1)).n ≤ 8; rw [newG_n]; omega, by show (1 + i) % N < (newG (someT N 1)).n; rw [newG_n]; exact hm, (fun x hx => by have := List.eq_of_mem_replicate hx; omega), ?_, ?_, ?_, ?_⟩
  · show (0 : Int) ≤ 4 * 1 + 9 ∧ (4 * 1 + 9 : Int) ≤ _; omega
  · show _ ≤ (0 : Int) ∧ (0 : Int) ≤ _; omega
  · show _ ≤ (0 : Int) - 0 ∧ (0 : Int) - 0 ≤ _; omega
  · show q ≤ 1000; omega
theorem end_heard (N i q j : Nat) (h4 : 4 ≤ N) (h8 : N ≤ 8) (hj : j ≤ 4) (hq : q < 2 * N) (l : List Int) (hl : 0 < l.length) (hb : bytesL l) (g : Nat) (v : Value) (W : World) (h : GAt W g (goG N i q j)) (hv : SeesL W W.heap.size v l) :
    Calls Try.prog 14 #[.pointer (some ⟨g, 0, none⟩), v, .int .i64 0] W fun e w' => e = .returned (.tuple #[]) ∧ (∃ j', j' ≤ 4 ∧ GAt w' g (goG N (i + 1) 0 j')) ∧ Only g W w' :=
  (end_gd g _ v l 0 W h (goG_ok N i q j h4 h8 hq) hv hb).mono fun e w' ⟨h1, h2, h3⟩ => by
    obtain ⟨j', hj', e'⟩ := goG_heard N i q j h4 h8 hj l hl
    exact ⟨h1, ⟨j', hj', e' ▸ h2⟩, h3⟩
theorem end_quiet (N i q j : Nat) (h4 : 4 ≤ N) (h8 : N ≤ 8) (hj : j ≤ 4) (hq : q + 1 < 2 * N) (g : Nat) (W : World) (h : GAt W g (goG N i q j)) :
    Calls Try.prog 14 #[.pointer (some ⟨g, 0, none⟩), .slice none 0 0, .int .i64 0] W fun e w' => e = .returned (.tuple #[]) ∧ (∃ j', j' ≤ 4 ∧ GAt w' g (goG N (i + 1) (q + 1) j')) ∧ Only g W w' :=
  (end_gd g _ (.slice none 0 0) [] 0 W h (goG_ok N i q j h4 h8 (by omega)) SeesL.nil (fun x hx => by cases hx)).mono fun e w' ⟨h1, h2, h3⟩ => by
    obtain ⟨j', hj', e'⟩ := goG_quiet N i q j h4 h8 hj hq
    exact ⟨h1, ⟨j', hj', e' ▸ h2⟩, h3⟩
set_option maxRecDepth 100000 in
set_option maxHeartbeats 8000000 in
theorem walk_guardGoes (n : Int) (A : Option Addr) (m c : Nat) (f : Nat → Bool) (w : World) (_h1 : -9223372036854775808 ≤ n ∧ n ≤ 9223372036854775807) (h : InBools w (.slice A m c) m f) :
    Calls Try.prog 8 #[.int .i64 n, .slice A m c] w fun e w' => e = .returned (.bool true) ∧ Below w.heap.size w w' := by
  obtain ⟨A', c', hv, hm1, hm2, hat⟩ := h.at_
  simp only [Value.slice.injEq] at hv
  obtain ⟨rfl, -, rfl⟩ := hv
  clear h
  by_cases hok : (4 ≤ n ∧ n ≤ 8) ∧ m ≤ 60
  case neg =>
    clear hat
    go_enter Try.func8, Try.ntmps8
    go_wp2_with fail
    all_goals first
      | (exfalso; omega)
      | (go_ret; exact ⟨rfl, Below.refl _ _⟩)
      | skip
  obtain ⟨⟨g4, g8⟩, p0⟩ := hok
  obtain ⟨N, rfl⟩ := Int.eq_ofNat_of_zero_le (show 0 ≤ n by omega)
  have q1 : decide ((N : Int) < 4) = false := decide_eq_false (by omega)
  have q2 : decide ((8 : Int) < (N : Int)) = false := decide_eq_false (by omega)
  have q3 : decide ((60 : Int) < (m : Int)) = false := decide_eq_false (by omega)
  have hKn := fun W => Lib.hid (known_gd W)
  have hS := fun W => Lib.hid (some_gd N 1 (by omega) (by omega) W)
  unfold someT tabV at hS
  simp only at hS
  have hN := fun v W B (h : OwnsD W B v (someL N)) => Lib.hid (show Calls Try.prog 11 #[.agg #[v, .int .i64 1, .int .i64 10, .int .i64 13]] W fun e w' => ∃ g, e = .returned (.tuple #[.pointer (some ⟨g, 0, none⟩), .int .i64 0]) ∧ W.heap.size ≤ g ∧ GAt w' g (newG (someT N 1)) ∧ Below W.heap.size W w' from new_some N 1 (by omega) (by omega) (by omega) v W h)
  have hE := fun W => Lib.hid (enc_law (k := 3) (s := 0) (by omega) (by omega) W)
  have hEnd := fun g v W h hv => Lib.hid (end_cold N (by omega) (by omega) 0 (by omega) g v W h hv)
  rw [goG_start N] at hEnd
  have hH := fun i q j h1 h2 g v W h hv => Lib.hid (end_heard N i q j (by omega) (by omega) h1 h2 [1, 2, 3] (by simp) (by intro x hx; simp at hx; omega) g v W h hv)
  have hQ := fun i q j h1 h2 g W h => Lib.hid (end_quiet N i q j (by omega) (by omega) h1 h2 g W h)
  have hK := fun i q j g W (h : GAt W g (goG N i q j)) => Lib.hid (show Calls Try.prog 15 #[.pointer (some ⟨g, 0, none⟩)] W fun e w' => e = .returned (.tuple #[.int .i64 (((1 + i) % N : Nat) : Int), .bool true]) ∧ Below W.heap.size W w' from knows_gd g _ W h)
  generalize newG (someT N 1) = s0 at *
  generalize someL N = ls at *
  generalize (lawF 3 0).bytes = bs at *
  have z1 : IntKind.i64.wrap (2 * (N : Int)) = 2 * (N : Int) := IntWalk.i64_in _ (by omega)
  have z4 : ¬ (N : Int) = 0 := by omega
  have hZ : Hid (∀ k : Nat, k ≤ 60 → IntKind.i64.wrap (1 + (k : Int)) = 1 + (k : Int) ∧ Int.tmod (1 + (k : Int)) (N : Int) = (((1 + k) % N : Nat) : Int)) := Lib.hid fun k hk => ⟨IntWalk.i64_in _ (by omega), by
    rw [Int.tmod_eq_emod_of_nonneg (by omega)]
    simp⟩
  go_enter Try.func8, Try.ntmps8
  go_wp2_with fail
  refine (hS _).out.mono ?_
  rintro e w1 ⟨v1, rfl, ho1, hb1⟩
  go_wp2_with fail
  refine (hN v1 w1 _ ho1).out.mono ?_
  rintro e w2 ⟨g, rfl, hg, hG, hb⟩
  have hb2 := hb1.trans (hb.mono hb1.size)
  have hg2 := Nat.le_trans hb1.size hg
  clear hb hb1 ho1
  go_wp2_with fail
  refine (hE w2).out.mono ?_
  rintro e w3 ⟨v3, rfl, ho3, hb⟩
  have hb3 := hb2.trans (hb.mono hb2.size)
  have hG3 := hG.below hb hG.lt
  clear hb hb2 hG
  have hv3 := ho3.sees
  obtain ⟨A3, c3, rfl, -⟩ := hv3.at_
  go_wp2_with fail
  refine (hEnd g _ w3 hG3 hv3).out.mono ?_
  rintro e w4 ⟨rfl, hG4, hO⟩
  have hb4 := hb3.trans (hO.below hg2 hG3.lt)
  clear hO hG3 ho3 hv3 hb3
  go_wp2_with fail
  go_loopw [9, 10] (fun qv i wr => ∃ k q j : Nat, k ≤ m ∧ i = .int .i64 k ∧ qv = .int .i64 q ∧ q < 2 * N ∧ j ≤ 4 ∧ GAt wr g (goG N k q j) ∧ Below w.heap.size w wr) (fun _ i _ => m - (intOf i).toNat)
  case atStart => exact ⟨0, 0, 0, by omega, rfl, rfl, by omega, by omega, hG4, hb4⟩
  case round =>
    obtain ⟨k, q, j, hk, rfl, rfl, hq, hj, hGk, hbk⟩ := hrel
    by_cases hlt : k < m
    · have r1 : decide ((k : Int) < (m : Int)) = true := decide_eq_true (by omega)
      obtain ⟨b, off, rfl, hbb, hcell⟩ := hat (by omega)
      have ck := hcell k hlt
      obtain ⟨z2, z3⟩ := hZ.out k (by omega)
      have hKk := hK k q j g wr hGk
      generalize (1 + k) % N = mm at *
      go_wp2_with fail
      refine hKk.out.mono ?_
      rintro e w5 ⟨rfl, hb⟩
      have hb5 := hbk.trans (hb.mono hbk.size)
      have hG5 := hGk.below hb hGk.lt
      have ck5 : w5.cell? ⟨b, off + k, none⟩ = some (.bool (f k)) := (hb5.cell (p := ⟨b, off + k, none⟩) hbb).trans ck
      clear hb hbk hGk ck hcell
      have i1 : (0 : Int) ≤ (k : Int) := by omega
      have i2 : (k : Int) < (m : Int) := by omega
      cases hf : f k
      · rw [hf] at ck5
        have zq : IntKind.i64.wrap ((q : Int) + 1) = (q : Int) + 1 := IntWalk.i64_in _ (by omega)
        by_cases hq2 : q + 1 < 2 * N
        · have r2 : decide (2 * (N : Int) ≤ (q : Int) + 1) = false := decide_eq_false (by omega)
          go_wp2_with fail
          refine (hQ k q j hj hq2 g w5 hG5).out.mono ?_
          rintro e w6 ⟨rfl, ⟨j', hj', hG6⟩, hO⟩
          have hb6 := hb5.trans (hO.below hg2 hG5.lt)
          go_wp2
          go_roundw
          case rel => exact ⟨k + 1, q + 1, j', by omega, by go_num, by go_num, hq2, hj', hG6, hb6⟩
          case measure => simp [intOf]; omega
        · have r2 : decide (2 * (N : Int) ≤ (q : Int) + 1) = true := decide_eq_true (by omega)
          go_wp2_with fail
          refine (hKn _).out.mono ?_
          rintro e w6 ⟨rfl, hb⟩
          go_wp2
          go_ret
          exact ⟨rfl, hb5.trans (hb.mono hb5.size)⟩
      · rw [hf] at ck5
        have hbx := (Below.refl w5.heap.size w5).alloc (Nat.le_refl _) (.cells #[.int .u8 1, .int .u8 2, .int .u8 3] 5)
        have hGx := hG5.below hbx hG5.lt
        have hvx := (sees_lit w5 5 _ [1, 2, 3] rfl _ (Nat.lt_succ_self _) (by simp [maxLen]) _ _ _ rfl rfl rfl).more (B' := (w5.alloc (.cells #[.int .u8 1, .int .u8 2, .int .u8 3] 5)).heap.size) (by simp)
        have hb6 := hb5.trans (hbx.mono hb5.size)
        go_wp2_with fail
        refine (hH k q j hj hq g _ _ hGx hvx).out.mono ?_
        rintro e w6 ⟨rfl, ⟨j', hj', hG6⟩, hO⟩
        have hb7 := hb6.trans (hO.below hg2 hGx.lt)
        go_wp2
        go_roundw
        case rel => exact ⟨k + 1, 0, j', by omega, by go_num, rfl, by omega, hj', hG6, hb7⟩
        case measure => simp [intOf]; omega
    · have r1 : decide ((k : Int) < (m : Int)) = false := decide_eq_false (by omega)
      go_wp2_with fail
      refine (hKn _).out.mono ?_
      rintro e w6 ⟨rfl, hb⟩
      go_wp2
      go_ret
      exact ⟨rfl, hbk.trans (hb.mono hbk.size)⟩

/-! ### THE ROW's STEP around the walk. -/
theorem own_guardGoes : ownKnob Try.prog.godebug = none := by kernel_rfl
theorem laidOut_guardGoes : laidOutB Try.prog = true := by kernel_rfl
set_option maxRecDepth 100000 in
theorem lifted_guardGoes (os : Os) (started : os.Started) (H : Type) (enc : TypeId × Value → H) :
    ReturnsInHanded {} Try.checked os 8 .any (Rows.guardGoesSpec.pre6 enc Try.prog Try.f8 Rows.guardGoesRow.domain false) (Rows.guardGoesSpec.post enc Try.prog Try.f8 false true false false) := by
  refine returnsInHanded_of_change (C := Try.checked) own_guardGoes started (by kernel_rfl) Try.func8
    (ChangeSpec.witness6 (enc := enc) (C := Try.checked) false ⟨#[], #[.int .i64 0, .slice none 0 0], []⟩ 8 (by kernel_rfl) (by kernel_rfl) (by kernel_rfl) (by kernel_rfl)) ?_
  intro W base args ds gs before hval0 hW hcnd _
  have hval : ∀ (j : Nat) t v, Try.f8.params[j]? = some t → args[j]? = some v → Value.okWide Try.prog W .any base t v := hval0
  have hW' := hW
  obtain ⟨p, q, hA0, hV, rfl, hfz, hnd⟩ := hW
  have hA : DataW.TrodAll enc Try.prog W 0 (fun _ => true) true Try.f8.params.toList args.toList ds p := hA0
  rw [Try.params8] at hA hval
  obtain ⟨v0, vs0, d0, ds0, p0, q0, hargs, rfl, rfl, h0, r0⟩ := trodAll_cons hA
  obtain ⟨v1, vs1, d1, ds1, p1, q1, rfl, rfl, rfl, h1, r1⟩ := trodAll_cons r0
  obtain ⟨rfl, rfl, rfl⟩ := trodAll_nil r1
  obtain rfl : args = #[v0, v1] := by cases args; simp_all
  obtain ⟨rfl, rfl⟩ := trodVars_none hV
  obtain ⟨a0, rfl, rfl, rfl, w0⟩ := open_int Try.underlying3 (hval 0 3 v0 rfl rfl) h0
  obtain ⟨A1, n1, c1, rfl⟩ := okWide_slice Try.underlying50 (hval 1 50 v1 rfl rfl)
  have k1 := h1
  have lt1 : ∀ x ∈ p1, x.block < W.heap.size := by obtain ⟨m, hm⟩ := k1; exact DataW.trod_lt m _ _ _ hm
  obtain ⟨f1, s1⟩ := sees_bools Try.underlying50 Try.underlying4 (by kernel_rfl) h1
  clear hA0 hval0
  refine (walk_guardGoes a0 A1 n1 c1 f1 W (bounds_i64 w0) s1).mono fun e W' ⟨he, bel⟩ => ?_
  subst he
  exact ⟨_, rfl, _, _, _, [], _, [], hW', trodAll_mk1 (shut_bool Try.underlying4 _), (trodAll_cons_mk (shut_int Try.underlying3 w0) (trodAll_cons_mk (Below.trod laidOut_guardGoes (by kernel_rfl) (of_decide_eq_true (by kernel_rfl)) k1 bel lt1) trodAll_mk0)), rfl, bel.frame _, fun h => by cases h⟩

theorem over_guardGoes : Rows.guardGoesRow.holds Try.pinned (OpenSpec.ofChange Rows.guardGoesSpec) :=
  OpenClaim.holds_of_wide 8 Try.f8 rfl rfl rfl rfl rfl rfl rfl ⟨rfl, rfl, rfl, rfl, rfl⟩ rfl rfl rfl rfl rfl (by kernel_rfl) Try.func8 (by kernel_rfl)
    (of_decide_eq_true (by kernel_rfl)) (by unfold Func.isWrapper; first | (rw [if_pos (by decide +kernel)]; kernel_rfl) | (rw [if_neg (by decide +kernel)]; exact ⟨rfl, rfl⟩))
    (fun os started H enc _ => lifted_guardGoes os started H enc)

theorem proved_guardGoes : Rows.GuardGoesSaid := over_guardGoes
end Go.Proofs.Ythigojakapgllaa
