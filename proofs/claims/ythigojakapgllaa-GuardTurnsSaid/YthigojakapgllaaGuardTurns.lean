/- GuardTurns holds: a guardian's time is turned once a round by what the senders' clocks are ahead of it, one wild one aside. For all numbers. -/
import Derived.Test.YthigojakapgllaaGdS
import Derived.Test.YthigojakapgllaaGdO
namespace Go.Proofs.Ythigojakapgllaa
open Go.ChangeShapes Go.WideShapes Go.ChangeAt Go.RowKit
open Clk (avg)

/-- The measures behind the slots 1 to k. -/
def tl (f : Nat → Int) : Nat → List Int
  | 0 => []
  | k + 1 => if decide (((k + 1 : Nat) : Int) < 4) || (((k + 1 : Nat) : Int) % 2 == 0) then keep4 (tl f k) (f (k + 1)) else tl f k
theorem tl_len (f : Nat → Int) : ∀ k, (tl f k).length ≤ 4
  | 0 => by simp [tl]
  | k + 1 => by
    have := tl_len f k
    unfold tl
    split
    · unfold keep4
      split
      · simp; omega
      · simp; omega
    · exact this
theorem tl_small (f : Nat → Int) (hf : ∀ k, -1000 ≤ f k ∧ f k ≤ 1000) : ∀ k, small (tl f k)
  | 0 => fun x hx => by cases hx
  | k + 1 => by
    have := tl_small f hf k
    unfold tl
    split
    · exact this.keep4 (by have := hf (k + 1); omega)
    · exact this
/-- What the law sends. -/
def sent (a w : Int) (who N : Nat) (k : Nat) : Int := if k = who ∧ 4 < N then w else a
theorem turn_all (a w : Int) (ha : -5 ≤ a ∧ a ≤ 5) (who N : Nat) (h1 : 1 ≤ who ∧ who ≤ 3) (h4 : 4 ≤ N) (h8 : N ≤ 8) : termV 13 (tl (sent a w who N) (N - 1)) = a := by
  have hav : avg (tl (sent a w who N) (N - 1)) = a := by
    rcases (by omega : N = 4 ∨ N = 5 ∨ N = 6 ∨ N = 7 ∨ N = 8) with rfl | rfl | rfl | rfl | rfl <;>
    rcases (by omega : who = 1 ∨ who = 2 ∨ who = 3) with rfl | rfl | rfl <;>
    simp [tl, keep4, sent, avg, Clk.sumL, Clk.minL, Clk.maxL] <;> omega
  unfold termV
  rw [hav, if_pos]
  unfold wiB
  exact decide_eq_true (by omega)
/-- Behind a Cold frame of slot 0 at 100, and k slots. -/
def turG (f : Nat → Int) (N k : Nat) : G := if k + 1 < N then { newG (someT N 1) with kn := true, slot := k + 1, now := 100, si := 0, l := tl f k } else { newG (someT N 1) with kn := true, slot := 0, now := 100 + termV 13 (tl f k), si := 0, l := [] }
theorem turG_start (f : Nat → Int) (N : Nat) (h4 : 4 ≤ N) : (newG (someT N 1)).told 0 100 = turG f N 0 := by
  unfold turG G.told
  rw [if_pos (by omega), newG_n, Nat.mod_eq_of_lt (by omega)]
  show G.mk _ _ _ _ _ _ _ _ _ = G.mk _ _ _ _ _ _ _ _ _
  congr 1
  exact (newG_n N 1).symm
theorem turG_pos (f : Nat → Int) (N k : Nat) (h : k + 1 < N) : turG f N k = { newG (someT N 1) with kn := true, slot := k + 1, now := 100, si := 0, l := tl f k } := if_pos h
theorem turG_next (f : Nat → Int) (N k : Nat) (h : k + 1 < N) (l : List Int) (hl : 0 < l.length) : (turG f N k).ended l (100 + f (k + 1)) = turG f N (k + 1) := by
  have e : (turG f N k).ended l (100 + f (k + 1)) = (turG f N k).heard (100 + f (k + 1)) := by
    rw [turG_pos f N k h]
    unfold G.ended
    simp only
    rw [if_pos trivial, if_pos hl]
  rw [e, turG_pos f N k h]
  unfold G.heard
  simp only
  have hsy : (newG (someT N 1)).sy (k + 1) = (decide (((k + 1 : Nat) : Int) < 4) || (((k + 1 : Nat) : Int) % 2 == 0)) := by
    show ((someL N).getD (k + 1) default).sy = _
    rw [someL_get N (k + 1) h]
    rfl
  have hat : 100 + f (k + 1) - 100 = f (k + 1) := by omega
  rw [hsy, hat]
  have hif : (if (decide (((k + 1 : Nat) : Int) < 4) || (((k + 1 : Nat) : Int) % 2 == 0)) = true then ({ newG (someT N 1) with kn := true, slot := k + 1, now := 100, si := 0, l := keep4 (tl f k) (f (k + 1)) } : G) else { newG (someT N 1) with kn := true, slot := k + 1, now := 100, si := 0, l := tl f k }) = { newG (someT N 1) with kn := true, slot := k + 1, now := 100, si := 0, l := tl f (k + 1) } := by
    rw [tl]
    split <;> rfl
  refine (congrArg G.on hif).trans ?_
  unfold G.on
  simp only
  rw [newG_n]
  unfold turG
  by_cases h2 : k + 1 + 1 = N
  · rw [if_pos h2, if_neg (by omega)]
    show G.mk _ _ _ _ _ _ _ _ _ = G.mk _ _ _ _ _ _ _ _ _
    congr 1
    exact (newG_n N 1).symm
  · rw [if_neg h2, if_pos (by omega)]
    show G.mk _ _ _ _ _ _ _ _ _ = G.mk _ _ _ _ _ _ _ _ _
    congr 1
    exact (newG_n N 1).symm
theorem turG_ok (f : Nat → Int) (hf : ∀ k, -1000 ≤ f k ∧ f k ≤ 1000) (N k : Nat) (h : k + 1 < N) (h8 : N ≤ 8) (j : Nat) : (turG f N k).Ok (100 + f j) := by
  have hj := hf j
  rw [turG_pos f N k h]
  refine ⟨by show (newG (someT N 1)).n ≤ 8; rw [newG_n]; omega, by show k + 1 < (newG (someT N 1)).n; rw [newG_n]; exact h, tl_small f hf k, ?_, ?_, ?_, ?_⟩
  · show (0 : Int) ≤ 4 * 1 + 9 ∧ (4 * 1 + 9 : Int) ≤ _; omega
  · show _ ≤ (100 : Int) ∧ (100 : Int) ≤ _; omega
  · show _ ≤ 100 + f j - (100 : Int) ∧ 100 + f j - (100 : Int) ≤ _; omega
  · show 0 ≤ 1000; omega
theorem end_turn (f : Nat → Int) (hf : ∀ k, -1000 ≤ f k ∧ f k ≤ 1000) (N k : Nat) (h : k + 1 < N) (h8 : N ≤ 8) (l : List Int) (hl : 0 < l.length) (hb : bytesL l) (g : Nat) (v : Value) (W : World) (hG : GAt W g (turG f N k)) (hv : SeesL W W.heap.size v l) :
    Calls Try.prog 14 #[.pointer (some ⟨g, 0, none⟩), v, .int .i64 (100 + f (k + 1))] W fun e w' => e = .returned (.tuple #[]) ∧ GAt w' g (turG f N (k + 1)) ∧ Only g W w' := by
  have := end_gd g _ v l (100 + f (k + 1)) W hG (turG_ok f hf N k h h8 (k + 1)) hv hb
  rw [turG_next f N k h l hl] at this
  exact this
set_option maxRecDepth 100000 in
set_option maxHeartbeats 8000000 in
theorem walk_guardTurns (n a wi who : Int) (w : World) (_h1 : -9223372036854775808 ≤ n ∧ n ≤ 9223372036854775807) (_h2 : -9223372036854775808 ≤ a ∧ a ≤ 9223372036854775807) (_h3 : -9223372036854775808 ≤ wi ∧ wi ≤ 9223372036854775807) (_h4 : -9223372036854775808 ≤ who ∧ who ≤ 9223372036854775807) :
    Calls Try.prog 9 #[.int .i64 n, .int .i64 a, .int .i64 wi, .int .i64 who] w fun e w' => e = .returned (.bool true) ∧ Below w.heap.size w w' := by
  by_cases hok : (4 ≤ n ∧ n ≤ 8) ∧ (-5 ≤ a ∧ a ≤ 5) ∧ (-1000 ≤ wi ∧ wi ≤ 1000) ∧ 1 ≤ who ∧ who ≤ 3
  case neg =>
    go_enter Try.func9, Try.ntmps9
    go_wp2_with fail
    all_goals first
      | (exfalso; omega)
      | (go_ret; exact ⟨rfl, Below.refl _ _⟩)
      | skip
  obtain ⟨⟨g4, g8⟩, ⟨a0, a1⟩, ⟨w0, w1⟩, u0, u1⟩ := hok
  obtain ⟨N, rfl⟩ := Int.eq_ofNat_of_zero_le (show 0 ≤ n by omega)
  obtain ⟨U, rfl⟩ := Int.eq_ofNat_of_zero_le (show 0 ≤ who by omega)
  have q1 : decide ((N : Int) < 4) = false := decide_eq_false (by omega)
  have q2 : decide ((8 : Int) < (N : Int)) = false := decide_eq_false (by omega)
  have q3 : decide (a < -5) = false := decide_eq_false (by omega)
  have q4 : decide (5 < a) = false := decide_eq_false (by omega)
  have q5 : decide (wi < -1000) = false := decide_eq_false (by omega)
  have q6 : decide (1000 < wi) = false := decide_eq_false (by omega)
  have q7 : decide ((U : Int) < 1) = false := decide_eq_false (by omega)
  have q8 : decide ((3 : Int) < (U : Int)) = false := decide_eq_false (by omega)
  have hKn := fun W => Lib.hid (known_gd W)
  have hS := fun W => Lib.hid (some_gd N 1 (by omega) (by omega) W)
  unfold someT tabV at hS
  simp only at hS
  have hN := fun v W B (h : OwnsD W B v (someL N)) => Lib.hid (show Calls Try.prog 11 #[.agg #[v, .int .i64 1, .int .i64 10, .int .i64 13]] W fun e w' => ∃ g, e = .returned (.tuple #[.pointer (some ⟨g, 0, none⟩), .int .i64 0]) ∧ W.heap.size ≤ g ∧ GAt w' g (newG (someT N 1)) ∧ Below W.heap.size W w' from new_some N 1 (by omega) (by omega) (by omega) v W h)
  have hE := fun W => Lib.hid (enc_law (k := 3) (s := 0) (by omega) (by omega) W)
  have hEnd := fun g v W h hv => Lib.hid (end_cold N (by omega) (by omega) 100 (by omega) g v W h hv)
  have hf : ∀ k, -1000 ≤ sent a wi U N k ∧ sent a wi U N k ≤ 1000 := fun k => by unfold sent; split <;> omega
  have hfin := Lib.hid (turn_all a wi ⟨a0, a1⟩ U N (by omega) (by omega) (by omega))
  have hs1 : Hid (∀ k, k = U → 4 < N → sent a wi U N k = wi) := Lib.hid fun k h1 h2 => if_pos ⟨h1, h2⟩
  have hs2 : Hid (∀ k, ¬ (k = U ∧ 4 < N) → sent a wi U N k = a) := Lib.hid fun k h => if_neg h
  rw [turG_start (sent a wi U N) N (by omega)] at hEnd
  generalize sent a wi U N = f at *
  have hT := fun k h g v W hG hv => Lib.hid (end_turn f hf N k h (by omega) [9] (by simp) (by intro x hx; simp at hx; omega) g v W hG hv)
  have hW1 := fun k (h : k + 1 < N) g W (hG : GAt W g (turG f N k)) => Lib.hid (show Calls Try.prog 18 #[.pointer (some ⟨g, 0, none⟩)] W fun e w' => e = .returned (.int .i64 100) ∧ W = w' from by
    have := now_gd g _ W hG
    rw [turG_pos f N k h] at this
    exact this)
  have hW2 := fun g W (hG : GAt W g (turG f N (N - 1))) => Lib.hid (show Calls Try.prog 18 #[.pointer (some ⟨g, 0, none⟩)] W fun e w' => e = .returned (.int .i64 (100 + a)) ∧ W = w' from by
    have := now_gd g _ W hG
    have e : (turG f N (N - 1)).now = 100 + a := by
      unfold turG
      rw [if_neg (by omega)]
      show 100 + termV 13 (tl f (N - 1)) = _
      rw [hfin.out]
    rw [e] at this
    exact this)
  generalize newG (someT N 1) = s0 at *
  generalize someL N = ls at *
  generalize (lawF 3 0).bytes = bs at *
  have z1 : IntKind.i64.wrap (100 + a) = 100 + a := IntWalk.i64_in _ (by omega)
  have z2 : IntKind.i64.wrap (100 + wi) = 100 + wi := IntWalk.i64_in _ (by omega)
  clear hfin
  go_enter Try.func9, Try.ntmps9
  go_wp2_with fail
  refine (hS _).out.mono ?_
  rintro e w1 ⟨v1, rfl, ho1, hb1⟩
  go_wp2_with fail
  refine (hN v1 w1 _ ho1).out.mono ?_
  rintro e w2 ⟨g, rfl, hg, hG, hb⟩
  have hb2 := hb1.trans (hb.mono hb1.size)
  have hg2 := Nat.le_trans hb1.size hg
  clear hb hb1 ho1
  go_wp2_with fail
  refine (hE w2).out.mono ?_
  rintro e w3 ⟨v3, rfl, ho3, hb⟩
  have hb3 := hb2.trans (hb.mono hb2.size)
  have hG3 := hG.below hb hG.lt
  clear hb hb2 hG
  have hv3 := ho3.sees
  obtain ⟨A3, c3, rfl, -⟩ := hv3.at_
  go_wp2_with fail
  refine (hEnd g _ w3 hG3 hv3).out.mono ?_
  rintro e w4 ⟨rfl, hG4, hO⟩
  have hb4 := hb3.trans (hO.below hg2 hG3.lt)
  clear hO hG3 ho3 hv3 hb3
  go_wp2_with fail
  go_loopw [13] (fun i wr => ∃ k : Nat, k + 1 ≤ N ∧ i = .int .i64 ((k : Int) + 1) ∧ GAt wr g (turG f N k) ∧ Below w.heap.size w wr) (fun i _ => N + 1 - (intOf i).toNat)
  case atStart => exact ⟨0, by omega, rfl, hG4, hb4⟩
  case round =>
    obtain ⟨k, hk, rfl, hGk, hbk⟩ := hrel
    by_cases hlt : k + 1 < N
    · have r1 : decide ((k : Int) + 1 < (N : Int)) = true := decide_eq_true (by omega)
      go_wp2_with fail
      refine (hW1 k hlt g wr hGk).out.mono ?_
      rintro e w5 ⟨rfl, rfl⟩
      have hbx := (Below.refl wr.heap.size wr).alloc (Nat.le_refl _) (.cells #[.int .u8 9] 5)
      have hGx := hGk.below hbx hGk.lt
      have hvx := (sees_lit wr 5 _ [9] rfl _ (Nat.lt_succ_self _) (by simp [maxLen]) _ _ _ rfl rfl rfl).more (B' := (wr.alloc (.cells #[.int .u8 9] 5)).heap.size) (by simp)
      have hb6 := hbk.trans (hbx.mono hbk.size)
      have HT := hT k hlt g _ _ hGx hvx
      have zk : IntKind.i64.wrap ((k : Int) + 1 + 1) = (k : Int) + 1 + 1 := IntWalk.i64_in _ (by omega)
      have fin : ∀ w6, GAt w6 g (turG f N (k + 1)) → Only g (wr.alloc (.cells #[.int .u8 9] 5)) w6 → (∃ k_1 : Nat, k_1 + 1 ≤ N ∧ Value.int .i64 ((k : Int) + 1 + 1) = .int .i64 ((k_1 : Int) + 1) ∧ GAt w6 g (turG f N k_1) ∧ Below w.heap.size w w6) := fun w6 h1 h2 => ⟨k + 1, by omega, by congr 1, h1, hb6.trans (h2.below hg2 hGx.lt)⟩
      by_cases c1 : k + 1 = U
      · have r2 : (((k : Int) + 1) == (U : Int)) = true := by rw [beq_iff_eq]; omega
        by_cases c2 : 4 < N
        · have r3 : decide ((4 : Int) < (N : Int)) = true := decide_eq_true (by omega)
          rw [hs1.out (k + 1) c1 c2] at HT
          go_wp2_with fail
          refine HT.out.mono ?_
          rintro e w6 ⟨rfl, hG6, hO⟩
          go_wp2
          go_roundw
          case rel => exact fin w6 hG6 hO
          case measure => simp [intOf]; omega
        · have r3 : decide ((4 : Int) < (N : Int)) = false := decide_eq_false (by omega)
          rw [hs2.out (k + 1) (fun h => c2 h.2)] at HT
          go_wp2_with fail
          refine HT.out.mono ?_
          rintro e w6 ⟨rfl, hG6, hO⟩
          go_wp2
          go_roundw
          case rel => exact fin w6 hG6 hO
          case measure => simp [intOf]; omega
      · have r2 : (((k : Int) + 1) == (U : Int)) = false := by rw [beq_eq_false_iff_ne]; omega
        rw [hs2.out (k + 1) (fun h => c1 h.1)] at HT
        go_wp2_with fail
        refine HT.out.mono ?_
        rintro e w6 ⟨rfl, hG6, hO⟩
        go_wp2
        go_roundw
        case rel => exact fin w6 hG6 hO
        case measure => simp [intOf]; omega
    · have r1 : decide ((k : Int) + 1 < (N : Int)) = false := decide_eq_false (by omega)
      obtain rfl : k = N - 1 := by omega
      go_wp2_with fail
      refine (hW2 g wr hGk).out.mono ?_
      rintro e w5 ⟨rfl, rfl⟩
      go_wp2_with fail
      refine (hKn _).out.mono ?_
      rintro e w6 ⟨rfl, hb⟩
      go_wp2
      go_ret
      exact ⟨rfl, hbk.trans (hb.mono hbk.size)⟩

/-! ### THE ROW's STEP around the walk. -/
theorem own_guardTurns : ownKnob Try.prog.godebug = none := by kernel_rfl
theorem laidOut_guardTurns : laidOutB Try.prog = true := by kernel_rfl
set_option maxRecDepth 100000 in
theorem lifted_guardTurns (os : Os) (started : os.Started) (H : Type) (enc : TypeId × Value → H) :
    ReturnsInHanded {} Try.checked os 9 .any (Rows.guardTurnsSpec.pre6 enc Try.prog Try.f9 Rows.guardTurnsRow.domain false) (Rows.guardTurnsSpec.post enc Try.prog Try.f9 false true false false) := by
  refine returnsInHanded_of_change (C := Try.checked) own_guardTurns started (by kernel_rfl) Try.func9
    (ChangeSpec.witness6 (enc := enc) (C := Try.checked) false ⟨#[], #[.int .i64 0, .int .i64 0, .int .i64 0, .int .i64 0], []⟩ 8 (by kernel_rfl) (by kernel_rfl) (by kernel_rfl) (by kernel_rfl)) ?_
  intro W base args ds gs before hval0 hW hcnd _
  have hval : ∀ (j : Nat) t v, Try.f9.params[j]? = some t → args[j]? = some v → Value.okWide Try.prog W .any base t v := hval0
  have hW' := hW
  obtain ⟨p, q, hA0, hV, rfl, hfz, hnd⟩ := hW
  have hA : DataW.TrodAll enc Try.prog W 0 (fun _ => true) true Try.f9.params.toList args.toList ds p := hA0
  rw [Try.params9] at hA hval
  obtain ⟨v0, vs0, d0, ds0, p0, q0, hargs, rfl, rfl, h0, r0⟩ := trodAll_cons hA
  obtain ⟨v1, vs1, d1, ds1, p1, q1, rfl, rfl, rfl, h1, r1⟩ := trodAll_cons r0
  obtain ⟨v2, vs2, d2, ds2, p2, q2, rfl, rfl, rfl, h2, r2⟩ := trodAll_cons r1
  obtain ⟨v3, vs3, d3, ds3, p3, q3, rfl, rfl, rfl, h3, r3⟩ := trodAll_cons r2
  obtain ⟨rfl, rfl, rfl⟩ := trodAll_nil r3
  obtain rfl : args = #[v0, v1, v2, v3] := by cases args; simp_all
  obtain ⟨rfl, rfl⟩ := trodVars_none hV
  obtain ⟨a0, rfl, rfl, rfl, w0⟩ := open_int Try.underlying3 (hval 0 3 v0 rfl rfl) h0
  obtain ⟨a1, rfl, rfl, rfl, w1⟩ := open_int Try.underlying3 (hval 1 3 v1 rfl rfl) h1
  obtain ⟨a2, rfl, rfl, rfl, w2⟩ := open_int Try.underlying3 (hval 2 3 v2 rfl rfl) h2
  obtain ⟨a3, rfl, rfl, rfl, w3⟩ := open_int Try.underlying3 (hval 3 3 v3 rfl rfl) h3
  clear hA0 hval0
  refine (walk_guardTurns a0 a1 a2 a3 W (bounds_i64 w0) (bounds_i64 w1) (bounds_i64 w2) (bounds_i64 w3)).mono fun e W' ⟨he, bel⟩ => ?_
  subst he
  exact ⟨_, rfl, _, _, _, [], _, [], hW', trodAll_mk1 (shut_bool Try.underlying4 _), (trodAll_cons_mk (shut_int Try.underlying3 w0) (trodAll_cons_mk (shut_int Try.underlying3 w1) (trodAll_cons_mk (shut_int Try.underlying3 w2) (trodAll_cons_mk (shut_int Try.underlying3 w3) trodAll_mk0)))), rfl, bel.frame _, fun h => by cases h⟩

theorem over_guardTurns : Rows.guardTurnsRow.holds Try.pinned (OpenSpec.ofChange Rows.guardTurnsSpec) :=
  OpenClaim.holds_of_wide 9 Try.f9 rfl rfl rfl rfl rfl rfl rfl ⟨rfl, rfl, rfl, rfl, rfl⟩ rfl rfl rfl rfl rfl (by kernel_rfl) Try.func9 (by kernel_rfl)
    (of_decide_eq_true (by kernel_rfl)) (by unfold Func.isWrapper; first | (rw [if_pos (by decide +kernel)]; kernel_rfl) | (rw [if_neg (by decide +kernel)]; exact ⟨rfl, rfl⟩))
    (fun os started H enc _ => lifted_guardTurns os started H enc)

theorem proved_guardTurns : Rows.GuardTurnsSaid := over_guardTurns
end Go.Proofs.Ythigojakapgllaa
