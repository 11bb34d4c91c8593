/- StarLate holds: who is off by more than the window is not heard, who is within it is, and all hear by how much. For all arguments. -/
import Derived.Test.YtfnolnmdhppnmaaSB32
namespace Go.Proofs.Ytfnolnmdhppnmaa
open Go.ChangeShapes Go.WideShapes Go.ChangeAt Go.RowKit

def isIn (x : Int) : Bool := decide (-10 ≤ x) && decide (x ≤ 10)
/-- Times, that of node 1 put to nought. -/
def at0 (a : Nat → Int) (i : Nat) : Int := if i = 1 ∨ 8 ≤ i then 0 else a i
theorem i8_at0 (a : Nat → Int) : (i8 a).setIfInBounds 1 (.int .i64 0) = i8 (at0 a) := by simp [i8, at0]
theorem Hears.late {W : World} {Bs : Nat} {m : List Sd} {n : Nat} {q : Nat → Int} {p : Int} {a : Nat → Int} {i : Nat} {h : Hd} (H : Hears W Bs m n q q p a i h) (hi : i < m.length) (hd : m[i]?.map Sd.df = some false) : h.A = tk n q ∧ h.o = if 0 ≤ p then whenV m p - a i else 0 := by
  obtain ⟨h1, -, -, -, h5⟩ := H
  rw [hd] at h1
  rw [if_pos ⟨hi, by simp⟩] at h1
  refine ⟨h1, ?_⟩
  rw [h5]
  by_cases e : 0 ≤ p
  · rw [if_pos ⟨hi, e⟩, if_pos e]
  · rw [if_neg (fun h => e h.2), if_neg e]
set_option maxRecDepth 100000 in
set_option maxHeartbeats 4000000 in
theorem core_starLate (n x : Int) (a : Nat → Int) (w : World) :
    Calls Try.prog 5 #[.int .i64 n, .int .i64 x, ints8 a] w fun e w' => e = .returned (.bool true) ∧ Below w.heap.size w w' := by
  by_cases call : 4 ≤ n ∧ n ≤ 8 ∧ -1000 ≤ x ∧ x ≤ 1000
  case neg =>
    unfold ints8
    go_enter Try.func5, Try.ntmps5
    go_wp2
    all_goals first
      | (exfalso; omega)
      | (go_ret; exact ⟨rfl, (Below.refl _ _).alloc (Nat.le_refl _) _⟩)
      | skip
  obtain ⟨n4, n8, x0, x1⟩ := call
  obtain ⟨N, rfl⟩ : ∃ t : Nat, n = t := ⟨n.toNat, by omega⟩
  have q1 : decide (((N : Nat) : Int) < 4) = false := decide_eq_false (by omega)
  have q2 : decide ((8 : Int) < ((N : Nat) : Int)) = false := decide_eq_false (by omega)
  have q3 : decide (x < -1000) = false := decide_eq_false (by omega)
  have q4 : decide ((1000 : Int) < x) = false := decide_eq_false (by omega)
  have hBg := fun W => Lib.hid (begun_sr N (by omega) (by omega) W)
  have hKn := fun W => Lib.hid (known_sr W)
  have hSo := fun W => Lib.hid (show Calls Try.prog 16 #[.int .i64 (N : Nat), .int .i64 1] W fun e w' => ∃ v, e = .returned (.agg #[v, .int .i64 1, .int .i64 10, .int .i64 13]) ∧ (∃ A n c, v = .slice A n c) ∧ Below W.heap.size W w' from (some_sr N 1 (by omega) (by omega) W).mono fun e w' ⟨v, h1, h2, h3⟩ => ⟨v, h1, (by obtain ⟨A, c, h, -⟩ := h2.sees.at_; exact ⟨A, _, c, h⟩), h3⟩)
  have hS : ∀ (g b : Nat) (W : World) (a : Nat → Int), a 1 = 0 → (∀ i, -1000 ≤ a i ∧ a i ≤ 1000) → GsAt W g N (S1 N) (S1 N) → SeesL W W.heap.size (.slice (some ⟨b, 0, none⟩) 1 1) [5] → Hid (Calls Try.prog 14 #[.pointer (some ⟨g, 0, none⟩), .agg #[.slice none 0 0, .slice (some ⟨b, 0, none⟩) 1 1, .slice none 0 0, .slice none 0 0, .slice none 0 0, .slice none 0 0, .slice none 0 0, .slice none 0 0], ints8 a, .slice (some ⟨W.heap.size, 0, none⟩) 1 1]
      (W.alloc (.cells #[.int .i64 6, .int .i64 1, .int .i64 x, .slice none 0 0] 34)) fun e w' => ∃ f, e = .returned (.tuple #[.agg (hdC f), .int .i64 0]) ∧ Hid (∀ i, i < N → (f i).A = (if isIn x then 2 else 0) ∧ (f i).o = (if isIn x then x - a i else 0)) ∧ Hid (∀ i, i < 8 → (∃ A n c, (f i).X = .slice A n c) ∧ ∃ A n c, (f i).Y = .slice A n c) ∧ Only g (W.alloc (.cells #[.int .i64 6, .int .i64 1, .int .i64 x, .slice none 0 0] 34)) w') := fun g b W a a1 ha hG hv => Lib.hid (by
    have hF := SeesF.one W W.heap.size rfl 34 ⟨6, 1, x, []⟩ (.slice none 0 0) SeesL.nil (fun x hx => by cases hx)
    have hb := (Below.refl W.heap.size W).alloc (Nat.le_refl _) (.cells #[.int .i64 6, .int .i64 1, .int .i64 x, .slice none 0 0] 34)
    have hz : (W.alloc (.cells #[.int .i64 6, .int .i64 1, .int .i64 x, .slice none 0 0] 34)).heap.size = W.heap.size + 1 := by simp
    have hl5 : bytesL [5] := fun x hx => by simp at hx; omega
    have es : ∀ i, i < N → (strikeL ⟨6, 1, x, []⟩ (m0 N (at1 1 [5] []) a))[i]? = some { sd0 (at1 1 [5] []) a i with at_ := if i = 1 then x else a i } := fun i hi => by
      by_cases e : i = 1
      · subst e
        rw [strikeL_same _ _ 1 _ (by simp) rfl (m0_get N _ _ 1 hi)]
        simp [Sd.strike, sd0, a1]
      · rw [strikeL_other _ _ i (by simp; omega), m0_get N _ _ i hi]
        simp [sd0, e]
    have hm : strikes [(⟨6, 1, x, []⟩ : Ft)] (m0 N (at1 1 [5] []) a) = strikeL ⟨6, 1, x, []⟩ (m0 N (at1 1 [5] []) a) := rfl
    have h1 := es 1 (by omega)
    simp only [if_true] at h1
    have hvs : ∀ i, i < 8 → SeesL (W.alloc (.cells #[.int .i64 6, .int .i64 1, .int .i64 x, .slice none 0 0] 34)) (W.alloc (.cells #[.int .i64 6, .int .i64 1, .int .i64 x, .slice none 0 0] 34)).heap.size (.slice (at1 1 (some ⟨b, 0, none⟩) none i) (at1 1 [5] [] i : List Int).length (at1 1 1 0 i)) (at1 1 [5] [] i) ∧ bytesL (at1 1 [5] [] i) := fun i _ => by
      by_cases e : i = 1
      · subst e; exact ⟨(hv.below hb).more (by omega), hl5⟩
      · simp only [at1, if_neg e]; exact ⟨SeesL.nil, fun x hx => by cases hx⟩
    have hdf : ∀ i, i < N → (strikeL ⟨6, 1, x, []⟩ (m0 N (at1 1 [5] []) a))[i]?.map Sd.df = some false := fun i hi => by rw [es i hi]; rfl
    have hlen : (strikeL ⟨6, 1, x, []⟩ (m0 N (at1 1 [5] []) a)).length = N := by rw [strikeL_length, m0_length]
    have hw : whenV (strikeL ⟨6, 1, x, []⟩ (m0 N (at1 1 [5] []) a)) ((1 : Nat) : Int) = x := by
      unfold whenV sA; rw [if_neg (by omega), Int.toNat_natCast, h1]
    have ha' : ∀ i, -1000000 ≤ a i ∧ a i ≤ 1000000 := fun i => by have := ha i; omega
    have hmay : ftIs [(⟨6, 1, x, []⟩ : Ft)] = true := by simp [ftIs, Ft.may, ftMay]; omega
    have ho : on1 { sd0 (at1 1 [5] []) a 1 with at_ := x } = isIn x := by
      unfold on1 isIn nearB
      rw [show decide (0 < ({ sd0 (at1 1 [5] []) a 1 with at_ := x } : Sd).n) = true from rfl]
      show (true && decide (-10 ≤ x - 0 ∧ x - 0 ≤ 10)) = _
      rw [Bool.true_and, Int.sub_zero, Bool.decide_and]
    cases hq : isIn x
    · rw [hq] at ho
      refine (slot_quiet (A := at1 1 (some ⟨b, 0, none⟩) none) (c := at1 1 1 0) (bs := at1 1 [5] []) (a := a) (fl := [⟨6, 1, x, []⟩]) (s := { sd0 (at1 1 [5] []) a 1 with at_ := x }) false (by omega) (by omega) (hG.below hb hG.lt) hvs ha' (hF.more (by simp)) hmay (fun f hf => by rw [List.mem_singleton.1 hf]; simp) (by simp [blocks]) (by simp [blocks]) hm h1 (.inr ho)).mono ?_
      rintro e w' ⟨f, r, rfl, hH, -, hO⟩
      refine ⟨f, rfl, Lib.hid (fun i hi => ?_), Lib.hid (fun i hi => (hH i hi).forms), hO⟩
      obtain ⟨z1, z2⟩ := (hH i (by omega)).late (by rw [hlen]; exact hi) (hdf i hi)
      exact ⟨z1, z2⟩
    · rw [hq] at ho
      refine (slot_heard (A := at1 1 (some ⟨b, 0, none⟩) none) (c := at1 1 1 0) (bs := at1 1 [5] []) (a := a) (fl := [⟨6, 1, x, []⟩]) (s := { sd0 (at1 1 [5] []) a 1 with at_ := x }) (by omega) (by omega) (hG.below hb hG.lt) hvs ha' (hF.more (by simp)) hmay (fun f hf => by rw [List.mem_singleton.1 hf]; simp) (by simp [blocks]) (by simp [blocks]) hm h1 (by show -1000000 ≤ x ∧ x ≤ 1000000; omega) ho).mono ?_
      rintro e w' ⟨f, rfl, hH, -, hO⟩
      refine ⟨f, rfl, Lib.hid (fun i hi => ?_), Lib.hid (fun i hi => (hH i hi).forms), hO⟩
      obtain ⟨z1, z2⟩ := (hH i (by omega)).late (by rw [hlen]; exact hi) (hdf i hi)
      rw [hw] at z2
      exact ⟨z1.trans (tk_rq [5] (by decide)), z2⟩)
  have hin := infoHeard8
  have X := Blk.new w w.heap.size rfl (i8 a) 32
  have hb0 := (Below.refl w.heap.size w).alloc (Nat.le_refl _) (.cells (i8 a) 32)
  have hz0 : (w.alloc (.cells (i8 a) 32)).heap.size = w.heap.size + 1 := by simp
  unfold i8 at X hb0 hz0
  unfold ints8
  go_enter Try.func5, Try.ntmps5
  go_wp2_with fail
  generalize w.alloc (.cells #[.int .i64 (a 0), .int .i64 (a 1), .int .i64 (a 2), .int .i64 (a 3), .int .i64 (a 4), .int .i64 (a 5), .int .i64 (a 6), .int .i64 (a 7)] 32) = w1 at *
  go_loop [7] (fun i => ∃ j : Nat, j ≤ 8 ∧ i = .int .i64 j ∧ Hid (∀ k, k < j → -1000 ≤ a k ∧ a k ≤ 1000)) (fun i => 8 - (intOf i).toNat)
  case atStart => exact ⟨0, by omega, rfl, Lib.hid fun k hk => by omega⟩
  case round =>
    obtain ⟨j, hj, rfl, hA⟩ := hrel
    by_cases hlt : j < 8
    · have r1 : decide ((j : Int) < 8) = true := by simp; omega
      have e0 := X.cell j (i8_get a j hlt)
      by_cases b1 : a j < -1000
      · have r2 : decide (a j < -1000) = true := decide_eq_true b1
        go_wp2_with fail
        go_ret
        exact ⟨rfl, hb0⟩
      · by_cases b2 : 1000 < a j
        · have r2 : decide (a j < -1000) = false := decide_eq_false b1
          have r3 : decide (1000 < a j) = true := decide_eq_true b2
          go_wp2_with fail
          go_ret
          exact ⟨rfl, hb0⟩
        · have r2 : decide (a j < -1000) = false := decide_eq_false b1
          have r3 : decide (1000 < a j) = false := decide_eq_false b2
          have hA' : Hid (∀ k, k < j + 1 → -1000 ≤ a k ∧ a k ≤ 1000) := Lib.hid fun k hk => by
            by_cases e : k = j
            · subst e; omega
            · exact hA.out k (by omega)
          clear hA
          go_wp2_with fail
          exact ⟨⟨j + 1, by omega, by go_num, hA'⟩, by simp [intOf]; omega⟩
    · obtain rfl : j = 8 := by omega
      have r1 : decide (((8 : Nat) : Int) < 8) = false := rfl
      have f1 := X.frozen 1
      have c1 := X.cell 1 (x := .int .i64 (a 1)) rfl
      have X2 := (X.set 1 (.int .i64 0)).eq (i8_at0 a)
      have hb2 := hb0.setCell (p := ⟨w.heap.size, 1, none⟩) (Nat.le_refl _) (.int .i64 0)
      have ha0 : Hid (at0 a 1 = 0 ∧ ∀ i, -1000 ≤ at0 a i ∧ at0 a i ≤ 1000) := Lib.hid ⟨rfl, fun i => by
        unfold at0
        split
        · omega
        · exact hA.out i (by omega)⟩
      clear hA
      go_wp2_with fail
      have ha1 := ha0.out.1
      have hA' := Lib.hid ha0.out.2
      clear c1 f1 X
      generalize w1.setCell ⟨w.heap.size, 1, none⟩ (.int .i64 0) = w2 at *
      refine (hSo w2).out.mono ?_
      rintro e w3 ⟨v, rfl, ⟨Av, nv, cv, rfl⟩, hb3⟩
      have X3 := X2.below hb3 X2.lt
      have hb03 := hb2.trans (hb3.mono hb2.size)
      have T := Blk.new w3 w3.heap.size rfl #[.slice Av nv cv, .int .i64 1, .int .i64 10, .int .i64 13] 41
      have hb4 := (Below.refl w3.heap.size w3).alloc (Nat.le_refl _) (.cells #[.slice Av nv cv, .int .i64 1, .int .i64 10, .int .i64 13] 41)
      have X4 := X3.below hb4 X3.lt
      have hb04 := hb03.trans (hb4.mono hb03.size)
      clear hSo X2 hb2 hb3 X3 hb03 hb4
      go_wp2_with fail
      generalize w3.alloc (.cells #[.slice Av nv cv, .int .i64 1, .int .i64 10, .int .i64 13] 41) = w4 at *
      refine (hBg w4).out.mono ?_
      rintro e w5 ⟨g, rfl, hg, hG, hb5⟩
      have X5 := X4.below hb5 X4.lt
      have T5 := T.below hb5 T.lt
      have hb05 := hb04.trans (hb5.mono hb04.size)
      have hb6 := (Below.refl w5.heap.size w5).alloc (Nat.le_refl _) (.cells #[.int .u8 5] 5)
      have hz6 : (w5.alloc (.cells #[.int .u8 5] 5)).heap.size = w5.heap.size + 1 := by simp
      have X6 := X5.below hb6 X5.lt
      have hb06 := hb05.trans (hb6.mono hb05.size)
      have T6 := T5.below hb6 T5.lt
      have hgl := hG.lt
      have hgw : w.heap.size ≤ g := Nat.le_trans hb04.size hg
      have hXg : w.heap.size < w4.heap.size := X4.lt
      have hTg : w3.heap.size < w4.heap.size := by simpa using T.lt
      have hsl := hS g w5.heap.size (w5.alloc (.cells #[.int .u8 5] 5)) (at0 a) ha1 ha0.out.2 (hG.below hb6 hG.lt) (sees_lit w5 5 _ [5] rfl _ (by simp) (by simp [maxLen]) w5.heap.size 1 1 rfl rfl rfl)
      have x0 := X6.cell 0 (x := .int .i64 (at0 a 0)) rfl
      have x1 := X6.cell 1 (x := .int .i64 (at0 a 1)) rfl
      have x2 := X6.cell 2 (x := .int .i64 (at0 a 2)) rfl
      have x3 := X6.cell 3 (x := .int .i64 (at0 a 3)) rfl
      have x4 := X6.cell 4 (x := .int .i64 (at0 a 4)) rfl
      have x5 := X6.cell 5 (x := .int .i64 (at0 a 5)) rfl
      have x6 := X6.cell 6 (x := .int .i64 (at0 a 6)) rfl
      have x7 := X6.cell 7 (x := .int .i64 (at0 a 7)) rfl
      unfold ints8 at hsl
      rw [ha1, hz6] at hsl
      have hB7 := Lib.hid (hb06.alloc hb06.size (.cells #[.int .i64 6, .int .i64 1, .int .i64 x, .slice none 0 0] 34))
      have hX7 := Lib.hid ((X6.below ((Below.refl _ _).alloc (Nat.le_refl _) (.cells #[.int .i64 6, .int .i64 1, .int .i64 x, .slice none 0 0] 34)) X6.lt))
      have hT7 := Lib.hid ((T6.below ((Below.refl _ _).alloc (Nat.le_refl _) (.cells #[.int .i64 6, .int .i64 1, .int .i64 x, .slice none 0 0] 34)) T6.lt))
      clear hS hBg hG X4 X5 T5 T hb5 hb04 hb05 hb6 hb06 X6 T6 ha0
      go_wp2_with fail
      clear x0 x1 x2 x3 x4 x5 x6 x7
      refine hsl.out.mono ?_
      rintro e w8 ⟨f, rfl, hA, hXY, hO⟩
      have hb4 := Lib.hid (hB7.out.trans (hO.below (by omega) (by simp; omega)))
      have X8 := hX7.out.only hO (by omega)
      have T8 := hT7.out.only hO (by omega)
      have hl' := hear_lies w8 w8.heap.size rfl f 27
      have hth := hdz_there w8 w8.heap.size rfl 27
      have h40 : 40 = (hdC f).size := rfl
      rw [hdz_lit] at hl' hth
      rw [h40] at hth
      clear h40
      obtain ⟨hH, hB5⟩ := hl'
      have hone := Lib.hid (hdC_one f (fun i hi => (hXY.out i hi).1) (fun i hi => (hXY.out i hi).2))
      have HF : Hid (∀ W i, i < N → HAt W w8.heap.size f → Below w8.heap.size w8 W → W.cell? ⟨w8.heap.size, i * 5, none⟩ = some (.int .i64 (if isIn x then 2 else 0)) ∧ W.cell? ⟨w8.heap.size, i * 5 + 4, none⟩ = some (.int .i64 (if isIn x then x - at0 a i else 0)) ∧ W.cell? ⟨w.heap.size, i, none⟩ = some (.int .i64 (at0 a i))) := Lib.hid fun W i hi h hb => by
        obtain ⟨e0, -, -, -, e4⟩ := h.get i (by omega)
        obtain ⟨a0, b0⟩ := hA.out i hi
        rw [a0] at e0
        rw [b0] at e4
        exact ⟨e0, e4, (X8.below hb X8.lt).cell i (i8_get (at0 a) i (by omega))⟩
      have HT : Hid (∀ W, Below w8.heap.size w8 W → W.cell? ⟨w3.heap.size, 2, none⟩ = some (.int .i64 10)) := Lib.hid fun W hb => (T8.below hb T8.lt).cell 2 rfl
      have haB := hA'.out
      clear hA hXY hO X8 T8 hB7 hX7 hT7 hsl hA'
      rcases (by unfold isIn; by_cases u1 : -10 ≤ x <;> by_cases u2 : x ≤ 10 <;> simp [u1, u2] : (isIn x = true ∧ -10 ≤ x ∧ x ≤ 10) ∨ (isIn x = false ∧ ¬ -10 ≤ x) ∨ (isIn x = false ∧ -10 ≤ x ∧ ¬ x ≤ 10)) with ⟨hq, u1, u2⟩ | ⟨hq, u1⟩ | ⟨hq, u1, u2⟩
      · have g1 : decide (-10 ≤ x) = true := decide_eq_true u1
        have g2 : decide (x ≤ 10) = true := decide_eq_true u2
        rw [hq] at HF
        simp only [if_true] at HF
        go_wp2_with (refine wpList_store_mid rfl _ _ _ rfl _ _ (hdC f) rfl rfl hth hin hone.out ?_; clear hth; generalize World.setCells _ _ _ _ = w9 at hH hB5 ⊢; have tw := HT.out w9 hB5)
        go_loop [13] (fun i => ∃ j : Nat, j ≤ N ∧ i = .int .i64 j) (fun i => N - (intOf i).toNat)
        case atStart => exact ⟨0, by omega, rfl⟩
        case round =>
          obtain ⟨j, hj, rfl⟩ := hrel
          by_cases hlt : j < N
          · have r1 : decide ((j : Int) < (N : Nat)) = true := by simp; omega
            obtain ⟨e0, e4, ex⟩ := HF.out w9 j (by omega) hH hB5
            have haj := haB j
            have i1 : (j : Int) < 8 := by omega
            generalize at0 a j = y at *
            have zz : IntKind.i64.wrap (x - y) = x - y := IntWalk.i64_in _ (by omega)
            have z1 : (((x - y : Int)) != (x - y)) = false := by simp
            go_wp2_with fail
            exact ⟨⟨j + 1, by omega, by go_num⟩, by simp [intOf]; omega⟩
          · have r1 : decide ((j : Int) < (N : Nat)) = false := by simp; omega
            have hk := hKn w9
            have hbb := Lib.hid (hb4.out.trans (hB5.mono hb4.out.size))
            clear hKn
            go_wp2_with fail
            refine hk.out.mono ?_
            rintro e w6 ⟨rfl, hb6⟩
            have hbz := Lib.hid (hbb.out.trans (hb6.mono hbb.out.size))
            go_wp2_with fail
            go_ret
            exact ⟨rfl, hbz.out⟩
      · have g1 : decide (-10 ≤ x) = false := decide_eq_false u1
        rw [hq] at HF
        simp only [if_false, Bool.false_eq_true] at HF
        go_wp2_with (refine wpList_store_mid rfl _ _ _ rfl _ _ (hdC f) rfl rfl hth hin hone.out ?_; clear hth; generalize World.setCells _ _ _ _ = w9 at hH hB5 ⊢; have tw := HT.out w9 hB5)
        go_loop [13] (fun i => ∃ j : Nat, j ≤ N ∧ i = .int .i64 j) (fun i => N - (intOf i).toNat)
        case atStart => exact ⟨0, by omega, rfl⟩
        case round =>
          obtain ⟨j, hj, rfl⟩ := hrel
          by_cases hlt : j < N
          · have r1 : decide ((j : Int) < (N : Nat)) = true := by simp; omega
            obtain ⟨e0, e4, ex⟩ := HF.out w9 j (by omega) hH hB5
            have haj := haB j
            have i1 : (j : Int) < 8 := by omega
            generalize at0 a j = y at *
            have zz : IntKind.i64.wrap (x - y) = x - y := IntWalk.i64_in _ (by omega)
            have z1 : (((x - y : Int)) != (x - y)) = false := by simp
            go_wp2_with fail
            exact ⟨⟨j + 1, by omega, by go_num⟩, by simp [intOf]; omega⟩
          · have r1 : decide ((j : Int) < (N : Nat)) = false := by simp; omega
            have hk := hKn w9
            have hbb := Lib.hid (hb4.out.trans (hB5.mono hb4.out.size))
            clear hKn
            go_wp2_with fail
            refine hk.out.mono ?_
            rintro e w6 ⟨rfl, hb6⟩
            have hbz := Lib.hid (hbb.out.trans (hb6.mono hbb.out.size))
            go_wp2_with fail
            go_ret
            exact ⟨rfl, hbz.out⟩
      · have g1 : decide (-10 ≤ x) = true := decide_eq_true u1
        have g2 : decide (x ≤ 10) = false := decide_eq_false u2
        rw [hq] at HF
        simp only [if_false, Bool.false_eq_true] at HF
        go_wp2_with (refine wpList_store_mid rfl _ _ _ rfl _ _ (hdC f) rfl rfl hth hin hone.out ?_; clear hth; generalize World.setCells _ _ _ _ = w9 at hH hB5 ⊢; have tw := HT.out w9 hB5)
        go_loop [13] (fun i => ∃ j : Nat, j ≤ N ∧ i = .int .i64 j) (fun i => N - (intOf i).toNat)
        case atStart => exact ⟨0, by omega, rfl⟩
        case round =>
          obtain ⟨j, hj, rfl⟩ := hrel
          by_cases hlt : j < N
          · have r1 : decide ((j : Int) < (N : Nat)) = true := by simp; omega
            obtain ⟨e0, e4, ex⟩ := HF.out w9 j (by omega) hH hB5
            have haj := haB j
            have i1 : (j : Int) < 8 := by omega
            generalize at0 a j = y at *
            have zz : IntKind.i64.wrap (x - y) = x - y := IntWalk.i64_in _ (by omega)
            have z1 : (((x - y : Int)) != (x - y)) = false := by simp
            go_wp2_with fail
            exact ⟨⟨j + 1, by omega, by go_num⟩, by simp [intOf]; omega⟩
          · have r1 : decide ((j : Int) < (N : Nat)) = false := by simp; omega
            have hk := hKn w9
            have hbb := Lib.hid (hb4.out.trans (hB5.mono hb4.out.size))
            clear hKn
            go_wp2_with fail
            refine hk.out.mono ?_
            rintro e w6 ⟨rfl, hb6⟩
            have hbz := Lib.hid (hbb.out.trans (hb6.mono hbb.out.size))
            go_wp2_with fail
            go_ret
            exact ⟨rfl, hbz.out⟩
theorem walk_starLate (n x : Int) (y0 y1 y2 y3 y4 y5 y6 y7 : Int) (w : World) (_h_n : -9223372036854775808 ≤ n ∧ n ≤ 9223372036854775807) (_h_x : -9223372036854775808 ≤ x ∧ x ≤ 9223372036854775807) (_h_a : ∀ k, i64g (is8 y0 y1 y2 y3 y4 y5 y6 y7 k)) :
    Calls Try.prog 5 #[.int .i64 n, .int .i64 x, ints8 (is8 y0 y1 y2 y3 y4 y5 y6 y7)] w fun e w' => e = .returned (.bool true) ∧ Below w.heap.size w w' := core_starLate n x _ w

/-! ### THE ROW's STEP around the walk. -/
theorem own_starLate : ownKnob Try.prog.godebug = none := by kernel_rfl
theorem laidOut_starLate : laidOutB Try.prog = true := by kernel_rfl
set_option maxRecDepth 100000 in
theorem lifted_starLate (os : Os) (started : os.Started) (H : Type) (enc : TypeId × Value → H) :
    ReturnsInHanded {} Try.checked os 5 .any (Rows.starLateSpec.pre6 enc Try.prog Try.f5 Rows.starLateRow.domain false) (Rows.starLateSpec.post enc Try.prog Try.f5 false true false false) := by
  refine returnsInHanded_of_change (C := Try.checked) own_starLate started (by kernel_rfl) Try.func5
    (ChangeSpec.witness6 (enc := enc) (C := Try.checked) false ⟨#[], #[.int .i64 0, .int .i64 0, .agg #[.int .i64 0, .int .i64 0, .int .i64 0, .int .i64 0, .int .i64 0, .int .i64 0, .int .i64 0, .int .i64 0]], []⟩ 8 (by kernel_rfl) (by kernel_rfl) (by kernel_rfl) (by kernel_rfl)) ?_
  intro W base args ds gs before hval0 hW hcnd _
  have hval : ∀ (j : Nat) t v, Try.f5.params[j]? = some t → args[j]? = some v → Value.okWide Try.prog W .any base t v := hval0
  have hW' := hW
  obtain ⟨p, q, hA0, hV, rfl, hfz, hnd⟩ := hW
  have hA : DataW.TrodAll enc Try.prog W 0 (fun _ => true) true Try.f5.params.toList args.toList ds p := hA0
  rw [Try.params5] at hA hval
  obtain ⟨v0, vs0, d0, ds0, p0, q0, hargs, rfl, rfl, h0, r0⟩ := trodAll_cons hA
  obtain ⟨v1, vs1, d1, ds1, p1, q1, rfl, rfl, rfl, h1, r1⟩ := trodAll_cons r0
  obtain ⟨v2, vs2, d2, ds2, p2, q2, rfl, rfl, rfl, h2, r2⟩ := trodAll_cons r1
  obtain ⟨rfl, rfl, rfl⟩ := trodAll_nil r2
  obtain rfl : args = #[v0, v1, v2] := by cases args; simp_all
  obtain ⟨rfl, rfl⟩ := trodVars_none hV
  obtain ⟨a0, rfl, rfl, rfl, w0⟩ := open_int Try.underlying3 (hval 0 3 v0 rfl rfl) h0
  obtain ⟨a1, rfl, rfl, rfl, w1⟩ := open_int Try.underlying3 (hval 1 3 v1 rfl rfl) h1
  obtain ⟨y2_0, y2_1, y2_2, y2_3, y2_4, y2_5, y2_6, y2_7, rfl, s2⟩ := sees_ints8 Try.underlying32 (by kernel_rfl) Try.underlying3 (by kernel_rfl) (hval 2 32 v2 rfl rfl) h2
  have k2 := h2
  have lt2 : ∀ x ∈ p2, x.block < W.heap.size := by obtain ⟨m, hm⟩ := k2; exact DataW.trod_lt m _ _ _ hm
  clear hA0 hval0
  refine (walk_starLate a0 a1 y2_0 y2_1 y2_2 y2_3 y2_4 y2_5 y2_6 y2_7 W (bounds_i64 w0) (bounds_i64 w1) s2).mono fun e W' ⟨he, bel⟩ => ?_
  subst he
  exact ⟨_, rfl, _, _, _, [], _, [], hW', trodAll_mk1 (shut_bool Try.underlying4 _), (trodAll_cons_mk (shut_int Try.underlying3 w0) (trodAll_cons_mk (shut_int Try.underlying3 w1) (trodAll_cons_mk (Below.trod laidOut_starLate (by kernel_rfl) (of_decide_eq_true (by kernel_rfl)) k2 bel lt2) trodAll_mk0))), rfl, bel.frame _, fun h => by cases h⟩

theorem over_starLate : Rows.starLateRow.holds Try.pinned (OpenSpec.ofChange Rows.starLateSpec) :=
  OpenClaim.holds_of_wide 5 Try.f5 rfl rfl rfl rfl rfl rfl rfl ⟨rfl, rfl, rfl, rfl, rfl⟩ rfl rfl rfl rfl rfl (by kernel_rfl) Try.func5 (by kernel_rfl)
    (of_decide_eq_true (by kernel_rfl)) (by unfold Func.isWrapper; first | (rw [if_pos (by decide +kernel)]; kernel_rfl) | (rw [if_neg (by decide +kernel)]; exact ⟨rfl, rfl⟩))
    (fun os started H enc _ => lifted_starLate os started H enc)

theorem proved_starLate : Rows.StarLateSaid := over_starLate
end Go.Proofs.Ytfnolnmdhppnmaa
