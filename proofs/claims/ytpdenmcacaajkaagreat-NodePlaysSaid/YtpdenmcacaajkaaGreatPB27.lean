/- Texts NdR in one. For what each says in front of its theorems. -/
import Derived.Test.YtpdenmcacaajkaaGreatPB26
/-! ### NdR -/
namespace Go.Proofs.YtpdenmcacaajkaaGreat
open Go.RowKit
open Fr (St F)

/-- The first frame that fits. -/
def Fst (w : World) (own : St) (T : F → Bool) (h : Hn) (e : Ending) (w' : World) : Prop :=
  match ((NM.rows h).find? fun l => decide (Fr.err l own = 0) && T (Fr.res l own)) with
  | some l => ∃ v, e = .returned (.tuple #[frV (Fr.res l own) v, .bool true]) ∧ OwnsL w' w.heap.size v (Fr.res l own).d ∧ Below w.heap.size w w'
  | none => e = .returned (.tuple #[frV Fr.zero (.slice none 0 0), .bool false]) ∧ Below w.heap.size w w'
def hitB (own : St) (T : F → Bool) (a : Int) (l : List Int) : Bool := decide (a = 2) && (decide (Fr.err l own = 0) && T (Fr.res l own))
section
variable {w w' : World} {own : St} {T : F → Bool} {h : Hn} {e : Ending}
theorem find_0 (h0 : hitB own T h.a h.x = true) : ((NM.rows h).find? fun l => decide (Fr.err l own = 0) && T (Fr.res l own)) = some h.x := by
  unfold hitB at h0
  simp only [Bool.and_eq_true, decide_eq_true_eq] at h0
  unfold NM.rows
  rw [if_pos h0.1, List.cons_append, List.find?_cons_of_pos (by simp [h0.2.1, h0.2.2])]
theorem rows_tail (h0 : hitB own T h.a h.x = false) : ((NM.rows h).find? fun l => decide (Fr.err l own = 0) && T (Fr.res l own)) = ((if h.b = 2 then [h.y] else []).find? fun l => decide (Fr.err l own = 0) && T (Fr.res l own)) := by
  unfold hitB at h0
  unfold NM.rows
  by_cases ha : h.a = 2
  · rw [decide_eq_true ha, Bool.true_and] at h0
    rw [if_pos ha, List.cons_append, List.find?_cons_of_neg (by rw [h0]; decide), List.nil_append]
  · rw [if_neg ha, List.nil_append]
theorem find_1 (h0 : hitB own T h.a h.x = false) (h1 : hitB own T h.b h.y = true) : ((NM.rows h).find? fun l => decide (Fr.err l own = 0) && T (Fr.res l own)) = some h.y := by
  rw [rows_tail h0]
  unfold hitB at h1
  simp only [Bool.and_eq_true, decide_eq_true_eq] at h1
  rw [if_pos h1.1, List.find?_cons_of_pos (by simp [h1.2.1, h1.2.2])]
theorem find_no (h0 : hitB own T h.a h.x = false) (h1 : hitB own T h.b h.y = false) : ((NM.rows h).find? fun l => decide (Fr.err l own = 0) && T (Fr.res l own)) = none := by
  rw [rows_tail h0]
  unfold hitB at h1
  by_cases hb : h.b = 2
  · rw [decide_eq_true hb, Bool.true_and] at h1
    rw [if_pos hb, List.find?_cons_of_neg (by rw [h1]; decide)]
    rfl
  · rw [if_neg hb]
    rfl
theorem fst_0 (h0 : hitB own T h.a h.x = true) (hr : ∃ v, e = .returned (.tuple #[frV (Fr.res h.x own) v, .bool true]) ∧ OwnsL w' w.heap.size v (Fr.res h.x own).d ∧ Below w.heap.size w w') : Fst w own T h e w' := by
  unfold Fst; rw [find_0 h0]; exact hr
theorem fst_1 (h0 : hitB own T h.a h.x = false) (h1 : hitB own T h.b h.y = true) (hr : ∃ v, e = .returned (.tuple #[frV (Fr.res h.y own) v, .bool true]) ∧ OwnsL w' w.heap.size v (Fr.res h.y own).d ∧ Below w.heap.size w w') : Fst w own T h e w' := by
  unfold Fst; rw [find_1 h0 h1]; exact hr
theorem fst_no (h0 : hitB own T h.a h.x = false) (h1 : hitB own T h.b h.y = false) (hr : e = .returned (.tuple #[frV Fr.zero (.slice none 0 0), .bool false]) ∧ Below w.heap.size w w') : Fst w own T h e w' := by
  unfold Fst; rw [find_no h0 h1]; exact hr
end
set_option maxRecDepth 100000 in
set_option maxHeartbeats 8000000 in
theorem firstJ_nd (b : Bool) (G : Nat → Prop) (g : Nat) (m : NM) (h : Hn) (vx vy : Value) (own : St) (w : World) (hx : SeesL w w.heap.size vx h.x) (bx : bytesL h.x) (hy : SeesL w w.heap.size vy h.y) (by_ : bytesL h.y) (hm : NA b G w g m) :
    Calls Tryz.prog 118 #[hdV h vx vy, stV own, .func (.func 119) #[.pointer (some ⟨g, 0, none⟩)] #[]] w (Fst w own (fun f => decide (m.mayJ f)) h) := by
  have HT : ∀ f v W, Below w.heap.size w W → Hid (Calls Tryz.prog 119 #[.pointer (some ⟨g, 0, none⟩), frV f v] W fun e w' => e = .returned (.bool ((fun f => decide (m.mayJ f)) f)) ∧ Below W.heap.size W w') := fun f v W hW => Lib.hid (mayJoin_nd b G g m f v W (hm.below hW))
  have HX := fun W (hW : Below w.heap.size w W) => Lib.hid (decode_dev vx h.x own W ((hx.below hW).more hW.size) bx)
  have HY := fun W (hW : Below w.heap.size w W) => Lib.hid (decode_dev vy h.y own W ((hy.below hW).more hW.size) by_)
  have F0 := fun e w' => @fst_0 w w' own (fun f => decide (m.mayJ f)) h e
  have F1 := fun e w' => @fst_1 w w' own (fun f => decide (m.mayJ f)) h e
  have FN := fun e w' => @fst_no w w' own (fun f => decide (m.mayJ f)) h e
  unfold Dec at HX HY
  generalize hTT : (fun f => decide (m.mayJ f)) = T at *
  clear hTT hm
  generalize Fst w own T h = D at *
  obtain ⟨Ax, cx, rfl, -⟩ := hx.at_
  obtain ⟨Ay, cy, rfl, -⟩ := hy.at_
  obtain ⟨a, b', x, y, of⟩ := h
  unfold stV at HX HY ⊢
  unfold hdV
  simp only at HX HY F0 F1 FN ⊢
  clear hx hy bx by_
  go_enter Tryz.func118, Tryz.ntmps118
  go_wp2_with fail
  go_loopw [24] (fun i wr => ∃ k : Nat, k ≤ 2 ∧ i = .int .i64 k ∧ (0 < k → hitB own T a x = false) ∧ (1 < k → hitB own T b' y = false) ∧ Below w.heap.size w wr ∧ Blk wr (w.heap.size + 1) #[.int .i64 own.r, .int .i64 own.s, .int .i64 own.m] 101 ∧ Blk wr (w.heap.size + 2) #[.int .i64 0, .int .i64 0, .int .i64 0, .int .i64 0, .slice none 0 0] 137 ∧ Blk wr (w.heap.size + 3) #[.int .i64 a, .slice Ax x.length cx, .int .i64 b', .slice Ay y.length cy] 197) (fun i _ => 2 - (intOf i).toNat)
  case atStart => exact ⟨0, by omega, rfl, fun h => absurd h (by omega), fun h => absurd h (by omega), ((((Below.refl w.heap.size w).alloc (Nat.le_refl _) _).alloc (by simp) _).alloc (by simp; omega) _).alloc (by simp; omega) _, (((Blk.new _ _ (by simp) _ _).alloc _).alloc _), ((Blk.new _ _ (by simp) _ _).alloc _), (Blk.new _ _ (by simp) _ _)⟩
  case round =>
    obtain ⟨k, hk, rfl, n0, n1, b0, hO, hR, hS⟩ := hrel
    rcases (by omega : k = 0 ∨ k = 1 ∨ k = 2) with rfl | rfl | rfl
    · have s0 := hS.cell 0 (x := .int .i64 a) rfl
      have s1 := hS.cell 1 (x := .slice Ax x.length cx) rfl
      by_cases ha : a = 2
      case neg =>
        have q0 : (a != 2) = true := by simpa using ha
        have hn : hitB own T a x = false := by unfold hitB; rw [decide_eq_false ha, Bool.false_and]
        have b1 := Lib.hid (b0.alloc b0.size (.cells #[.int .i64 a, .slice Ax x.length cx] 197))
        have H1 := Lib.hid (And.intro (hO.alloc (.cells #[.int .i64 a, .slice Ax x.length cx] 197)) (And.intro (hR.alloc (.cells #[.int .i64 a, .slice Ax x.length cx] 197)) (hS.alloc (.cells #[.int .i64 a, .slice Ax x.length cx] 197))))
        clear HX HY HT F0 F1 FN hO hR hS b0 ha
        go_wp2
        go_roundw
        case rel => exact ⟨1, by omega, by go_num, fun _ => hn, fun h => absurd h (by omega), b1.out, H1.out.1, H1.out.2.1, H1.out.2.2⟩
        case measure => simp [intOf]
      case pos =>
        have hh : hitB own T a x = (decide (Fr.err x own = 0) && T (Fr.res x own)) := by unfold hitB; rw [decide_eq_true ha, Bool.true_and]
        generalize hitB own T a x = hb at *
        subst ha
        have b1 := b0.alloc b0.size (.cells #[.int .i64 2, .slice Ax x.length cx] 197)
        have hO1 := hO.alloc (.cells #[.int .i64 2, .slice Ax x.length cx] 197)
        have hR1 := hR.alloc (.cells #[.int .i64 2, .slice Ax x.length cx] 197)
        have hS1 := hS.alloc (.cells #[.int .i64 2, .slice Ax x.length cx] 197)
        have p0 := hO1.cell 0 (x := .int .i64 own.r) rfl
        have p1 := hO1.cell 1 (x := .int .i64 own.s) rfl
        have p2 := hO1.cell 2 (x := .int .i64 own.m) rfl
        have hZ := b0.size
        have hS4 := hS.lt
        clear hO hR hS b0
        go_wp2_with fail
        refine (HX _ b1).out.mono ?_
        rintro _ w2 ⟨v, rfl, hv, b2⟩
        have hO2 := hO1.below b2 hO1.lt
        have hR2 := hR1.below b2 hR1.lt
        have hS2 := hS1.below b2 hS1.lt
        have b3 := b1.trans (b2.mono b1.size)
        clear FN F1 HY HX hO1 hR1 hS1 b1 b2 p0 p1 p2 s0 s1
        generalize Fr.err x own = er at *
        generalize Fr.res x own = fr at *
        obtain ⟨fk, ⟨f_r, f_s, f_m⟩, fd⟩ := fr
        obtain ⟨A2, c2, rfl, -⟩ := hv.sees.at_
        simp only at hv F0
        have hX := Blk.new w2 w2.heap.size rfl #[.int .i64 fk, .int .i64 f_r, .int .i64 f_s, .int .i64 f_m, .slice A2 fd.length c2] 137
        have hO3 := hO2.alloc (.cells #[.int .i64 fk, .int .i64 f_r, .int .i64 f_s, .int .i64 f_m, .slice A2 fd.length c2] 137)
        have hR3 := hR2.alloc (.cells #[.int .i64 fk, .int .i64 f_r, .int .i64 f_s, .int .i64 f_m, .slice A2 fd.length c2] 137)
        have hS3 := hS2.alloc (.cells #[.int .i64 fk, .int .i64 f_r, .int .i64 f_s, .int .i64 f_m, .slice A2 fd.length c2] 137)
        have b4 := b3.alloc b3.size (.cells #[.int .i64 fk, .int .i64 f_r, .int .i64 f_s, .int .i64 f_m, .slice A2 fd.length c2] 137)
        have hv3 := hv.alloc (.cells #[.int .i64 fk, .int .i64 f_r, .int .i64 f_s, .int .i64 f_m, .slice A2 fd.length c2] 137)
        clear hO2 hR2 hS2 hv
        unfold frV
        simp only
        by_cases he : er = 0
        case neg =>
          have hn : hb = false := by rw [hh, decide_eq_false he, Bool.false_and]
          have q0 : (er == 0) = false := by rw [beq_eq_false_iff_ne]; exact he
          have HH := Lib.hid (And.intro b4 (And.intro hO3 (And.intro hR3 hS3)))
          have HN := Lib.hid hn
          clear HT F0 hh he hn hX hO3 hR3 hS3 b4 b3 hv3
          go_wp2
          go_roundw
          case rel => exact ⟨1, by omega, by go_num, fun _ => HN.out, fun h => absurd h (by omega), HH.out.1, HH.out.2.1, HH.out.2.2.1, HH.out.2.2.2⟩
          case measure => simp [intOf]
        case pos =>
          subst he
          rw [decide_eq_true rfl, Bool.true_and] at hh
          have y0 := hX.cell 0 (x := .int .i64 fk) rfl
          have y1 := hX.cell 1 (x := .int .i64 f_r) rfl
          have y2 := hX.cell 2 (x := .int .i64 f_s) rfl
          have y3 := hX.cell 3 (x := .int .i64 f_m) rfl
          have y4 := hX.cell 4 (x := .slice A2 fd.length c2) rfl
          have HT := HT ⟨fk, ⟨f_r, f_s, f_m⟩, fd⟩ (.slice A2 fd.length c2) _ b4
          generalize T ⟨fk, ⟨f_r, f_s, f_m⟩, fd⟩ = tf at *
          unfold frV at HT F0
          simp only at HT F0
          go_wp2_with fail
          refine HT.out.mono ?_
          rintro _ w5 ⟨rfl, b5⟩
          have hO5 := hO3.below b5 hO3.lt
          have hR5 := hR3.below b5 hR3.lt
          have hS5 := hS3.below b5 hS3.lt
          have hX5 := hX.below b5 hX.lt
          have hv5 := hv3.below b5 (by first | exact Nat.le_refl _ | simp)
          have b6 := b4.trans (b5.mono b4.size)
          clear hO3 hR3 hS3 hX hv3 b4 b5 HT y0 y1 y2 y3 y4
          cases tf
          · have HH := Lib.hid (And.intro b6 (And.intro hO5 (And.intro hR5 hS5)))
            have HN := Lib.hid hh
            clear F0 hh hX5 hO5 hR5 hS5 b6 hv5
            go_wp2
            go_roundw
            case rel => exact ⟨1, by omega, by go_num, fun _ => HN.out, fun h => absurd h (by omega), HH.out.1, HH.out.2.1, HH.out.2.2.1, HH.out.2.2.2⟩
            case measure => simp [intOf]
          · have y0 := hX5.cell 0 (x := .int .i64 fk) rfl
            have y1 := hX5.cell 1 (x := .int .i64 f_r) rfl
            have y2 := hX5.cell 2 (x := .int .i64 f_s) rfl
            have y3 := hX5.cell 3 (x := .int .i64 f_m) rfl
            have y4 := hX5.cell 4 (x := .slice A2 fd.length c2) rfl
            have r0 := hR5.cell 0 (x := .int .i64 0) rfl
            have r1 := hR5.cell 1 (x := .int .i64 0) rfl
            have r2 := hR5.cell 2 (x := .int .i64 0) rfl
            have r3 := hR5.cell 3 (x := .int .i64 0) rfl
            have r4 := hR5.cell 4 (x := .slice none 0 0) rfl
            have f0 := hR5.frozen 0
            have f1 := hR5.frozen 1
            have f2 := hR5.frozen 2
            have f3 := hR5.frozen 3
            have f4 := hR5.frozen 4
            have hvf := Lib.hid (((((hv5.setFar ⟨w.heap.size + 2, 0, none⟩ (.int .i64 fk) (by simp; omega)).setFar ⟨w.heap.size + 2, 1, none⟩ (.int .i64 f_r) (by simp; omega)).setFar ⟨w.heap.size + 2, 2, none⟩ (.int .i64 f_s) (by simp; omega)).setFar ⟨w.heap.size + 2, 3, none⟩ (.int .i64 f_m) (by simp; omega)).setFar ⟨w.heap.size + 2, 4, none⟩ (.slice A2 fd.length c2) (by simp; omega))
            have hbf := Lib.hid (((((b6.setCell (p := ⟨w.heap.size + 2, 0, none⟩) (by simp) (.int .i64 fk)).setCell (p := ⟨w.heap.size + 2, 1, none⟩) (by simp) (.int .i64 f_r)).setCell (p := ⟨w.heap.size + 2, 2, none⟩) (by simp) (.int .i64 f_s)).setCell (p := ⟨w.heap.size + 2, 3, none⟩) (by simp) (.int .i64 f_m)).setCell (p := ⟨w.heap.size + 2, 4, none⟩) (by simp) (.slice A2 fd.length c2))
            have HF := Lib.hid (fun e w' h => F0 e w' hh h)
            clear F0 hh hX5 hO5 hR5 hS5 b6 hv5
            go_wp2
            refine bodyPost_ret (v := .tuple #[.agg #[.int .i64 fk, .int .i64 f_r, .int .i64 f_s, .int .i64 f_m, .slice A2 fd.length c2], .bool true]) ?_ rfl (HF.out _ _ ⟨_, rfl, hvf.out.base (by simp; omega), hbf.out⟩)
            rw [results_cell_tmp rfl]
            go_simp
    · have n0 := n0 (by omega)
      have F1 := fun e w' h => F1 e w' n0 h
      have s0 := hS.cell 2 (x := .int .i64 b') rfl
      have s1 := hS.cell 3 (x := .slice Ay y.length cy) rfl
      by_cases ha : b' = 2
      case neg =>
        have q0 : (b' != 2) = true := by simpa using ha
        have hn : hitB own T b' y = false := by unfold hitB; rw [decide_eq_false ha, Bool.false_and]
        have b1 := Lib.hid (b0.alloc b0.size (.cells #[.int .i64 b', .slice Ay y.length cy] 197))
        have H1 := Lib.hid (And.intro (hO.alloc (.cells #[.int .i64 b', .slice Ay y.length cy] 197)) (And.intro (hR.alloc (.cells #[.int .i64 b', .slice Ay y.length cy] 197)) (hS.alloc (.cells #[.int .i64 b', .slice Ay y.length cy] 197))))
        clear HX HY HT F0 F1 FN hO hR hS b0 ha
        go_wp2
        go_roundw
        case rel => exact ⟨2, by omega, by go_num, fun _ => n0, fun _ => hn, b1.out, H1.out.1, H1.out.2.1, H1.out.2.2⟩
        case measure => simp [intOf]
      case pos =>
        have hh : hitB own T b' y = (decide (Fr.err y own = 0) && T (Fr.res y own)) := by unfold hitB; rw [decide_eq_true ha, Bool.true_and]
        generalize hitB own T b' y = hb at *
        subst ha
        have b1 := b0.alloc b0.size (.cells #[.int .i64 2, .slice Ay y.length cy] 197)
        have hO1 := hO.alloc (.cells #[.int .i64 2, .slice Ay y.length cy] 197)
        have hR1 := hR.alloc (.cells #[.int .i64 2, .slice Ay y.length cy] 197)
        have hS1 := hS.alloc (.cells #[.int .i64 2, .slice Ay y.length cy] 197)
        have p0 := hO1.cell 0 (x := .int .i64 own.r) rfl
        have p1 := hO1.cell 1 (x := .int .i64 own.s) rfl
        have p2 := hO1.cell 2 (x := .int .i64 own.m) rfl
        have hZ := b0.size
        have hS4 := hS.lt
        clear hO hR hS b0
        go_wp2_with fail
        refine (HY _ b1).out.mono ?_
        rintro _ w2 ⟨v, rfl, hv, b2⟩
        have hO2 := hO1.below b2 hO1.lt
        have hR2 := hR1.below b2 hR1.lt
        have hS2 := hS1.below b2 hS1.lt
        have b3 := b1.trans (b2.mono b1.size)
        clear FN F0 HX HY hO1 hR1 hS1 b1 b2 p0 p1 p2 s0 s1
        generalize Fr.err y own = er at *
        generalize Fr.res y own = fr at *
        obtain ⟨fk, ⟨f_r, f_s, f_m⟩, fd⟩ := fr
        obtain ⟨A2, c2, rfl, -⟩ := hv.sees.at_
        simp only at hv F1
        have hX := Blk.new w2 w2.heap.size rfl #[.int .i64 fk, .int .i64 f_r, .int .i64 f_s, .int .i64 f_m, .slice A2 fd.length c2] 137
        have hO3 := hO2.alloc (.cells #[.int .i64 fk, .int .i64 f_r, .int .i64 f_s, .int .i64 f_m, .slice A2 fd.length c2] 137)
        have hR3 := hR2.alloc (.cells #[.int .i64 fk, .int .i64 f_r, .int .i64 f_s, .int .i64 f_m, .slice A2 fd.length c2] 137)
        have hS3 := hS2.alloc (.cells #[.int .i64 fk, .int .i64 f_r, .int .i64 f_s, .int .i64 f_m, .slice A2 fd.length c2] 137)
        have b4 := b3.alloc b3.size (.cells #[.int .i64 fk, .int .i64 f_r, .int .i64 f_s, .int .i64 f_m, .slice A2 fd.length c2] 137)
        have hv3 := hv.alloc (.cells #[.int .i64 fk, .int .i64 f_r, .int .i64 f_s, .int .i64 f_m, .slice A2 fd.length c2] 137)
        clear hO2 hR2 hS2 hv
        unfold frV
        simp only
        by_cases he : er = 0
        case neg =>
          have hn : hb = false := by rw [hh, decide_eq_false he, Bool.false_and]
          have q0 : (er == 0) = false := by rw [beq_eq_false_iff_ne]; exact he
          have HH := Lib.hid (And.intro b4 (And.intro hO3 (And.intro hR3 hS3)))
          have HN := Lib.hid hn
          clear HT F1 hh he hn hX hO3 hR3 hS3 b4 b3 hv3
          go_wp2
          go_roundw
          case rel => exact ⟨2, by omega, by go_num, fun _ => n0, fun _ => HN.out, HH.out.1, HH.out.2.1, HH.out.2.2.1, HH.out.2.2.2⟩
          case measure => simp [intOf]
        case pos =>
          subst he
          rw [decide_eq_true rfl, Bool.true_and] at hh
          have y0 := hX.cell 0 (x := .int .i64 fk) rfl
          have y1 := hX.cell 1 (x := .int .i64 f_r) rfl
          have y2 := hX.cell 2 (x := .int .i64 f_s) rfl
          have y3 := hX.cell 3 (x := .int .i64 f_m) rfl
          have y4 := hX.cell 4 (x := .slice A2 fd.length c2) rfl
          have HT := HT ⟨fk, ⟨f_r, f_s, f_m⟩, fd⟩ (.slice A2 fd.length c2) _ b4
          generalize T ⟨fk, ⟨f_r, f_s, f_m⟩, fd⟩ = tf at *
          unfold frV at HT F1
          simp only at HT F1
          go_wp2_with fail
          refine HT.out.mono ?_
          rintro _ w5 ⟨rfl, b5⟩
          have hO5 := hO3.below b5 hO3.lt
          have hR5 := hR3.below b5 hR3.lt
          have hS5 := hS3.below b5 hS3.lt
          have hX5 := hX.below b5 hX.lt
          have hv5 := hv3.below b5 (by first | exact Nat.le_refl _ | simp)
          have b6 := b4.trans (b5.mono b4.size)
          clear hO3 hR3 hS3 hX hv3 b4 b5 HT y0 y1 y2 y3 y4
          cases tf
          · have HH := Lib.hid (And.intro b6 (And.intro hO5 (And.intro hR5 hS5)))
            have HN := Lib.hid hh
            clear F1 hh hX5 hO5 hR5 hS5 b6 hv5
            go_wp2
            go_roundw
            case rel => exact ⟨2, by omega, by go_num, fun _ => n0, fun _ => HN.out, HH.out.1, HH.out.2.1, HH.out.2.2.1, HH.out.2.2.2⟩
            case measure => simp [intOf]
          · have y0 := hX5.cell 0 (x := .int .i64 fk) rfl
            have y1 := hX5.cell 1 (x := .int .i64 f_r) rfl
            have y2 := hX5.cell 2 (x := .int .i64 f_s) rfl
            have y3 := hX5.cell 3 (x := .int .i64 f_m) rfl
            have y4 := hX5.cell 4 (x := .slice A2 fd.length c2) rfl
            have r0 := hR5.cell 0 (x := .int .i64 0) rfl
            have r1 := hR5.cell 1 (x := .int .i64 0) rfl
            have r2 := hR5.cell 2 (x := .int .i64 0) rfl
            have r3 := hR5.cell 3 (x := .int .i64 0) rfl
            have r4 := hR5.cell 4 (x := .slice none 0 0) rfl
            have f0 := hR5.frozen 0
            have f1 := hR5.frozen 1
            have f2 := hR5.frozen 2
            have f3 := hR5.frozen 3
            have f4 := hR5.frozen 4
            have hvf := Lib.hid (((((hv5.setFar ⟨w.heap.size + 2, 0, none⟩ (.int .i64 fk) (by simp; omega)).setFar ⟨w.heap.size + 2, 1, none⟩ (.int .i64 f_r) (by simp; omega)).setFar ⟨w.heap.size + 2, 2, none⟩ (.int .i64 f_s) (by simp; omega)).setFar ⟨w.heap.size + 2, 3, none⟩ (.int .i64 f_m) (by simp; omega)).setFar ⟨w.heap.size + 2, 4, none⟩ (.slice A2 fd.length c2) (by simp; omega))
            have hbf := Lib.hid (((((b6.setCell (p := ⟨w.heap.size + 2, 0, none⟩) (by simp) (.int .i64 fk)).setCell (p := ⟨w.heap.size + 2, 1, none⟩) (by simp) (.int .i64 f_r)).setCell (p := ⟨w.heap.size + 2, 2, none⟩) (by simp) (.int .i64 f_s)).setCell (p := ⟨w.heap.size + 2, 3, none⟩) (by simp) (.int .i64 f_m)).setCell (p := ⟨w.heap.size + 2, 4, none⟩) (by simp) (.slice A2 fd.length c2))
            have HF := Lib.hid (fun e w' h => F1 e w' hh h)
            clear F1 hh hX5 hO5 hR5 hS5 b6 hv5
            go_wp2
            refine bodyPost_ret (v := .tuple #[.agg #[.int .i64 fk, .int .i64 f_r, .int .i64 f_s, .int .i64 f_m, .slice A2 fd.length c2], .bool true]) ?_ rfl (HF.out _ _ ⟨_, rfl, hvf.out.base (by simp; omega), hbf.out⟩)
            rw [results_cell_tmp rfl]
            go_simp
    · have n0 := n0 (by omega)
      have n1 := n1 (by omega)
      have FN := fun e w' => FN e w' n0 n1
      clear HX HY HT F0 F1 hO hS
      have r0 := hR.cell 0 (x := .int .i64 0) rfl
      have r1 := hR.cell 1 (x := .int .i64 0) rfl
      have r2 := hR.cell 2 (x := .int .i64 0) rfl
      have r3 := hR.cell 3 (x := .int .i64 0) rfl
      have r4 := hR.cell 4 (x := .slice none 0 0) rfl
      have f0 := hR.frozen 0
      have f1 := hR.frozen 1
      have f2 := hR.frozen 2
      have f3 := hR.frozen 3
      have f4 := hR.frozen 4
      go_wp2
      refine bodyPost_ret (v := .tuple #[.agg #[.int .i64 0, .int .i64 0, .int .i64 0, .int .i64 0, .slice none 0 0], .bool false]) ?_ rfl (FN _ _ ⟨rfl, ?_⟩)
      · rw [results_cell_tmp rfl]
        go_simp
      · (repeat' (first | exact b0 | (with_reducible refine Below.setCell ?_ ?_ _) | omega | (simp; omega)))
set_option maxRecDepth 100000 in
set_option maxHeartbeats 8000000 in
theorem firstR_nd (p : Nat) (h : Hn) (vx vy : Value) (own : St) (w : World) (hx : SeesL w w.heap.size vx h.x) (bx : bytesL h.x) (hy : SeesL w w.heap.size vy h.y) (by_ : bytesL h.y) (hm : Blk w p #[.int .i64 own.r, .int .i64 own.s, .int .i64 own.m] 101) :
    Calls Tryz.prog 118 #[hdV h vx vy, stV own, .func (.func 124) #[] #[.pointer (some ⟨p, 0, none⟩)]] w (Fst w own (fun f : F => decide (f.k ≠ 3 ∧ f.st = own)) h) := by
  have HT : ∀ f v W, Below w.heap.size w W → Hid (Calls Tryz.prog 124 #[frV f v, .pointer (some ⟨p, 0, none⟩)] W fun e w' => e = .returned (.bool ((fun f : F => decide (f.k ≠ 3 ∧ f.st = own)) f)) ∧ Below W.heap.size W w') := fun f v W hW => Lib.hid (judge1_nd f v p own W (hm.below hW hm.lt))
  have HX := fun W (hW : Below w.heap.size w W) => Lib.hid (decode_dev vx h.x own W ((hx.below hW).more hW.size) bx)
  have HY := fun W (hW : Below w.heap.size w W) => Lib.hid (decode_dev vy h.y own W ((hy.below hW).more hW.size) by_)
  have F0 := fun e w' => @fst_0 w w' own (fun f : F => decide (f.k ≠ 3 ∧ f.st = own)) h e
  have F1 := fun e w' => @fst_1 w w' own (fun f : F => decide (f.k ≠ 3 ∧ f.st = own)) h e
  have FN := fun e w' => @fst_no w w' own (fun f : F => decide (f.k ≠ 3 ∧ f.st = own)) h e
  unfold Dec at HX HY
  generalize hTT : (fun f : F => decide (f.k ≠ 3 ∧ f.st = own)) = T at *
  clear hTT hm
  generalize Fst w own T h = D at *
  obtain ⟨Ax, cx, rfl, -⟩ := hx.at_
  obtain ⟨Ay, cy, rfl, -⟩ := hy.at_
  obtain ⟨a, b', x, y, of⟩ := h
  unfold stV at HX HY ⊢
  unfold hdV
  simp only at HX HY F0 F1 FN ⊢
  clear hx hy bx by_
  go_enter Tryz.func118, Tryz.ntmps118
  go_wp2_with fail
  go_loopw [24] (fun i wr => ∃ k : Nat, k ≤ 2 ∧ i = .int .i64 k ∧ (0 < k → hitB own T a x = false) ∧ (1 < k → hitB own T b' y = false) ∧ Below w.heap.size w wr ∧ Blk wr (w.heap.size + 1) #[.int .i64 own.r, .int .i64 own.s, .int .i64 own.m] 101 ∧ Blk wr (w.heap.size + 2) #[.int .i64 0, .int .i64 0, .int .i64 0, .int .i64 0, .slice none 0 0] 137 ∧ Blk wr (w.heap.size + 3) #[.int .i64 a, .slice Ax x.length cx, .int .i64 b', .slice Ay y.length cy] 197) (fun i _ => 2 - (intOf i).toNat)
  case atStart => exact ⟨0, by omega, rfl, fun h => absurd h (by omega), fun h => absurd h (by omega), ((((Below.refl w.heap.size w).alloc (Nat.le_refl _) _).alloc (by simp) _).alloc (by simp; omega) _).alloc (by simp; omega) _, (((Blk.new _ _ (by simp) _ _).alloc _).alloc _), ((Blk.new _ _ (by simp) _ _).alloc _), (Blk.new _ _ (by simp) _ _)⟩
  case round =>
    obtain ⟨k, hk, rfl, n0, n1, b0, hO, hR, hS⟩ := hrel
    rcases (by omega : k = 0 ∨ k = 1 ∨ k = 2) with rfl | rfl | rfl
    · have s0 := hS.cell 0 (x := .int .i64 a) rfl
      have s1 := hS.cell 1 (x := .slice Ax x.length cx) rfl
      by_cases ha : a = 2
      case neg =>
        have q0 : (a != 2) = true := by simpa using ha
        have hn : hitB own T a x = false := by unfold hitB; rw [decide_eq_false ha, Bool.false_and]
        have b1 := Lib.hid (b0.alloc b0.size (.cells #[.int .i64 a, .slice Ax x.length cx] 197))
        have H1 := Lib.hid (And.intro (hO.alloc (.cells #[.int .i64 a, .slice Ax x.length cx] 197)) (And.intro (hR.alloc (.cells #[.int .i64 a, .slice Ax x.length cx] 197)) (hS.alloc (.cells #[.int .i64 a, .slice Ax x.length cx] 197))))
        clear HX HY HT F0 F1 FN hO hR hS b0 ha
        go_wp2
        go_roundw
        case rel => exact ⟨1, by omega, by go_num, fun _ => hn, fun h => absurd h (by omega), b1.out, H1.out.1, H1.out.2.1, H1.out.2.2⟩
        case measure => simp [intOf]
      case pos =>
        have hh : hitB own T a x = (decide (Fr.err x own = 0) && T (Fr.res x own)) := by unfold hitB; rw [decide_eq_true ha, Bool.true_and]
        generalize hitB own T a x = hb at *
        subst ha
        have b1 := b0.alloc b0.size (.cells #[.int .i64 2, .slice Ax x.length cx] 197)
        have hO1 := hO.alloc (.cells #[.int .i64 2, .slice Ax x.length cx] 197)
        have hR1 := hR.alloc (.cells #[.int .i64 2, .slice Ax x.length cx] 197)
        have hS1 := hS.alloc (.cells #[.int .i64 2, .slice Ax x.length cx] 197)
        have p0 := hO1.cell 0 (x := .int .i64 own.r) rfl
        have p1 := hO1.cell 1 (x := .int .i64 own.s) rfl
        have p2 := hO1.cell 2 (x := .int .i64 own.m) rfl
        have hZ := b0.size
        have hS4 := hS.lt
        clear hO hR hS b0
        go_wp2_with fail
        refine (HX _ b1).out.mono ?_
        rintro _ w2 ⟨v, rfl, hv, b2⟩
        have hO2 := hO1.below b2 hO1.lt
        have hR2 := hR1.below b2 hR1.lt
        have hS2 := hS1.below b2 hS1.lt
        have b3 := b1.trans (b2.mono b1.size)
        clear FN F1 HY HX hO1 hR1 hS1 b1 b2 p0 p1 p2 s0 s1
        generalize Fr.err x own = er at *
        generalize Fr.res x own = fr at *
        obtain ⟨fk, ⟨f_r, f_s, f_m⟩, fd⟩ := fr
        obtain ⟨A2, c2, rfl, -⟩ := hv.sees.at_
        simp only at hv F0
        have hX := Blk.new w2 w2.heap.size rfl #[.int .i64 fk, .int .i64 f_r, .int .i64 f_s, .int .i64 f_m, .slice A2 fd.length c2] 137
        have hO3 := hO2.alloc (.cells #[.int .i64 fk, .int .i64 f_r, .int .i64 f_s, .int .i64 f_m, .slice A2 fd.length c2] 137)
        have hR3 := hR2.alloc (.cells #[.int .i64 fk, .int .i64 f_r, .int .i64 f_s, .int .i64 f_m, .slice A2 fd.length c2] 137)
        have hS3 := hS2.alloc (.cells #[.int .i64 fk, .int .i64 f_r, .int .i64 f_s, .int .i64 f_m, .slice A2 fd.length c2] 137)
        have b4 := b3.alloc b3.size (.cells #[.int .i64 fk, .int .i64 f_r, .int .i64 f_s, .int .i64 f_m, .slice A2 fd.length c2] 137)
        have hv3 := hv.alloc (.cells #[.int .i64 fk, .int .i64 f_r, .int .i64 f_s, .int .i64 f_m, .slice A2 fd.length c2] 137)
        clear hO2 hR2 hS2 hv
        unfold frV
        simp only
        by_cases he : er = 0
        case neg =>
          have hn : hb = false := by rw [hh, decide_eq_false he, Bool.false_and]
          have q0 : (er == 0) = false := by rw [beq_eq_false_iff_ne]; exact he
          have HH := Lib.hid (And.intro b4 (And.intro hO3 (And.intro hR3 hS3)))
          have HN := Lib.hid hn
          clear HT F0 hh he hn hX hO3 hR3 hS3 b4 b3 hv3
          go_wp2
          go_roundw
          case rel => exact ⟨1, by omega, by go_num, fun _ => HN.out, fun h => absurd h (by omega), HH.out.1, HH.out.2.1, HH.out.2.2.1, HH.out.2.2.2⟩
          case measure => simp [intOf]
        case pos =>
          subst he
          rw [decide_eq_true rfl, Bool.true_and] at hh
          have y0 := hX.cell 0 (x := .int .i64 fk) rfl
          have y1 := hX.cell 1 (x := .int .i64 f_r) rfl
          have y2 := hX.cell 2 (x := .int .i64 f_s) rfl
          have y3 := hX.cell 3 (x := .int .i64 f_m) rfl
          have y4 := hX.cell 4 (x := .slice A2 fd.length c2) rfl
          have HT := HT ⟨fk, ⟨f_r, f_s, f_m⟩, fd⟩ (.slice A2 fd.length c2) _ b4
          generalize T ⟨fk, ⟨f_r, f_s, f_m⟩, fd⟩ = tf at *
          unfold frV at HT F0
          simp only at HT F0
          go_wp2_with fail
          refine HT.out.mono ?_
          rintro _ w5 ⟨rfl, b5⟩
          have hO5 := hO3.below b5 hO3.lt
          have hR5 := hR3.below b5 hR3.lt
          have hS5 := hS3.below b5 hS3.lt
          have hX5 := hX.below b5 hX.lt
          have hv5 := hv3.below b5 (by first | exact Nat.le_refl _ | simp)
          have b6 := b4.trans (b5.mono b4.size)
          clear hO3 hR3 hS3 hX hv3 b4 b5 HT y0 y1 y2 y3 y4
          cases tf
          · have HH := Lib.hid (And.intro b6 (And.intro hO5 (And.intro hR5 hS5)))
            have HN := Lib.hid hh
            clear F0 hh hX5 hO5 hR5 hS5 b6 hv5
            go_wp2
            go_roundw
            case rel => exact ⟨1, by omega, by go_num, fun _ => HN.out, fun h => absurd h (by omega), HH.out.1, HH.out.2.1, HH.out.2.2.1, HH.out.2.2.2⟩
            case measure => simp [intOf]
          · have y0 := hX5.cell 0 (x := .int .i64 fk) rfl
            have y1 := hX5.cell 1 (x := .int .i64 f_r) rfl
            have y2 := hX5.cell 2 (x := .int .i64 f_s) rfl
            have y3 := hX5.cell 3 (x := .int .i64 f_m) rfl
            have y4 := hX5.cell 4 (x := .slice A2 fd.length c2) rfl
            have r0 := hR5.cell 0 (x := .int .i64 0) rfl
            have r1 := hR5.cell 1 (x := .int .i64 0) rfl
            have r2 := hR5.cell 2 (x := .int .i64 0) rfl
            have r3 := hR5.cell 3 (x := .int .i64 0) rfl
            have r4 := hR5.cell 4 (x := .slice none 0 0) rfl
            have f0 := hR5.frozen 0
            have f1 := hR5.frozen 1
            have f2 := hR5.frozen 2
            have f3 := hR5.frozen 3
            have f4 := hR5.frozen 4
            have hvf := Lib.hid (((((hv5.setFar ⟨w.heap.size + 2, 0, none⟩ (.int .i64 fk) (by simp; omega)).setFar ⟨w.heap.size + 2, 1, none⟩ (.int .i64 f_r) (by simp; omega)).setFar ⟨w.heap.size + 2, 2, none⟩ (.int .i64 f_s) (by simp; omega)).setFar ⟨w.heap.size + 2, 3, none⟩ (.int .i64 f_m) (by simp; omega)).setFar ⟨w.heap.size + 2, 4, none⟩ (.slice A2 fd.length c2) (by simp; omega))
            have hbf := Lib.hid (((((b6.setCell (p := ⟨w.heap.size + 2, 0, none⟩) (by simp) (.int .i64 fk)).setCell (p := ⟨w.heap.size + 2, 1, none⟩) (by simp) (.int .i64 f_r)).setCell (p := ⟨w.heap.size + 2, 2, none⟩) (by simp) (.int .i64 f_s)).setCell (p := ⟨w.heap.size + 2, 3, none⟩) (by simp) (.int .i64 f_m)).setCell (p := ⟨w.heap.size + 2, 4, none⟩) (by simp) (.slice A2 fd.length c2))
            have HF := Lib.hid (fun e w' h => F0 e w' hh h)
            clear F0 hh hX5 hO5 hR5 hS5 b6 hv5
            go_wp2
            refine bodyPost_ret (v := .tuple #[.agg #[.int .i64 fk, .int .i64 f_r, .int .i64 f_s, .int .i64 f_m, .slice A2 fd.length c2], .bool true]) ?_ rfl (HF.out _ _ ⟨_, rfl, hvf.out.base (by simp; omega), hbf.out⟩)
            rw [results_cell_tmp rfl]
            go_simp
    · have n0 := n0 (by omega)
      have F1 := fun e w' h => F1 e w' n0 h
      have s0 := hS.cell 2 (x := .int .i64 b') rfl
      have s1 := hS.cell 3 (x := .slice Ay y.length cy) rfl
      by_cases ha : b' = 2
      case neg =>
        have q0 : (b' != 2) = true := by simpa using ha
        have hn : hitB own T b' y = false := by unfold hitB; rw [decide_eq_false ha, Bool.false_and]
        have b1 := Lib.hid (b0.alloc b0.size (.cells #[.int .i64 b', .slice Ay y.length cy] 197))
        have H1 := Lib.hid (And.intro (hO.alloc (.cells #[.int .i64 b', .slice Ay y.length cy] 197)) (And.intro (hR.alloc (.cells #[.int .i64 b', .slice Ay y.length cy] 197)) (hS.alloc (.cells #[.int .i64 b', .slice Ay y.length cy] 197))))
        clear HX HY HT F0 F1 FN hO hR hS b0 ha
        go_wp2
        go_roundw
        case rel => exact ⟨2, by omega, by go_num, fun _ => n0, fun _ => hn, b1.out, H1.out.1, H1.out.2.1, H1.out.2.2⟩
        case measure => simp [intOf]
      case pos =>
        have hh : hitB own T b' y = (decide (Fr.err y own = 0) && T (Fr.res y own)) := by unfold hitB; rw [decide_eq_true ha, Bool.true_and]
        generalize hitB own T b' y = hb at *
        subst ha
        have b1 := b0.alloc b0.size (.cells #[.int .i64 2, .slice Ay y.length cy] 197)
        have hO1 := hO.alloc (.cells #[.int .i64 2, .slice Ay y.length cy] 197)
        have hR1 := hR.alloc (.cells #[.int .i64 2, .slice Ay y.length cy] 197)
        have hS1 := hS.alloc (.cells #[.int .i64 2, .slice Ay y.length cy] 197)
        have p0 := hO1.cell 0 (x := .int .i64 own.r) rfl
        have p1 := hO1.cell 1 (x := .int .i64 own.s) rfl
        have p2 := hO1.cell 2 (x := .int .i64 own.m) rfl
        have hZ := b0.size
        have hS4 := hS.lt
        clear hO hR hS b0
        go_wp2_with fail
        refine (HY _ b1).out.mono ?_
        rintro _ w2 ⟨v, rfl, hv, b2⟩
        have hO2 := hO1.below b2 hO1.lt
        have hR2 := hR1.below b2 hR1.lt
        have hS2 := hS1.below b2 hS1.lt
        have b3 := b1.trans (b2.mono b1.size)
        clear FN F0 HX HY hO1 hR1 hS1 b1 b2 p0 p1 p2 s0 s1
        generalize Fr.err y own = er at *
        generalize Fr.res y own = fr at *
        obtain ⟨fk, ⟨f_r, f_s, f_m⟩, fd⟩ := fr
        obtain ⟨A2, c2, rfl, -⟩ := hv.sees.at_
        simp only at hv F1
        have hX := Blk.new w2 w2.heap.size rfl #[.int .i64 fk, .int .i64 f_r, .int .i64 f_s, .int .i64 f_m, .slice A2 fd.length c2] 137
        have hO3 := hO2.alloc (.cells #[.int .i64 fk, .int .i64 f_r, .int .i64 f_s, .int .i64 f_m, .slice A2 fd.length c2] 137)
        have hR3 := hR2.alloc (.cells #[.int .i64 fk, .int .i64 f_r, .int .i64 f_s, .int .i64 f_m, .slice A2 fd.length c2] 137)
        have hS3 := hS2.alloc (.cells #[.int .i64 fk, .int .i64 f_r, .int .i64 f_s, .int .i64 f_m, .slice A2 fd.length c2] 137)
        have b4 := b3.alloc b3.size (.cells #[.int .i64 fk, .int .i64 f_r, .int .i64 f_s, .int .i64 f_m, .slice A2 fd.length c2] 137)
        have hv3 := hv.alloc (.cells #[.int .i64 fk, .int .i64 f_r, .int .i64 f_s, .int .i64 f_m, .slice A2 fd.length c2] 137)
        clear hO2 hR2 hS2 hv
        unfold frV
        simp only
        by_cases he : er = 0
        case neg =>
          have hn : hb = false := by rw [hh, decide_eq_false he, Bool.false_and]
          have q0 : (er == 0) = false := by rw [beq_eq_false_iff_ne]; exact he
          have HH := Lib.hid (And.intro b4 (And.intro hO3 (And.intro hR3 hS3)))
          have HN := Lib.hid hn
          clear HT F1 hh he hn hX hO3 hR3 hS3 b4 b3 hv3
          go_wp2
          go_roundw
          case rel => exact ⟨2, by omega, by go_num, fun _ => n0, fun _ => HN.out, HH.out.1, HH.out.2.1, HH.out.2.2.1, HH.out.2.2.2⟩
          case measure => simp [intOf]
        case pos =>
          subst he
          rw [decide_eq_true rfl, Bool.true_and] at hh
          have y0 := hX.cell 0 (x := .int .i64 fk) rfl
          have y1 := hX.cell 1 (x := .int .i64 f_r) rfl
          have y2 := hX.cell 2 (x := .int .i64 f_s) rfl
          have y3 := hX.cell 3 (x := .int .i64 f_m) rfl
          have y4 := hX.cell 4 (x := .slice A2 fd.length c2) rfl
          have HT := HT ⟨fk, ⟨f_r, f_s, f_m⟩, fd⟩ (.slice A2 fd.length c2) _ b4
          generalize T ⟨fk, ⟨f_r, f_s, f_m⟩, fd⟩ = tf at *
          unfold frV at HT F1
          simp only at HT F1
          go_wp2_with fail
          refine HT.out.mono ?_
          rintro _ w5 ⟨rfl, b5⟩
          have hO5 := hO3.below b5 hO3.lt
          have hR5 := hR3.below b5 hR3.lt
          have hS5 := hS3.below b5 hS3.lt
          have hX5 := hX.below b5 hX.lt
          have hv5 := hv3.below b5 (by first | exact Nat.le_refl _ | simp)
          have b6 := b4.trans (b5.mono b4.size)
          clear hO3 hR3 hS3 hX hv3 b4 b5 HT y0 y1 y2 y3 y4
          cases tf
          · have HH := Lib.hid (And.intro b6 (And.intro hO5 (And.intro hR5 hS5)))
            have HN := Lib.hid hh
            clear F1 hh hX5 hO5 hR5 hS5 b6 hv5
            go_wp2
            go_roundw
            case rel => exact ⟨2, by omega, by go_num, fun _ => n0, fun _ => HN.out, HH.out.1, HH.out.2.1, HH.out.2.2.1, HH.out.2.2.2⟩
            case measure => simp [intOf]
          · have y0 := hX5.cell 0 (x := .int .i64 fk) rfl
            have y1 := hX5.cell 1 (x := .int .i64 f_r) rfl
            have y2 := hX5.cell 2 (x := .int .i64 f_s) rfl
            have y3 := hX5.cell 3 (x := .int .i64 f_m) rfl
            have y4 := hX5.cell 4 (x := .slice A2 fd.length c2) rfl
            have r0 := hR5.cell 0 (x := .int .i64 0) rfl
            have r1 := hR5.cell 1 (x := .int .i64 0) rfl
            have r2 := hR5.cell 2 (x := .int .i64 0) rfl
            have r3 := hR5.cell 3 (x := .int .i64 0) rfl
            have r4 := hR5.cell 4 (x := .slice none 0 0) rfl
            have f0 := hR5.frozen 0
            have f1 := hR5.frozen 1
            have f2 := hR5.frozen 2
            have f3 := hR5.frozen 3
            have f4 := hR5.frozen 4
            have hvf := Lib.hid (((((hv5.setFar ⟨w.heap.size + 2, 0, none⟩ (.int .i64 fk) (by simp; omega)).setFar ⟨w.heap.size + 2, 1, none⟩ (.int .i64 f_r) (by simp; omega)).setFar ⟨w.heap.size + 2, 2, none⟩ (.int .i64 f_s) (by simp; omega)).setFar ⟨w.heap.size + 2, 3, none⟩ (.int .i64 f_m) (by simp; omega)).setFar ⟨w.heap.size + 2, 4, none⟩ (.slice A2 fd.length c2) (by simp; omega))
            have hbf := Lib.hid (((((b6.setCell (p := ⟨w.heap.size + 2, 0, none⟩) (by simp) (.int .i64 fk)).setCell (p := ⟨w.heap.size + 2, 1, none⟩) (by simp) (.int .i64 f_r)).setCell (p := ⟨w.heap.size + 2, 2, none⟩) (by simp) (.int .i64 f_s)).setCell (p := ⟨w.heap.size + 2, 3, none⟩) (by simp) (.int .i64 f_m)).setCell (p := ⟨w.heap.size + 2, 4, none⟩) (by simp) (.slice A2 fd.length c2))
            have HF := Lib.hid (fun e w' h => F1 e w' hh h)
            clear F1 hh hX5 hO5 hR5 hS5 b6 hv5
            go_wp2
            refine bodyPost_ret (v := .tuple #[.agg #[.int .i64 fk, .int .i64 f_r, .int .i64 f_s, .int .i64 f_m, .slice A2 fd.length c2], .bool true]) ?_ rfl (HF.out _ _ ⟨_, rfl, hvf.out.base (by simp; omega), hbf.out⟩)
            rw [results_cell_tmp rfl]
            go_simp
    · have n0 := n0 (by omega)
      have n1 := n1 (by omega)
      have FN := fun e w' => FN e w' n0 n1
      clear HX HY HT F0 F1 hO hS
      have r0 := hR.cell 0 (x := .int .i64 0) rfl
      have r1 := hR.cell 1 (x := .int .i64 0) rfl
      have r2 := hR.cell 2 (x := .int .i64 0) rfl
      have r3 := hR.cell 3 (x := .int .i64 0) rfl
      have r4 := hR.cell 4 (x := .slice none 0 0) rfl
      have f0 := hR.frozen 0
      have f1 := hR.frozen 1
      have f2 := hR.frozen 2
      have f3 := hR.frozen 3
      have f4 := hR.frozen 4
      go_wp2
      refine bodyPost_ret (v := .tuple #[.agg #[.int .i64 0, .int .i64 0, .int .i64 0, .int .i64 0, .slice none 0 0], .bool false]) ?_ rfl (FN _ _ ⟨rfl, ?_⟩)
      · rw [results_cell_tmp rfl]
        go_simp
      · (repeat' (first | exact b0 | (with_reducible refine Below.setCell ?_ ?_ _) | omega | (simp; omega)))
end Go.Proofs.YtpdenmcacaajkaaGreat
