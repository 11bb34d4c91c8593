/- Texts RaF in one. For what each says in front of its theorems. -/
import Derived.Test.YtpdenmcacaajkaaGreatPB29
import Derived.Test.YtpdenmcacaajkaaGreatPB36
import Derived.Test.YtpdenmcacaajkaaGreatPB39
/-! ### RaF -/
namespace Go.Proofs.YtpdenmcacaajkaaGreat
open Go.RowKit
open Fr (St F)
set_option maxRecDepth 100000 in
set_option maxHeartbeats 1000000 in
theorem tells_ra (a : Int) (v : Value) (w : World) :
    Calls Tryz.prog 86 #[.int .i64 a, v] w fun e w' => e = .returned (if a = 2 then v else .slice none 0 0) ∧ w' = w := by
  by_cases h : a = 2
  · rw [if_pos h]
    subst h
    go_enter Tryz.func86, Tryz.ntmps86
    go_wp2
    go_ret
    exact ⟨rfl, rfl⟩
  · rw [if_neg h]
    have q : (a == 2) = false := by rw [beq_eq_false_iff_ne]; exact h
    go_enter Tryz.func86, Tryz.ntmps86
    go_wp2
    go_ret
    exact ⟨rfl, rfl⟩
/-- Two rows. -/
def two2 (x y : List Int) : Hn := ⟨2, 2, x, y, 0⟩
theorem err_nil (own : St) : Fr.err [] own ≠ 0 := by
  unfold Fr.err
  rw [if_neg (by simp [Fr.formB])]
  decide
theorem hit_row {own : St} {T : F → Bool} (a : Int) (l : List Int) : hitB own T 2 (if a = 2 then l else []) = hitB own T a l := by
  unfold hitB
  by_cases h : a = 2
  · rw [if_pos h, decide_eq_true h, decide_eq_true rfl]
  · rw [if_neg h, decide_eq_false h, decide_eq_false (err_nil own)]
    rfl
theorem fst_two {w w' : World} {own : St} {T : F → Bool} {h : Hn} {e : Ending} (hf : Fst w own T (two2 (if h.a = 2 then h.x else []) (if h.b = 2 then h.y else [])) e w') : Fst w own T h e w' := by
  cases q0 : hitB own T h.a h.x
  · cases q1 : hitB own T h.b h.y
    · unfold Fst at hf ⊢
      rw [find_no q0 q1]
      rw [find_no (h := two2 (if h.a = 2 then h.x else []) (if h.b = 2 then h.y else [])) ((hit_row h.a h.x).trans q0) ((hit_row h.b h.y).trans q1)] at hf
      exact hf
    · unfold Fst at hf ⊢
      rw [find_1 q0 q1]
      rw [find_1 (h := two2 (if h.a = 2 then h.x else []) (if h.b = 2 then h.y else [])) ((hit_row h.a h.x).trans q0) ((hit_row h.b h.y).trans q1)] at hf
      have hb : h.b = 2 := by
        unfold hitB at q1
        simp only [Bool.and_eq_true, decide_eq_true_eq] at q1
        exact q1.1
      simp only [two2, if_pos hb] at hf
      exact hf
  · unfold Fst at hf ⊢
    rw [find_0 q0]
    rw [find_0 (h := two2 (if h.a = 2 then h.x else []) (if h.b = 2 then h.y else [])) ((hit_row h.a h.x).trans q0)] at hf
    have ha : h.a = 2 := by
      unfold hitB at q0
      simp only [Bool.and_eq_true, decide_eq_true_eq] at q0
      exact q0.1
    simp only [two2, if_pos ha] at hf
    exact hf
set_option maxRecDepth 100000 in
set_option maxHeartbeats 8000000 in
theorem first_ra (b : Bool) (G : Nat → Prop) (g : Nat) (m : NM) (xx : RX) (vx vy : Value) (x y : List Int) (w : World) (hx : SeesL w w.heap.size vx x) (bx : bytesL x) (hy : SeesL w w.heap.size vy y) (by_ : bytesL y) (hm : RA b G w g m xx) :
    Calls Tryz.prog 131 #[.pointer (some ⟨g, 0, none⟩), vx, vy] w (Fst w NM.z3 (fun f => decide (m.mayJ f)) (two2 x y)) := by
  have HX := fun W (hW : Below w.heap.size w W) => Lib.hid (decode_ref vx x NM.z3 W ((hx.below hW).more hW.size) bx)
  have HY := fun W (hW : Below w.heap.size w W) => Lib.hid (decode_ref vy y NM.z3 W ((hy.below hW).more hW.size) by_)
  have F0 := fun e w' => @fst_0 w w' NM.z3 (fun f => decide (m.mayJ f)) (two2 x y) e
  have F1 := fun e w' => @fst_1 w w' NM.z3 (fun f => decide (m.mayJ f)) (two2 x y) e
  have FN := fun e w' => @fst_no w w' NM.z3 (fun f => decide (m.mayJ f)) (two2 x y) e
  obtain ⟨N, hNe⟩ : ∃ N, m.t.ns.length = N := ⟨_, rfl⟩
  obtain ⟨i, hie⟩ : ∃ i, m.i = i := ⟨_, rfl⟩
  have hT : ∀ f : F, (fun f => decide (m.mayJ f)) f = decide (f.k ≠ 1 ∧ f.st.s < (N : Int) ∧ f.st.s ≠ (i : Int)) := fun f => by rw [← hNe, ← hie]; rfl
  obtain ⟨AN, cN, c0, -⟩ := hm.c0
  rw [hNe] at c0
  have c4 := hm.c4
  rw [hie] at c4
  have hgl := hm.lt
  have HG := fun W (hW : Below w.heap.size w W) => Lib.hid (And.intro ((hW.cell (p := ⟨g, 0, none⟩) hgl).trans c0) ((hW.cell (p := ⟨g, 4, none⟩) hgl).trans c4))
  unfold Dec at HX HY
  generalize hTT : (fun f => decide (m.mayJ f)) = T at *
  clear hTT hm hNe hie c0 c4
  generalize hD : Fst w NM.z3 T (two2 x y) = D at *
  clear hD
  obtain ⟨Ax, cx, rfl, -⟩ := hx.at_
  obtain ⟨Ay, cy, rfl, -⟩ := hy.at_
  unfold stV NM.z3 at HX HY
  unfold two2 NM.z3 at F0 F1 FN
  simp only at HX HY F0 F1 FN ⊢
  clear hx hy bx by_
  go_enter Tryz.func131, Tryz.ntmps131
  go_wp2_with fail
  go_loopw [9] (fun i wr => ∃ k : Nat, k ≤ 2 ∧ i = .int .i64 k ∧ (0 < k → hitB ⟨0, 0, 0⟩ T 2 x = false) ∧ (1 < k → hitB ⟨0, 0, 0⟩ T 2 y = false) ∧ Below w.heap.size w wr ∧ Blk wr w.heap.size #[.int .i64 0, .int .i64 0, .int .i64 0, .int .i64 0, .slice none 0 0] 137 ∧ Blk wr (w.heap.size + 1) #[.slice Ax x.length cx, .slice Ay y.length cy] 37) (fun i _ => 2 - (intOf i).toNat)
  case atStart => exact ⟨0, by omega, rfl, fun h => absurd h (by omega), fun h => absurd h (by omega), ((Below.refl w.heap.size w).alloc (Nat.le_refl _) _).alloc (by simp) _, (Blk.new _ _ rfl _ _).alloc _, Blk.new _ _ (by simp) _ _⟩
  case round =>
    obtain ⟨k, hk, rfl, n0, n1, b0, hR, hS⟩ := hrel
    rcases (by omega : k = 0 ∨ k = 1 ∨ k = 2) with rfl | rfl | rfl
    · skip
      have s0 := hS.cell 0 (x := .slice Ax x.length cx) rfl
      have hh : hitB ⟨0, 0, 0⟩ T 2 x = (decide (Fr.err x ⟨0, 0, 0⟩ = 0) && T (Fr.res x ⟨0, 0, 0⟩)) := by unfold hitB; rw [decide_eq_true rfl, Bool.true_and]
      generalize hitB ⟨0, 0, 0⟩ T 2 x = hb at *
      go_wp2_with fail
      refine (HX _ b0).out.mono ?_
      rintro _ w2 ⟨v, rfl, hv, b2⟩
      have hR2 := hR.below b2 hR.lt
      have hS2 := hS.below b2 hS.lt
      have b3 := b0.trans (b2.mono b0.size)
      have hZ := b0.size
      have hZ2 := b2.size
      have hSl := hS.lt
      clear FN F1 HY HX hR hS b0 b2 s0
      generalize Fr.err x ⟨0, 0, 0⟩ = er at *
      generalize Fr.res x ⟨0, 0, 0⟩ = fr at *
      rw [hT fr] at hh
      obtain ⟨fk, ⟨f_r, f_s, f_m⟩, fd⟩ := fr
      obtain ⟨A2, c2, rfl, -⟩ := hv.sees.at_
      simp only at hv F0 hh
      have hX := Blk.new w2 w2.heap.size rfl #[.int .i64 fk, .int .i64 f_r, .int .i64 f_s, .int .i64 f_m, .slice A2 fd.length c2] 137
      have hR3 := hR2.alloc (.cells #[.int .i64 fk, .int .i64 f_r, .int .i64 f_s, .int .i64 f_m, .slice A2 fd.length c2] 137)
      have hS3 := hS2.alloc (.cells #[.int .i64 fk, .int .i64 f_r, .int .i64 f_s, .int .i64 f_m, .slice A2 fd.length c2] 137)
      have b4 := b3.alloc b3.size (.cells #[.int .i64 fk, .int .i64 f_r, .int .i64 f_s, .int .i64 f_m, .slice A2 fd.length c2] 137)
      have hv3 := hv.alloc (.cells #[.int .i64 fk, .int .i64 f_r, .int .i64 f_s, .int .i64 f_m, .slice A2 fd.length c2] 137)
      obtain ⟨g0, g4⟩ := (HG _ b4).out
      clear hR2 hS2 hv hT
      unfold frV
      simp only
      have y0 := hX.cell 0 (x := .int .i64 fk) rfl
      have y1 := hX.cell 1 (x := .int .i64 f_r) rfl
      have y2 := hX.cell 2 (x := .int .i64 f_s) rfl
      have y3 := hX.cell 3 (x := .int .i64 f_m) rfl
      have y4 := hX.cell 4 (x := .slice A2 fd.length c2) rfl
      have hcase : (er ≠ 0 ∧ hb = false) ∨ (er = 0 ∧ fk = 1 ∧ hb = false) ∨ (er = 0 ∧ fk ≠ 1 ∧ ¬ f_s < (N : Int) ∧ hb = false) ∨ (er = 0 ∧ fk ≠ 1 ∧ f_s < (N : Int) ∧ f_s = (i : Int) ∧ hb = false) ∨ (er = 0 ∧ fk ≠ 1 ∧ f_s < (N : Int) ∧ f_s ≠ (i : Int) ∧ hb = true) := by
        by_cases e1 : er = 0
        · by_cases e2 : fk = 1
          · exact .inr (.inl ⟨e1, e2, by rw [hh, decide_eq_false (by omega : ¬ (fk ≠ 1 ∧ f_s < (N : Int) ∧ f_s ≠ (i : Int))), Bool.and_false]⟩)
          · by_cases e3 : f_s < (N : Int)
            · by_cases e4 : f_s = (i : Int)
              · exact .inr (.inr (.inr (.inl ⟨e1, e2, e3, e4, by rw [hh, decide_eq_false (by omega : ¬ (fk ≠ 1 ∧ f_s < (N : Int) ∧ f_s ≠ (i : Int))), Bool.and_false]⟩)))
              · exact .inr (.inr (.inr (.inr ⟨e1, e2, e3, e4, by rw [hh, decide_eq_true e1, decide_eq_true (⟨e2, e3, e4⟩ : fk ≠ 1 ∧ f_s < (N : Int) ∧ f_s ≠ (i : Int)), Bool.and_true]⟩)))
            · exact .inr (.inr (.inl ⟨e1, e2, e3, by rw [hh, decide_eq_false (by omega : ¬ (fk ≠ 1 ∧ f_s < (N : Int) ∧ f_s ≠ (i : Int))), Bool.and_false]⟩))
        · exact .inl ⟨e1, by rw [hh, decide_eq_false e1, Bool.false_and]⟩
      clear hh
      rcases hcase with ⟨e1, hn⟩ | ⟨rfl, e2, hn⟩ | ⟨rfl, e2, e3, hn⟩ | ⟨rfl, e2, e3, e4, hn⟩ | ⟨rfl, e2, e3, e4, hn⟩
      · skip
        have q0 : (er == 0) = false := by rw [beq_eq_false_iff_ne]; exact e1
        clear e1
        have HN := Lib.hid hn
        have HH := Lib.hid (fun n => And.intro (below_drewN b4 n) (And.intro (hR3.drewN n) (hS3.drewN n)))
        clear F0 hn hX hR3 hS3 b4 b3 hv3
        go_wp2_with fail
        go_quiet (fail)
        go_wp2
        go_roundw
        case rel => exact ⟨1, by omega, by go_num, fun _ => HN.out, fun h => absurd h (by omega), (HH.out _).1, (HH.out _).2.1, (HH.out _).2.2⟩
        case measure => simp [intOf]
      · skip
        subst e2
        have HN := Lib.hid hn
        have HH := Lib.hid (fun n => And.intro (below_drewN b4 n) (And.intro (hR3.drewN n) (hS3.drewN n)))
        clear F0 hn hX hR3 hS3 b4 b3 hv3
        go_wp2_with fail
        go_quiet (fail)
        go_wp2
        go_roundw
        case rel => exact ⟨1, by omega, by go_num, fun _ => HN.out, fun h => absurd h (by omega), (HH.out _).1, (HH.out _).2.1, (HH.out _).2.2⟩
        case measure => simp [intOf]
      · skip
        have q1 : (fk != 1) = true := by rw [bne_iff_ne]; exact e2
        have q2 : decide (f_s < (N : Int)) = false := decide_eq_false e3
        clear e2 e3
        have HN := Lib.hid hn
        have HH := Lib.hid (fun n => And.intro (below_drewN b4 n) (And.intro (hR3.drewN n) (hS3.drewN n)))
        clear F0 hn hX hR3 hS3 b4 b3 hv3
        go_wp2_with fail
        go_quiet (fail)
        go_wp2
        go_roundw
        case rel => exact ⟨1, by omega, by go_num, fun _ => HN.out, fun h => absurd h (by omega), (HH.out _).1, (HH.out _).2.1, (HH.out _).2.2⟩
        case measure => simp [intOf]
      · skip
        have q1 : (fk != 1) = true := by rw [bne_iff_ne]; exact e2
        have q2 : decide (f_s < (N : Int)) = true := decide_eq_true e3
        have q3 : (f_s != (i : Int)) = false := by rw [e4]; simp
        clear e2 e3 e4
        have HN := Lib.hid hn
        have HH := Lib.hid (fun n => And.intro (below_drewN b4 n) (And.intro (hR3.drewN n) (hS3.drewN n)))
        clear F0 hn hX hR3 hS3 b4 b3 hv3
        go_wp2_with fail
        go_quiet (fail)
        go_wp2
        go_roundw
        case rel => exact ⟨1, by omega, by go_num, fun _ => HN.out, fun h => absurd h (by omega), (HH.out _).1, (HH.out _).2.1, (HH.out _).2.2⟩
        case measure => simp [intOf]
      · have q1 : (fk != 1) = true := by rw [bne_iff_ne]; exact e2
        have q2 : decide (f_s < (N : Int)) = true := decide_eq_true e3
        have q3 : (f_s != (i : Int)) = true := by rw [bne_iff_ne]; exact e4
        clear e2 e3 e4
        have HF := Lib.hid (fun e w' h => F0 e w' hn h)
        clear F0 hn
        have HH := Lib.hid (fun n W' (e : World.drewN _ n = W') => e ▸ And.intro (below_drewN b4 n) (And.intro (hR3.drewN n) (And.intro (hX.drewN n) (hv3.below (below_drewN (Below.refl _ _) n) (Nat.le_refl _)))))
        clear hR3 hS3 hX b4 b3 hv3
        go_wp2_with fail
        go_quiet (fail)
        generalize hw5 : World.drewN _ _ = w5
        obtain ⟨b6, hR5, hX5, hv5⟩ := HH.out _ _ hw5
        clear hw5
        clear HH y0 y1 y2 y3 y4 g0 g4
        have y0 := hX5.cell 0 (x := .int .i64 fk) rfl
        have y1 := hX5.cell 1 (x := .int .i64 f_r) rfl
        have y2 := hX5.cell 2 (x := .int .i64 f_s) rfl
        have y3 := hX5.cell 3 (x := .int .i64 f_m) rfl
        have y4 := hX5.cell 4 (x := .slice A2 fd.length c2) rfl
        have r0 := hR5.cell 0 (x := .int .i64 0) rfl
        have r1 := hR5.cell 1 (x := .int .i64 0) rfl
        have r2 := hR5.cell 2 (x := .int .i64 0) rfl
        have r3 := hR5.cell 3 (x := .int .i64 0) rfl
        have r4 := hR5.cell 4 (x := .slice none 0 0) rfl
        have f0 := hR5.frozen 0
        have f1 := hR5.frozen 1
        have f2 := hR5.frozen 2
        have f3 := hR5.frozen 3
        have f4 := hR5.frozen 4
        have hfar : w.heap.size < wr.heap.size := by omega
        have hvf := Lib.hid (((((hv5.setFar ⟨w.heap.size, 0, none⟩ (.int .i64 fk) hfar).setFar ⟨w.heap.size, 1, none⟩ (.int .i64 f_r) hfar).setFar ⟨w.heap.size, 2, none⟩ (.int .i64 f_s) hfar).setFar ⟨w.heap.size, 3, none⟩ (.int .i64 f_m) hfar).setFar ⟨w.heap.size, 4, none⟩ (.slice A2 fd.length c2) hfar)
        have hbf := Lib.hid (((((b6.setCell (p := ⟨w.heap.size, 0, none⟩) (Nat.le_refl _) (.int .i64 fk)).setCell (p := ⟨w.heap.size, 1, none⟩) (Nat.le_refl _) (.int .i64 f_r)).setCell (p := ⟨w.heap.size, 2, none⟩) (Nat.le_refl _) (.int .i64 f_s)).setCell (p := ⟨w.heap.size, 3, none⟩) (Nat.le_refl _) (.int .i64 f_m)).setCell (p := ⟨w.heap.size, 4, none⟩) (Nat.le_refl _) (.slice A2 fd.length c2))
        clear hX5 hR5 b6 hv5
        go_wp2
        refine bodyPost_ret (v := .tuple #[.agg #[.int .i64 fk, .int .i64 f_r, .int .i64 f_s, .int .i64 f_m, .slice A2 fd.length c2], .bool true]) ?_ rfl (HF.out _ _ ⟨_, rfl, hvf.out.base hZ, hbf.out⟩)
        rw [results_cell_tmp rfl]
        go_simp
    · have n0 := n0 (by omega)
      have F1 := fun e w' h => F1 e w' n0 h
      have s0 := hS.cell 1 (x := .slice Ay y.length cy) rfl
      have hh : hitB ⟨0, 0, 0⟩ T 2 y = (decide (Fr.err y ⟨0, 0, 0⟩ = 0) && T (Fr.res y ⟨0, 0, 0⟩)) := by unfold hitB; rw [decide_eq_true rfl, Bool.true_and]
      generalize hitB ⟨0, 0, 0⟩ T 2 y = hb at *
      go_wp2_with fail
      refine (HY _ b0).out.mono ?_
      rintro _ w2 ⟨v, rfl, hv, b2⟩
      have hR2 := hR.below b2 hR.lt
      have hS2 := hS.below b2 hS.lt
      have b3 := b0.trans (b2.mono b0.size)
      have hZ := b0.size
      have hZ2 := b2.size
      have hSl := hS.lt
      clear FN F0 HY HX hR hS b0 b2 s0
      generalize Fr.err y ⟨0, 0, 0⟩ = er at *
      generalize Fr.res y ⟨0, 0, 0⟩ = fr at *
      rw [hT fr] at hh
      obtain ⟨fk, ⟨f_r, f_s, f_m⟩, fd⟩ := fr
      obtain ⟨A2, c2, rfl, -⟩ := hv.sees.at_
      simp only at hv F1 hh
      have hX := Blk.new w2 w2.heap.size rfl #[.int .i64 fk, .int .i64 f_r, .int .i64 f_s, .int .i64 f_m, .slice A2 fd.length c2] 137
      have hR3 := hR2.alloc (.cells #[.int .i64 fk, .int .i64 f_r, .int .i64 f_s, .int .i64 f_m, .slice A2 fd.length c2] 137)
      have hS3 := hS2.alloc (.cells #[.int .i64 fk, .int .i64 f_r, .int .i64 f_s, .int .i64 f_m, .slice A2 fd.length c2] 137)
      have b4 := b3.alloc b3.size (.cells #[.int .i64 fk, .int .i64 f_r, .int .i64 f_s, .int .i64 f_m, .slice A2 fd.length c2] 137)
      have hv3 := hv.alloc (.cells #[.int .i64 fk, .int .i64 f_r, .int .i64 f_s, .int .i64 f_m, .slice A2 fd.length c2] 137)
      obtain ⟨g0, g4⟩ := (HG _ b4).out
      clear hR2 hS2 hv hT
      unfold frV
      simp only
      have y0 := hX.cell 0 (x := .int .i64 fk) rfl
      have y1 := hX.cell 1 (x := .int .i64 f_r) rfl
      have y2 := hX.cell 2 (x := .int .i64 f_s) rfl
      have y3 := hX.cell 3 (x := .int .i64 f_m) rfl
      have y4 := hX.cell 4 (x := .slice A2 fd.length c2) rfl
      have hcase : (er ≠ 0 ∧ hb = false) ∨ (er = 0 ∧ fk = 1 ∧ hb = false) ∨ (er = 0 ∧ fk ≠ 1 ∧ ¬ f_s < (N : Int) ∧ hb = false) ∨ (er = 0 ∧ fk ≠ 1 ∧ f_s < (N : Int) ∧ f_s = (i : Int) ∧ hb = false) ∨ (er = 0 ∧ fk ≠ 1 ∧ f_s < (N : Int) ∧ f_s ≠ (i : Int) ∧ hb = true) := by
        by_cases e1 : er = 0
        · by_cases e2 : fk = 1
          · exact .inr (.inl ⟨e1, e2, by rw [hh, decide_eq_false (by omega : ¬ (fk ≠ 1 ∧ f_s < (N : Int) ∧ f_s ≠ (i : Int))), Bool.and_false]⟩)
          · by_cases e3 : f_s < (N : Int)
            · by_cases e4 : f_s = (i : Int)
              · exact .inr (.inr (.inr (.inl ⟨e1, e2, e3, e4, by rw [hh, decide_eq_false (by omega : ¬ (fk ≠ 1 ∧ f_s < (N : Int) ∧ f_s ≠ (i : Int))), Bool.and_false]⟩)))
              · exact .inr (.inr (.inr (.inr ⟨e1, e2, e3, e4, by rw [hh, decide_eq_true e1, decide_eq_true (⟨e2, e3, e4⟩ : fk ≠ 1 ∧ f_s < (N : Int) ∧ f_s ≠ (i : Int)), Bool.and_true]⟩)))
            · exact .inr (.inr (.inl ⟨e1, e2, e3, by rw [hh, decide_eq_false (by omega : ¬ (fk ≠ 1 ∧ f_s < (N : Int) ∧ f_s ≠ (i : Int))), Bool.and_false]⟩))
        · exact .inl ⟨e1, by rw [hh, decide_eq_false e1, Bool.false_and]⟩
      clear hh
      rcases hcase with ⟨e1, hn⟩ | ⟨rfl, e2, hn⟩ | ⟨rfl, e2, e3, hn⟩ | ⟨rfl, e2, e3, e4, hn⟩ | ⟨rfl, e2, e3, e4, hn⟩
      · skip
        have q0 : (er == 0) = false := by rw [beq_eq_false_iff_ne]; exact e1
        clear e1
        have HN := Lib.hid hn
        have HH := Lib.hid (fun n => And.intro (below_drewN b4 n) (And.intro (hR3.drewN n) (hS3.drewN n)))
        clear F1 hn hX hR3 hS3 b4 b3 hv3
        go_wp2_with fail
        go_quiet (fail)
        go_wp2
        go_roundw
        case rel => exact ⟨2, by omega, by go_num, fun _ => n0, fun _ => HN.out, (HH.out _).1, (HH.out _).2.1, (HH.out _).2.2⟩
        case measure => simp [intOf]
      · skip
        subst e2
        have HN := Lib.hid hn
        have HH := Lib.hid (fun n => And.intro (below_drewN b4 n) (And.intro (hR3.drewN n) (hS3.drewN n)))
        clear F1 hn hX hR3 hS3 b4 b3 hv3
        go_wp2_with fail
        go_quiet (fail)
        go_wp2
        go_roundw
        case rel => exact ⟨2, by omega, by go_num, fun _ => n0, fun _ => HN.out, (HH.out _).1, (HH.out _).2.1, (HH.out _).2.2⟩
        case measure => simp [intOf]
      · skip
        have q1 : (fk != 1) = true := by rw [bne_iff_ne]; exact e2
        have q2 : decide (f_s < (N : Int)) = false := decide_eq_false e3
        clear e2 e3
        have HN := Lib.hid hn
        have HH := Lib.hid (fun n => And.intro (below_drewN b4 n) (And.intro (hR3.drewN n) (hS3.drewN n)))
        clear F1 hn hX hR3 hS3 b4 b3 hv3
        go_wp2_with fail
        go_quiet (fail)
        go_wp2
        go_roundw
        case rel => exact ⟨2, by omega, by go_num, fun _ => n0, fun _ => HN.out, (HH.out _).1, (HH.out _).2.1, (HH.out _).2.2⟩
        case measure => simp [intOf]
      · skip
        have q1 : (fk != 1) = true := by rw [bne_iff_ne]; exact e2
        have q2 : decide (f_s < (N : Int)) = true := decide_eq_true e3
        have q3 : (f_s != (i : Int)) = false := by rw [e4]; simp
        clear e2 e3 e4
        have HN := Lib.hid hn
        have HH := Lib.hid (fun n => And.intro (below_drewN b4 n) (And.intro (hR3.drewN n) (hS3.drewN n)))
        clear F1 hn hX hR3 hS3 b4 b3 hv3
        go_wp2_with fail
        go_quiet (fail)
        go_wp2
        go_roundw
        case rel => exact ⟨2, by omega, by go_num, fun _ => n0, fun _ => HN.out, (HH.out _).1, (HH.out _).2.1, (HH.out _).2.2⟩
        case measure => simp [intOf]
      · have q1 : (fk != 1) = true := by rw [bne_iff_ne]; exact e2
        have q2 : decide (f_s < (N : Int)) = true := decide_eq_true e3
        have q3 : (f_s != (i : Int)) = true := by rw [bne_iff_ne]; exact e4
        clear e2 e3 e4
        have HF := Lib.hid (fun e w' h => F1 e w' hn h)
        clear F1 hn
        have HH := Lib.hid (fun n W' (e : World.drewN _ n = W') => e ▸ And.intro (below_drewN b4 n) (And.intro (hR3.drewN n) (And.intro (hX.drewN n) (hv3.below (below_drewN (Below.refl _ _) n) (Nat.le_refl _)))))
        clear hR3 hS3 hX b4 b3 hv3
        go_wp2_with fail
        go_quiet (fail)
        generalize hw5 : World.drewN _ _ = w5
        obtain ⟨b6, hR5, hX5, hv5⟩ := HH.out _ _ hw5
        clear hw5
        clear HH y0 y1 y2 y3 y4 g0 g4
        have y0 := hX5.cell 0 (x := .int .i64 fk) rfl
        have y1 := hX5.cell 1 (x := .int .i64 f_r) rfl
        have y2 := hX5.cell 2 (x := .int .i64 f_s) rfl
        have y3 := hX5.cell 3 (x := .int .i64 f_m) rfl
        have y4 := hX5.cell 4 (x := .slice A2 fd.length c2) rfl
        have r0 := hR5.cell 0 (x := .int .i64 0) rfl
        have r1 := hR5.cell 1 (x := .int .i64 0) rfl
        have r2 := hR5.cell 2 (x := .int .i64 0) rfl
        have r3 := hR5.cell 3 (x := .int .i64 0) rfl
        have r4 := hR5.cell 4 (x := .slice none 0 0) rfl
        have f0 := hR5.frozen 0
        have f1 := hR5.frozen 1
        have f2 := hR5.frozen 2
        have f3 := hR5.frozen 3
        have f4 := hR5.frozen 4
        have hfar : w.heap.size < wr.heap.size := by omega
        have hvf := Lib.hid (((((hv5.setFar ⟨w.heap.size, 0, none⟩ (.int .i64 fk) hfar).setFar ⟨w.heap.size, 1, none⟩ (.int .i64 f_r) hfar).setFar ⟨w.heap.size, 2, none⟩ (.int .i64 f_s) hfar).setFar ⟨w.heap.size, 3, none⟩ (.int .i64 f_m) hfar).setFar ⟨w.heap.size, 4, none⟩ (.slice A2 fd.length c2) hfar)
        have hbf := Lib.hid (((((b6.setCell (p := ⟨w.heap.size, 0, none⟩) (Nat.le_refl _) (.int .i64 fk)).setCell (p := ⟨w.heap.size, 1, none⟩) (Nat.le_refl _) (.int .i64 f_r)).setCell (p := ⟨w.heap.size, 2, none⟩) (Nat.le_refl _) (.int .i64 f_s)).setCell (p := ⟨w.heap.size, 3, none⟩) (Nat.le_refl _) (.int .i64 f_m)).setCell (p := ⟨w.heap.size, 4, none⟩) (Nat.le_refl _) (.slice A2 fd.length c2))
        clear hX5 hR5 b6 hv5
        go_wp2
        refine bodyPost_ret (v := .tuple #[.agg #[.int .i64 fk, .int .i64 f_r, .int .i64 f_s, .int .i64 f_m, .slice A2 fd.length c2], .bool true]) ?_ rfl (HF.out _ _ ⟨_, rfl, hvf.out.base hZ, hbf.out⟩)
        rw [results_cell_tmp rfl]
        go_simp
    · have n0 := n0 (by omega)
      have n1 := n1 (by omega)
      have FN := fun e w' => FN e w' n0 n1
      clear HX HY F0 F1 hS hT
      have r0 := hR.cell 0 (x := .int .i64 0) rfl
      have r1 := hR.cell 1 (x := .int .i64 0) rfl
      have r2 := hR.cell 2 (x := .int .i64 0) rfl
      have r3 := hR.cell 3 (x := .int .i64 0) rfl
      have r4 := hR.cell 4 (x := .slice none 0 0) rfl
      have f0 := hR.frozen 0
      have f1 := hR.frozen 1
      have f2 := hR.frozen 2
      have f3 := hR.frozen 3
      have f4 := hR.frozen 4
      go_wp2
      refine bodyPost_ret (v := .tuple #[.agg #[.int .i64 0, .int .i64 0, .int .i64 0, .int .i64 0, .slice none 0 0], .bool false]) ?_ rfl (FN _ _ ⟨rfl, ?_⟩)
      · rw [results_cell_tmp rfl]
        go_simp
      · (repeat' (first | exact b0 | exact Nat.le_refl _ | (with_reducible refine Below.setCell ?_ ?_ _) | omega | (simp; omega)))
end Go.Proofs.YtpdenmcacaajkaaGreat
