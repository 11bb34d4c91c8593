/- Texts RaG in one. For what each says in front of its theorems. -/
import Derived.Deep.RegionHeld3
import Derived.Test.YtpdenmcacaajkaaGreatPB33
import Derived.Test.YtpdenmcacaajkaaGreatPB40
/-! ### RaG -/
namespace Go.Proofs.YtpdenmcacaajkaaGreat
open Go.RowKit
open Fr (St F)
theorem hit_own {er fk f_r f_s f_m rd sl om : Int} {hb : Bool} (hh : hb = (decide (er = 0) && decide (fk ≠ 3 ∧ f_r = rd ∧ f_s = sl ∧ f_m = om))) :
    (er ≠ 0 ∧ hb = false) ∨ (er = 0 ∧ fk = 3 ∧ hb = false) ∨ (er = 0 ∧ fk ≠ 3 ∧ f_r ≠ rd ∧ hb = false) ∨ (er = 0 ∧ fk ≠ 3 ∧ f_r = rd ∧ f_s ≠ sl ∧ hb = false) ∨ (er = 0 ∧ fk ≠ 3 ∧ f_r = rd ∧ f_s = sl ∧ f_m ≠ om ∧ hb = false) ∨ (er = 0 ∧ fk ≠ 3 ∧ f_r = rd ∧ f_s = sl ∧ f_m = om ∧ hb = true) := by
  by_cases e1 : er = 0
  case neg => exact .inl ⟨e1, by rw [hh, decide_eq_false e1, Bool.false_and]⟩
  by_cases e2 : fk = 3
  case pos => exact .inr (.inl ⟨e1, e2, by simp [hh, e2]⟩)
  by_cases e3 : f_r = rd
  case neg => exact .inr (.inr (.inl ⟨e1, e2, e3, by simp [hh, e3]⟩))
  by_cases e4 : f_s = sl
  case neg => exact .inr (.inr (.inr (.inl ⟨e1, e2, e3, e4, by simp [hh, e4]⟩)))
  by_cases e5 : f_m = om
  case neg => exact .inr (.inr (.inr (.inr (.inl ⟨e1, e2, e3, e4, e5, by simp [hh, e5]⟩))))
  exact .inr (.inr (.inr (.inr (.inr ⟨e1, e2, e3, e4, e5, by rw [hh, decide_eq_true e1, decide_eq_true (⟨e2, e3, e4, e5⟩ : fk ≠ 3 ∧ f_r = rd ∧ f_s = sl ∧ f_m = om), Bool.and_true]⟩))))
set_option maxRecDepth 100000 in
set_option maxHeartbeats 8000000 in
theorem right_ra (b : Bool) (G : Nat → Prop) (g : Nat) (m : NM) (xx : RX) (vx vy : Value) (x y : List Int) (w : World) (hx : SeesL w w.heap.size vx x) (bx : bytesL x) (hy : SeesL w w.heap.size vy y) (by_ : bytesL y) (hm : RA b G w g m xx) (hsl : m.sl < 8) :
    Calls Tryz.prog 85 #[.pointer (some ⟨g, 0, none⟩), vx, vy] w (Fst w m.own (fun f : F => decide (f.k ≠ 3 ∧ f.st = m.own)) (two2 x y)) := by
  have HV := fun W (hW : Below w.heap.size w W) => Lib.hid (show Calls Tryz.prog 40 #[.pointer (some ⟨g, 0, none⟩)] W fun e w' => e = .returned (.agg #[.int .i64 m.rd, .int .i64 (m.sl : Nat), .int .i64 (m.ty.m : Nat)]) ∧ Below W.heap.size W w' from view_ra b G g m xx W (hm.below hW))
  have HX := fun W (hW : Below w.heap.size w W) => Lib.hid (decode_ref vx x m.own W ((hx.below hW).more hW.size) bx)
  have HY := fun W (hW : Below w.heap.size w W) => Lib.hid (decode_ref vy y m.own W ((hy.below hW).more hW.size) by_)
  have F0 := fun e w' => @fst_0 w w' m.own (fun f : F => decide (f.k ≠ 3 ∧ f.st = m.own)) (two2 x y) e
  have F1 := fun e w' => @fst_1 w w' m.own (fun f : F => decide (f.k ≠ 3 ∧ f.st = m.own)) (two2 x y) e
  have FN := fun e w' => @fst_no w w' m.own (fun f : F => decide (f.k ≠ 3 ∧ f.st = m.own)) (two2 x y) e
  have hT : ∀ f : F, (fun f : F => decide (f.k ≠ 3 ∧ f.st = m.own)) f = decide (f.k ≠ 3 ∧ f.st.r = m.rd ∧ f.st.s = (m.sl : Nat) ∧ f.st.m = (ins m.ty.m m.sl : Nat)) := fun f => by
    have e : f.st = m.own ↔ (f.st.r = m.rd ∧ f.st.s = (m.sl : Nat) ∧ f.st.m = (ins m.ty.m m.sl : Nat)) := by
      obtain ⟨k, ⟨r, s, mm⟩, d⟩ := f
      show (⟨r, s, mm⟩ : St) = ⟨m.rd, (m.sl : Nat), (ins m.ty.m m.sl : Nat)⟩ ↔ _
      simp
    show decide (f.k ≠ 3 ∧ f.st = m.own) = _
    rw [Bool.eq_iff_iff, decide_eq_true_iff, decide_eq_true_iff, e]
  have hown : m.own = ⟨m.rd, (m.sl : Nat), (ins m.ty.m m.sl : Nat)⟩ := rfl
  have c8 := hm.c8
  have hgl := hm.lt
  have HG := fun W (hW : Below w.heap.size w W) => Lib.hid ((hW.cell (p := ⟨g, 8, none⟩) hgl).trans c8)
  have hU : IntKind.u64.wrap ((m.sl : Nat) : Int) = ((m.sl : Nat) : Int) := by rw [IntKind.wrap_u64]; omega
  have hor : bits BinOp.or IntKind.i64 (m.ty.m : Nat) (wrap64 ((2 : Int) ^ m.sl)) = (ins m.ty.m m.sl : Nat) := by
    rw [wrap_pow hsl, ← cast_pow]
    exact or_ins hm.ty.2 hsl
  unfold Dec at HX HY
  generalize hTT : (fun f : F => decide (f.k ≠ 3 ∧ f.st = m.own)) = T at *
  clear hTT
  rw [hown] at HX HY F0 F1 FN ⊢
  clear hown hm c8
  generalize m.rd = rd at *
  generalize ins m.ty.m m.sl = om at *
  generalize m.ty.m = mm at *
  generalize m.sl = sl at *
  generalize hD : Fst w ⟨rd, (sl : Nat), (om : Nat)⟩ T (two2 x y) = D at *
  clear hD
  obtain ⟨Ax, cx, rfl, -⟩ := hx.at_
  obtain ⟨Ay, cy, rfl, -⟩ := hy.at_
  unfold stV at HX HY
  unfold two2 at F0 F1 FN
  simp only at HX HY F0 F1 FN ⊢
  clear hx hy bx by_
  have b0 := (Below.refl w.heap.size w).alloc (Nat.le_refl _) (.cells #[.int .i64 0, .int .i64 0, .int .i64 0, .int .i64 0, .slice none 0 0] 137)
  have hR0 := Blk.new w w.heap.size rfl #[.int .i64 0, .int .i64 0, .int .i64 0, .int .i64 0, .slice none 0 0] 137
  go_enter Tryz.func85, Tryz.ntmps85
  go_wp2_with fail
  refine (HV _ b0).out.mono ?_
  rintro _ w2 ⟨rfl, b2⟩
  have hR2 := hR0.below b2 hR0.lt
  have b2 := b0.trans (b2.mono b0.size)
  have hR3 := hR2.alloc (.cells #[.int .i64 rd, .int .i64 (sl : Nat), .int .i64 (om : Nat)] 101)
  have b3 := b2.alloc b2.size (.cells #[.int .i64 rd, .int .i64 (sl : Nat), .int .i64 (om : Nat)] 101)
  have hO3 := Blk.new w2 w2.heap.size rfl #[.int .i64 rd, .int .i64 (sl : Nat), .int .i64 (om : Nat)] 101
  have g8 := (HG _ (b2.alloc b2.size (.cells #[.int .i64 rd, .int .i64 (sl : Nat), .int .i64 (mm : Nat)] 101))).out
  have hz2 : w.heap.size < w2.heap.size := hR2.lt
  clear HV b0 hR0 hR2
  go_wp2_with fail
  go_region
  all_goals
    have hR3 := hR3.drew
    have b3 := b3.drew
    have hO3 := hO3.drew
    have hsb : w2.heap.size < (w2.alloc (.cells #[.int .i64 rd, .int .i64 (sl : Nat), .int .i64 (om : Nat)] 101)).drew.heap.size := by simp
    clear g8 hor hU
    generalize (w2.alloc (.cells #[.int .i64 rd, .int .i64 (sl : Nat), .int .i64 (om : Nat)] 101)).drew = w3 at *
    generalize w2.heap.size = sb at *
    go_wp2_with fail
    go_loopw [10] (fun i wr => ∃ k : Nat, k ≤ 2 ∧ i = .int .i64 k ∧ (0 < k → hitB ⟨rd, (sl : Nat), (om : Nat)⟩ T 2 x = false) ∧ (1 < k → hitB ⟨rd, (sl : Nat), (om : Nat)⟩ T 2 y = false) ∧ Below w.heap.size w wr ∧ Blk wr w.heap.size #[.int .i64 0, .int .i64 0, .int .i64 0, .int .i64 0, .slice none 0 0] 137 ∧ Blk wr sb #[.int .i64 rd, .int .i64 (sl : Nat), .int .i64 (om : Nat)] 101 ∧ Blk wr w3.heap.size #[.slice Ax x.length cx, .slice Ay y.length cy] 37) (fun i _ => 2 - (intOf i).toNat)
    case atStart => exact ⟨0, by omega, rfl, fun h => absurd h (by omega), fun h => absurd h (by omega), b3.alloc b3.size _, hR3.alloc _, hO3.alloc _, Blk.new _ _ rfl _ _⟩
    case round =>
      clear hR3 hO3 b3 b2
      obtain ⟨k, hk, rfl, n0, n1, b0, hR, hO, hS⟩ := hrel
      rcases (by omega : k = 0 ∨ k = 1 ∨ k = 2) with rfl | rfl | rfl
      · skip
        have hh : hitB ⟨rd, (sl : Nat), (om : Nat)⟩ T 2 x = (decide (Fr.err x ⟨rd, (sl : Nat), (om : Nat)⟩ = 0) && T (Fr.res x ⟨rd, (sl : Nat), (om : Nat)⟩)) := by unfold hitB; rw [decide_eq_true rfl, Bool.true_and]
        generalize hitB ⟨rd, (sl : Nat), (om : Nat)⟩ T 2 x = hb at *
        have HS : ∀ W, Below wr.heap.size wr W → (W.cell? ⟨w3.heap.size, 0, none⟩ = some (.slice Ax x.length cx) ∧ W.cell? ⟨sb, 0, none⟩ = some (.int .i64 rd) ∧ W.cell? ⟨sb, 1, none⟩ = some (.int .i64 (sl : Nat)) ∧ W.cell? ⟨sb, 2, none⟩ = some (.int .i64 (om : Nat))) := fun W hW => by
          have hS' := hS.below hW hS.lt
          have hO' := hO.below hW hO.lt
          exact ⟨hS'.cell 0 rfl, hO'.cell 0 rfl, hO'.cell 1 rfl, hO'.cell 2 rfl⟩
        have br := (Below.refl wr.heap.size wr).drew
        have S0 := Lib.hid (HS _ br)
        have HH := Lib.hid HS
        have hlr := hR.lt
        clear HS
        go_wp2_with fail
        refine wp_region_held_drew (S := fun W => W.cell? ⟨w3.heap.size, 0, none⟩ = some (.slice Ax x.length cx) ∧ W.cell? ⟨sb, 0, none⟩ = some (.int .i64 rd) ∧ W.cell? ⟨sb, 1, none⟩ = some (.int .i64 (sl : Nat)) ∧ W.cell? ⟨sb, 2, none⟩ = some (.int .i64 (om : Nat))) (by kernel_rfl) S0.out (fun hHeld => ?_)
        refine wpAnyH_take (i := 0) (oi := { dst := some 33, op := _, type := _, pos := _, after := _, guard := none }) (v := ?_) rfl (by kernel_rfl) (by kernel_rfl) (by kernel_rfl) (fun _ _ _ h => h) (Or.inl ⟨by rfl, ?_⟩) (by assumption) ?_
        rotate_left 1
        · (intro wz hSw; go_simp; try with_reducible rfl)
        try simp only [Act.put, List.setIfInBounds_toArray, List.set_cons_zero, List.set_cons_succ]
        refine wpAnyH_take (i := 1) (oi := { dst := some 34, op := _, type := _, pos := _, after := _, guard := none }) (v := ?_) rfl (by kernel_rfl) (by kernel_rfl) (by kernel_rfl) (fun _ _ _ h => h) (Or.inl ⟨by rfl, ?_⟩) (by assumption) ?_
        rotate_left 1
        · (intro wz hSw; go_simp; try with_reducible rfl)
        try simp only [Act.put, List.setIfInBounds_toArray, List.set_cons_zero, List.set_cons_succ]
        refine wpAnyH_take (i := 2) (oi := { dst := some 35, op := _, type := _, pos := _, after := _, guard := none }) (v := ?_) rfl (by kernel_rfl) (by kernel_rfl) (by kernel_rfl) (fun _ _ _ h => h) (Or.inl ⟨by rfl, ?_⟩) (by assumption) ?_
        rotate_left 1
        · (intro wz hSw; go_simp; try with_reducible rfl)
        try simp only [Act.put, List.setIfInBounds_toArray, List.set_cons_zero, List.set_cons_succ]
        refine wpAnyH_take (i := 3) (oi := { dst := some 36, op := _, type := _, pos := _, after := _, guard := none }) (v := ?_) rfl (by kernel_rfl) (by kernel_rfl) (by kernel_rfl) (fun _ _ _ h => h) (Or.inl ⟨by rfl, ?_⟩) (by assumption) ?_
        rotate_left 1
        · (intro wz hSw; go_simp; try with_reducible rfl)
        try simp only [Act.put, List.setIfInBounds_toArray, List.set_cons_zero, List.set_cons_succ]
        refine wpAnyH_take (i := 4) (oi := { dst := some 37, op := _, type := _, pos := _, after := _, guard := none }) (v := ?_) rfl (by kernel_rfl) (by kernel_rfl) (by kernel_rfl) (fun _ _ _ h => h) (Or.inl ⟨by rfl, ?_⟩) (by assumption) ?_
        rotate_left 1
        · (intro wz hSw; go_simp; try with_reducible rfl)
        try simp only [Act.put, List.setIfInBounds_toArray, List.set_cons_zero, List.set_cons_succ]
        refine wpAnyH_ready (rs := [5,9]) (by kernel_rfl) (by simp) ?_
        refine (AllReadyH.cons rfl (fun K hK => ?_) (AllReadyH.cons rfl (fun K hK => ?_) AllReadyH.nil))
        · skip
          go_simp
          refine (HX _ (b0.trans (br.mono b0.size))).out.mono ?_
          rintro _ w11 ⟨v, rfl, hv, d11⟩
          clear FN F1
          generalize Fr.err x ⟨rd, (sl : Nat), (om : Nat)⟩ = er at *
          generalize Fr.res x ⟨rd, (sl : Nat), (om : Nat)⟩ = fr at *
          rw [hT fr] at hh
          obtain ⟨fk, ⟨f_r, f_s, f_m⟩, fd⟩ := fr
          obtain ⟨A2, c2, rfl, -⟩ := hv.sees.at_
          simp only at hv F0 hh
          unfold frV
          simp only
          have b11 := br.trans (d11.mono br.size)
          refine hK.out _ _ (HH.out _ b11) (fun hHeld => ?_)
          clear hK K
          try simp only [Act.put, List.setIfInBounds_toArray, List.set_cons_zero, List.set_cons_succ]
          refine wpAnyH_take (i := 6) (oi := { dst := some 32, op := _, type := _, pos := _, after := _, guard := none }) (v := ?_) rfl (by kernel_rfl) (by kernel_rfl) (by kernel_rfl) (fun _ _ _ h => h) (Or.inl ⟨by rfl, ?_⟩) (by assumption) ?_
          rotate_left 1
          · (intro wz hSw; go_simp; try with_reducible rfl)
          try simp only [Act.put, List.setIfInBounds_toArray, List.set_cons_zero, List.set_cons_succ]
          refine wpAnyH_take (i := 7) (oi := { dst := some 39, op := _, type := _, pos := _, after := _, guard := none }) (v := ?_) rfl (by kernel_rfl) (by kernel_rfl) (by kernel_rfl) (fun _ _ _ h => h) (Or.inl ⟨by rfl, ?_⟩) (by assumption) ?_
          rotate_left 1
          · (intro wz hSw; go_simp; try with_reducible rfl)
          try simp only [Act.put, List.setIfInBounds_toArray, List.set_cons_zero, List.set_cons_succ]
          refine wpAnyH_take (i := 8) (oi := { dst := some 40, op := _, type := _, pos := _, after := _, guard := none }) (v := ?_) rfl (by kernel_rfl) (by kernel_rfl) (by kernel_rfl) (fun _ _ _ h => h) (Or.inl ⟨by rfl, ?_⟩) (by assumption) ?_
          rotate_left 1
          · (intro wz hSw; go_simp; try with_reducible rfl)
          try simp only [Act.put, List.setIfInBounds_toArray, List.set_cons_zero, List.set_cons_succ]
          refine wpAnyH_ready (rs := [9]) (by kernel_rfl) (by simp) ?_
          refine (AllReadyH.cons rfl (fun K hK => ?_) AllReadyH.nil)
          go_simp
          have b12 := b11.alloc b11.size (.cells #[.int .i64 0, .int .i64 0, .int .i64 0, .int .i64 0, .slice none 0 0] 137)
          have X12 := Blk.new w11 (w11).heap.size rfl #[.int .i64 0, .int .i64 0, .int .i64 0, .int .i64 0, .slice none 0 0] 137
          refine hK.out _ _ (HH.out _ b12) (fun hHeld => ?_)
          clear hK K
          try simp only [Act.put, List.setIfInBounds_toArray, List.set_cons_zero, List.set_cons_succ]
          refine wpAnyH_ready (rs := [10]) (by kernel_rfl) (by simp) ?_
          refine (AllReadyH.cons rfl (fun K hK => ?_) AllReadyH.nil)
          have y0 := X12.cell 0 (x := .int .i64 0) rfl
          have z0 := X12.frozen 0
          have y1 := X12.cell 1 (x := .int .i64 0) rfl
          have z1 := X12.frozen 1
          have y2 := X12.cell 2 (x := .int .i64 0) rfl
          have z2 := X12.frozen 2
          have y3 := X12.cell 3 (x := .int .i64 0) rfl
          have z3 := X12.frozen 3
          have y4 := X12.cell 4 (x := .slice none 0 0) rfl
          have z4 := X12.frozen 4
          go_simp
          have XF := Blk.new w11 (w11).heap.size rfl #[.int .i64 fk, .int .i64 f_r, .int .i64 f_s, .int .i64 f_m, .slice A2 fd.length c2] 137
          have bF := b11.alloc b11.size (.cells #[.int .i64 fk, .int .i64 f_r, .int .i64 f_s, .int .i64 f_m, .slice A2 fd.length c2] 137)
          have le : wr.heap.size ≤ (w11).heap.size := b11.size
          refine hK.out _ _ (HH.out _ bF) (fun hHeld => ?_)
          clear y0 z0 y1 z1 y2 z2 y3 z3 y4 z4
          clear hK K
          try simp only [Act.put, List.setIfInBounds_toArray, List.set_cons_zero, List.set_cons_succ]
          refine wpAnyH_take (i := 11) (oi := { dst := some 12, op := _, type := _, pos := _, after := _, guard := none }) (v := ?_) rfl (by kernel_rfl) (by kernel_rfl) (by kernel_rfl) (fun _ _ _ h => h) (Or.inl ⟨by rfl, ?_⟩) (by assumption) ?_
          rotate_left 1
          · (intro wz hSw; go_simp; try with_reducible rfl)
          try simp only [Act.put, List.setIfInBounds_toArray, List.set_cons_zero, List.set_cons_succ]
          refine wpAnyH_done (by kernel_rfl) ?_ _
          have hv5 := hv.alloc (.cells #[.int .i64 fk, .int .i64 f_r, .int .i64 f_s, .int .i64 f_m, .slice A2 fd.length c2] 137)
          have hR5 := hR.below bF hR.lt
          have hO5 := hO.below bF hO.lt
          have hS5 := hS.below bF hS.lt
          have b5 := b0.trans (bF.mono b0.size)
          have hbase : w.heap.size ≤ (wr.drew).heap.size ∧ w.heap.size < (wr.drew).heap.size := by have := b0.size; simp; omega
          clear hv bF hR hO hS HH S0
          generalize World.alloc w11 (.cells #[.int .i64 fk, .int .i64 f_r, .int .i64 f_s, .int .i64 f_m, .slice A2 fd.length c2] 137) = w5 at *
          generalize (w11).heap.size = fa at *
          generalize (wr.drew).heap.size = fb at *
          obtain ⟨hbase, hfar⟩ := hbase
          have hcase : (er ≠ 0 ∧ hb = false) ∨ (er = 0 ∧ fk = 3 ∧ hb = false) ∨ (er = 0 ∧ fk ≠ 3 ∧ f_r ≠ rd ∧ hb = false) ∨ (er = 0 ∧ fk ≠ 3 ∧ f_r = rd ∧ f_s ≠ (sl : Nat) ∧ hb = false) ∨ (er = 0 ∧ fk ≠ 3 ∧ f_r = rd ∧ f_s = (sl : Nat) ∧ f_m ≠ (om : Nat) ∧ hb = false) ∨ (er = 0 ∧ fk ≠ 3 ∧ f_r = rd ∧ f_s = (sl : Nat) ∧ f_m = (om : Nat) ∧ hb = true) := hit_own hh
          clear hh hT
          rcases hcase with ⟨e1, hn⟩ | ⟨rfl, e2, hn⟩ | ⟨rfl, e2, e3, hn⟩ | ⟨rfl, e2, e3, e4, hn⟩ | ⟨rfl, e2, e3, e4, e5, hn⟩ | ⟨rfl, e2, e3, e4, e5, hn⟩
          · skip
            have q0 : (er == 0) = false := by rw [beq_eq_false_iff_ne]; exact e1
            clear e1
            have y0 := XF.cell 0 (x := .int .i64 fk) rfl
            have y1 := XF.cell 1 (x := .int .i64 f_r) rfl
            have y2 := XF.cell 2 (x := .int .i64 f_s) rfl
            have y3 := XF.cell 3 (x := .int .i64 f_m) rfl
            have y4 := XF.cell 4 (x := .slice A2 fd.length c2) rfl
            have o0 := hO5.cell 0 (x := .int .i64 rd) rfl
            have o1 := hO5.cell 1 (x := .int .i64 (sl : Nat)) rfl
            have o2 := hO5.cell 2 (x := .int .i64 (om : Nat)) rfl
            have HN := Lib.hid hn
            have HH := Lib.hid (And.intro b5 (And.intro hR5 (And.intro hO5 hS5)))
            clear F0 hn XF hR5 hS5 hO5 b5 hv5 HX HY
            go_wp2
            go_roundw
            case rel => exact ⟨1, by omega, by go_num, fun _ => HN.out, fun h => absurd h (by omega), HH.out.1, HH.out.2.1, HH.out.2.2.1, HH.out.2.2.2⟩
            case measure => simp [intOf]
          · skip
            have q1 : (fk != 3) = false := by rw [e2]; rfl
            clear e2
            have y0 := XF.cell 0 (x := .int .i64 fk) rfl
            have y1 := XF.cell 1 (x := .int .i64 f_r) rfl
            have y2 := XF.cell 2 (x := .int .i64 f_s) rfl
            have y3 := XF.cell 3 (x := .int .i64 f_m) rfl
            have y4 := XF.cell 4 (x := .slice A2 fd.length c2) rfl
            have o0 := hO5.cell 0 (x := .int .i64 rd) rfl
            have o1 := hO5.cell 1 (x := .int .i64 (sl : Nat)) rfl
            have o2 := hO5.cell 2 (x := .int .i64 (om : Nat)) rfl
            have HN := Lib.hid hn
            have HH := Lib.hid (And.intro b5 (And.intro hR5 (And.intro hO5 hS5)))
            clear F0 hn XF hR5 hS5 hO5 b5 hv5 HX HY
            go_wp2
            go_roundw
            case rel => exact ⟨1, by omega, by go_num, fun _ => HN.out, fun h => absurd h (by omega), HH.out.1, HH.out.2.1, HH.out.2.2.1, HH.out.2.2.2⟩
            case measure => simp [intOf]
          · skip
            have q1 : (fk != 3) = true := by rw [bne_iff_ne]; exact e2
            have q2 : (f_r == rd) = false := by rw [beq_eq_false_iff_ne]; exact e3
            clear e2 e3
            have y0 := XF.cell 0 (x := .int .i64 fk) rfl
            have y1 := XF.cell 1 (x := .int .i64 f_r) rfl
            have y2 := XF.cell 2 (x := .int .i64 f_s) rfl
            have y3 := XF.cell 3 (x := .int .i64 f_m) rfl
            have y4 := XF.cell 4 (x := .slice A2 fd.length c2) rfl
            have o0 := hO5.cell 0 (x := .int .i64 rd) rfl
            have o1 := hO5.cell 1 (x := .int .i64 (sl : Nat)) rfl
            have o2 := hO5.cell 2 (x := .int .i64 (om : Nat)) rfl
            have HN := Lib.hid hn
            have HH := Lib.hid (And.intro b5 (And.intro hR5 (And.intro hO5 hS5)))
            clear F0 hn XF hR5 hS5 hO5 b5 hv5 HX HY
            go_wp2
            go_roundw
            case rel => exact ⟨1, by omega, by go_num, fun _ => HN.out, fun h => absurd h (by omega), HH.out.1, HH.out.2.1, HH.out.2.2.1, HH.out.2.2.2⟩
            case measure => simp [intOf]
          · skip
            have q1 : (fk != 3) = true := by rw [bne_iff_ne]; exact e2
            have q2 : (f_r == rd) = true := by rw [e3]; simp
            have q3 : (f_s == ((sl : Nat) : Int)) = false := by rw [beq_eq_false_iff_ne]; exact e4
            clear e2 e3 e4
            have y0 := XF.cell 0 (x := .int .i64 fk) rfl
            have y1 := XF.cell 1 (x := .int .i64 f_r) rfl
            have y2 := XF.cell 2 (x := .int .i64 f_s) rfl
            have y3 := XF.cell 3 (x := .int .i64 f_m) rfl
            have y4 := XF.cell 4 (x := .slice A2 fd.length c2) rfl
            have o0 := hO5.cell 0 (x := .int .i64 rd) rfl
            have o1 := hO5.cell 1 (x := .int .i64 (sl : Nat)) rfl
            have o2 := hO5.cell 2 (x := .int .i64 (om : Nat)) rfl
            have HN := Lib.hid hn
            have HH := Lib.hid (And.intro b5 (And.intro hR5 (And.intro hO5 hS5)))
            clear F0 hn XF hR5 hS5 hO5 b5 hv5 HX HY
            go_wp2
            go_roundw
            case rel => exact ⟨1, by omega, by go_num, fun _ => HN.out, fun h => absurd h (by omega), HH.out.1, HH.out.2.1, HH.out.2.2.1, HH.out.2.2.2⟩
            case measure => simp [intOf]
          · skip
            have q1 : (fk != 3) = true := by rw [bne_iff_ne]; exact e2
            have q2 : (f_r == rd) = true := by rw [e3]; simp
            have q3 : (f_s == ((sl : Nat) : Int)) = true := by rw [e4]; simp
            have q4 : (f_m == ((om : Nat) : Int)) = false := by rw [beq_eq_false_iff_ne]; exact e5
            clear e2 e3 e4 e5
            have y0 := XF.cell 0 (x := .int .i64 fk) rfl
            have y1 := XF.cell 1 (x := .int .i64 f_r) rfl
            have y2 := XF.cell 2 (x := .int .i64 f_s) rfl
            have y3 := XF.cell 3 (x := .int .i64 f_m) rfl
            have y4 := XF.cell 4 (x := .slice A2 fd.length c2) rfl
            have o0 := hO5.cell 0 (x := .int .i64 rd) rfl
            have o1 := hO5.cell 1 (x := .int .i64 (sl : Nat)) rfl
            have o2 := hO5.cell 2 (x := .int .i64 (om : Nat)) rfl
            have HN := Lib.hid hn
            have HH := Lib.hid (And.intro b5 (And.intro hR5 (And.intro hO5 hS5)))
            clear F0 hn XF hR5 hS5 hO5 b5 hv5 HX HY
            go_wp2
            go_roundw
            case rel => exact ⟨1, by omega, by go_num, fun _ => HN.out, fun h => absurd h (by omega), HH.out.1, HH.out.2.1, HH.out.2.2.1, HH.out.2.2.2⟩
            case measure => simp [intOf]
          · skip
            have q1 : (fk != 3) = true := by rw [bne_iff_ne]; exact e2
            have q2 : (f_r == rd) = true := by rw [e3]; simp
            have q3 : (f_s == ((sl : Nat) : Int)) = true := by rw [e4]; simp
            have q4 : (f_m == ((om : Nat) : Int)) = true := by rw [e5]; simp
            clear e2 e3 e4 e5
            have y0 := XF.cell 0 (x := .int .i64 fk) rfl
            have y1 := XF.cell 1 (x := .int .i64 f_r) rfl
            have y2 := XF.cell 2 (x := .int .i64 f_s) rfl
            have y3 := XF.cell 3 (x := .int .i64 f_m) rfl
            have y4 := XF.cell 4 (x := .slice A2 fd.length c2) rfl
            have o0 := hO5.cell 0 (x := .int .i64 rd) rfl
            have o1 := hO5.cell 1 (x := .int .i64 (sl : Nat)) rfl
            have o2 := hO5.cell 2 (x := .int .i64 (om : Nat)) rfl
            have r0 := hR5.cell 0 (x := .int .i64 0) rfl
            have f0 := hR5.frozen 0
            have r1 := hR5.cell 1 (x := .int .i64 0) rfl
            have f1 := hR5.frozen 1
            have r2 := hR5.cell 2 (x := .int .i64 0) rfl
            have f2 := hR5.frozen 2
            have r3 := hR5.cell 3 (x := .int .i64 0) rfl
            have f3 := hR5.frozen 3
            have r4 := hR5.cell 4 (x := .slice none 0 0) rfl
            have f4 := hR5.frozen 4
            have hvf := Lib.hid (((((hv5.setFar ⟨w.heap.size, 0, none⟩ (.int .i64 fk) hfar).setFar ⟨w.heap.size, 1, none⟩ (.int .i64 f_r) hfar).setFar ⟨w.heap.size, 2, none⟩ (.int .i64 f_s) hfar).setFar ⟨w.heap.size, 3, none⟩ (.int .i64 f_m) hfar).setFar ⟨w.heap.size, 4, none⟩ (.slice A2 fd.length c2) hfar)
            have hbf := Lib.hid (((((b5.setCell (p := ⟨w.heap.size, 0, none⟩) (Nat.le_refl _) (.int .i64 fk)).setCell (p := ⟨w.heap.size, 1, none⟩) (Nat.le_refl _) (.int .i64 f_r)).setCell (p := ⟨w.heap.size, 2, none⟩) (Nat.le_refl _) (.int .i64 f_s)).setCell (p := ⟨w.heap.size, 3, none⟩) (Nat.le_refl _) (.int .i64 f_m)).setCell (p := ⟨w.heap.size, 4, none⟩) (Nat.le_refl _) (.slice A2 fd.length c2))
            have HF := Lib.hid (fun e w' h => F0 e w' hn h)
            clear F0 hn XF hR5 hS5 hO5 b5 hv5 HX HY
            go_wp2
            refine bodyPost_ret (v := .tuple #[.agg #[.int .i64 fk, .int .i64 f_r, .int .i64 f_s, .int .i64 f_m, .slice A2 fd.length c2], .bool true]) ?_ rfl (HF.out _ _ ⟨_, rfl, hvf.out.base hbase, hbf.out⟩)
            rw [results_cell_tmp rfl]
            go_simp
        · skip
          go_simp
          have b14 := br.alloc br.size (.cells #[.int .i64 0, .int .i64 0, .int .i64 0, .int .i64 0, .slice none 0 0] 137)
          have X14 := Blk.new wr.drew wr.heap.size rfl #[.int .i64 0, .int .i64 0, .int .i64 0, .int .i64 0, .slice none 0 0] 137
          refine hK.out _ _ (HH.out _ b14) (fun hHeld => ?_)
          clear hK K
          try simp only [Act.put, List.setIfInBounds_toArray, List.set_cons_zero, List.set_cons_succ]
          refine wpAnyH_ready (rs := [5]) (by kernel_rfl) (by simp) ?_
          refine (AllReadyH.cons rfl (fun K hK => ?_) AllReadyH.nil)
          go_simp
          refine (HX _ (b0.trans (b14.mono b0.size))).out.mono ?_
          rintro _ w15 ⟨v, rfl, hv, d15⟩
          clear FN F1
          generalize Fr.err x ⟨rd, (sl : Nat), (om : Nat)⟩ = er at *
          generalize Fr.res x ⟨rd, (sl : Nat), (om : Nat)⟩ = fr at *
          rw [hT fr] at hh
          obtain ⟨fk, ⟨f_r, f_s, f_m⟩, fd⟩ := fr
          obtain ⟨A2, c2, rfl, -⟩ := hv.sees.at_
          simp only at hv F0 hh
          unfold frV
          simp only
          have b15 := b14.trans (d15.mono b14.size)
          have X14x := X14.below d15 X14.lt
          refine hK.out _ _ (HH.out _ b15) (fun hHeld => ?_)
          clear hK K
          try simp only [Act.put, List.setIfInBounds_toArray, List.set_cons_zero, List.set_cons_succ]
          refine wpAnyH_take (i := 6) (oi := { dst := some 32, op := _, type := _, pos := _, after := _, guard := none }) (v := ?_) rfl (by kernel_rfl) (by kernel_rfl) (by kernel_rfl) (fun _ _ _ h => h) (Or.inl ⟨by rfl, ?_⟩) (by assumption) ?_
          rotate_left 1
          · (intro wz hSw; go_simp; try with_reducible rfl)
          try simp only [Act.put, List.setIfInBounds_toArray, List.set_cons_zero, List.set_cons_succ]
          refine wpAnyH_take (i := 7) (oi := { dst := some 39, op := _, type := _, pos := _, after := _, guard := none }) (v := ?_) rfl (by kernel_rfl) (by kernel_rfl) (by kernel_rfl) (fun _ _ _ h => h) (Or.inl ⟨by rfl, ?_⟩) (by assumption) ?_
          rotate_left 1
          · (intro wz hSw; go_simp; try with_reducible rfl)
          try simp only [Act.put, List.setIfInBounds_toArray, List.set_cons_zero, List.set_cons_succ]
          refine wpAnyH_take (i := 8) (oi := { dst := some 40, op := _, type := _, pos := _, after := _, guard := none }) (v := ?_) rfl (by kernel_rfl) (by kernel_rfl) (by kernel_rfl) (fun _ _ _ h => h) (Or.inl ⟨by rfl, ?_⟩) (by assumption) ?_
          rotate_left 1
          · (intro wz hSw; go_simp; try with_reducible rfl)
          try simp only [Act.put, List.setIfInBounds_toArray, List.set_cons_zero, List.set_cons_succ]
          refine wpAnyH_ready (rs := [10]) (by kernel_rfl) (by simp) ?_
          refine (AllReadyH.cons rfl (fun K hK => ?_) AllReadyH.nil)
          have y0 := X14x.cell 0 (x := .int .i64 0) rfl
          have z0 := X14x.frozen 0
          have y1 := X14x.cell 1 (x := .int .i64 0) rfl
          have z1 := X14x.frozen 1
          have y2 := X14x.cell 2 (x := .int .i64 0) rfl
          have z2 := X14x.frozen 2
          have y3 := X14x.cell 3 (x := .int .i64 0) rfl
          have z3 := X14x.frozen 3
          have y4 := X14x.cell 4 (x := .slice none 0 0) rfl
          have z4 := X14x.frozen 4
          go_simp
          have le : wr.heap.size ≤ wr.heap.size := br.size
          have XF : Blk _ wr.heap.size #[.int .i64 fk, .int .i64 f_r, .int .i64 f_s, .int .i64 f_m, .slice A2 fd.length c2] 137 := (((((X14x.set 0 (.int .i64 fk)).set 1 (.int .i64 f_r)).set 2 (.int .i64 f_s)).set 3 (.int .i64 f_m)).set 4 (.slice A2 fd.length c2)).eq (by simp)
          have bF := (((((b15.setCell (p := ⟨wr.heap.size, 0, none⟩) le (.int .i64 fk)).setCell (p := ⟨wr.heap.size, 1, none⟩) le (.int .i64 f_r)).setCell (p := ⟨wr.heap.size, 2, none⟩) le (.int .i64 f_s)).setCell (p := ⟨wr.heap.size, 3, none⟩) le (.int .i64 f_m)).setCell (p := ⟨wr.heap.size, 4, none⟩) le (.slice A2 fd.length c2))
          refine hK.out _ _ (HH.out _ bF) (fun hHeld => ?_)
          clear y0 z0 y1 z1 y2 z2 y3 z3 y4 z4
          clear hK K
          try simp only [Act.put, List.setIfInBounds_toArray, List.set_cons_zero, List.set_cons_succ]
          refine wpAnyH_take (i := 11) (oi := { dst := some 12, op := _, type := _, pos := _, after := _, guard := none }) (v := ?_) rfl (by kernel_rfl) (by kernel_rfl) (by kernel_rfl) (fun _ _ _ h => h) (Or.inl ⟨by rfl, ?_⟩) (by assumption) ?_
          rotate_left 1
          · (intro wz hSw; go_simp; try with_reducible rfl)
          try simp only [Act.put, List.setIfInBounds_toArray, List.set_cons_zero, List.set_cons_succ]
          refine wpAnyH_done (by kernel_rfl) ?_ _
          have hv5 := (((((hv.setFar ⟨wr.heap.size, 0, none⟩ (.int .i64 fk) (by simp)).setFar ⟨wr.heap.size, 1, none⟩ (.int .i64 f_r) (by simp)).setFar ⟨wr.heap.size, 2, none⟩ (.int .i64 f_s) (by simp)).setFar ⟨wr.heap.size, 3, none⟩ (.int .i64 f_m) (by simp)).setFar ⟨wr.heap.size, 4, none⟩ (.slice A2 fd.length c2) (by simp))
          have hR5 := hR.below bF hR.lt
          have hO5 := hO.below bF hO.lt
          have hS5 := hS.below bF hS.lt
          have b5 := b0.trans (bF.mono b0.size)
          have hbase : w.heap.size ≤ ((wr.drew.alloc (.cells #[.int .i64 0, .int .i64 0, .int .i64 0, .int .i64 0, .slice none 0 0] 137))).heap.size ∧ w.heap.size < ((wr.drew.alloc (.cells #[.int .i64 0, .int .i64 0, .int .i64 0, .int .i64 0, .slice none 0 0] 137))).heap.size := by have := b0.size; simp; omega
          clear hv bF hR hO hS HH S0
          generalize World.setCell _ ⟨wr.heap.size, 4, none⟩ _ = w5 at *
          generalize wr.heap.size = fa at *
          generalize ((wr.drew.alloc (.cells #[.int .i64 0, .int .i64 0, .int .i64 0, .int .i64 0, .slice none 0 0] 137))).heap.size = fb at *
          obtain ⟨hbase, hfar⟩ := hbase
          have hcase : (er ≠ 0 ∧ hb = false) ∨ (er = 0 ∧ fk = 3 ∧ hb = false) ∨ (er = 0 ∧ fk ≠ 3 ∧ f_r ≠ rd ∧ hb = false) ∨ (er = 0 ∧ fk ≠ 3 ∧ f_r = rd ∧ f_s ≠ (sl : Nat) ∧ hb = false) ∨ (er = 0 ∧ fk ≠ 3 ∧ f_r = rd ∧ f_s = (sl : Nat) ∧ f_m ≠ (om : Nat) ∧ hb = false) ∨ (er = 0 ∧ fk ≠ 3 ∧ f_r = rd ∧ f_s = (sl : Nat) ∧ f_m = (om : Nat) ∧ hb = true) := hit_own hh
          clear hh hT
          rcases hcase with ⟨e1, hn⟩ | ⟨rfl, e2, hn⟩ | ⟨rfl, e2, e3, hn⟩ | ⟨rfl, e2, e3, e4, hn⟩ | ⟨rfl, e2, e3, e4, e5, hn⟩ | ⟨rfl, e2, e3, e4, e5, hn⟩
          · skip
            have q0 : (er == 0) = false := by rw [beq_eq_false_iff_ne]; exact e1
            clear e1
            have y0 := XF.cell 0 (x := .int .i64 fk) rfl
            have y1 := XF.cell 1 (x := .int .i64 f_r) rfl
            have y2 := XF.cell 2 (x := .int .i64 f_s) rfl
            have y3 := XF.cell 3 (x := .int .i64 f_m) rfl
            have y4 := XF.cell 4 (x := .slice A2 fd.length c2) rfl
            have o0 := hO5.cell 0 (x := .int .i64 rd) rfl
            have o1 := hO5.cell 1 (x := .int .i64 (sl : Nat)) rfl
            have o2 := hO5.cell 2 (x := .int .i64 (om : Nat)) rfl
            have HN := Lib.hid hn
            have HH := Lib.hid (And.intro b5 (And.intro hR5 (And.intro hO5 hS5)))
            clear F0 hn XF hR5 hS5 hO5 b5 hv5 HX HY
            go_wp2
            go_roundw
            case rel => exact ⟨1, by omega, by go_num, fun _ => HN.out, fun h => absurd h (by omega), HH.out.1, HH.out.2.1, HH.out.2.2.1, HH.out.2.2.2⟩
            case measure => simp [intOf]
          · skip
            have q1 : (fk != 3) = false := by rw [e2]; rfl
            clear e2
            have y0 := XF.cell 0 (x := .int .i64 fk) rfl
            have y1 := XF.cell 1 (x := .int .i64 f_r) rfl
            have y2 := XF.cell 2 (x := .int .i64 f_s) rfl
            have y3 := XF.cell 3 (x := .int .i64 f_m) rfl
            have y4 := XF.cell 4 (x := .slice A2 fd.length c2) rfl
            have o0 := hO5.cell 0 (x := .int .i64 rd) rfl
            have o1 := hO5.cell 1 (x := .int .i64 (sl : Nat)) rfl
            have o2 := hO5.cell 2 (x := .int .i64 (om : Nat)) rfl
            have HN := Lib.hid hn
            have HH := Lib.hid (And.intro b5 (And.intro hR5 (And.intro hO5 hS5)))
            clear F0 hn XF hR5 hS5 hO5 b5 hv5 HX HY
            go_wp2
            go_roundw
            case rel => exact ⟨1, by omega, by go_num, fun _ => HN.out, fun h => absurd h (by omega), HH.out.1, HH.out.2.1, HH.out.2.2.1, HH.out.2.2.2⟩
            case measure => simp [intOf]
          · skip
            have q1 : (fk != 3) = true := by rw [bne_iff_ne]; exact e2
            have q2 : (f_r == rd) = false := by rw [beq_eq_false_iff_ne]; exact e3
            clear e2 e3
            have y0 := XF.cell 0 (x := .int .i64 fk) rfl
            have y1 := XF.cell 1 (x := .int .i64 f_r) rfl
            have y2 := XF.cell 2 (x := .int .i64 f_s) rfl
            have y3 := XF.cell 3 (x := .int .i64 f_m) rfl
            have y4 := XF.cell 4 (x := .slice A2 fd.length c2) rfl
            have o0 := hO5.cell 0 (x := .int .i64 rd) rfl
            have o1 := hO5.cell 1 (x := .int .i64 (sl : Nat)) rfl
            have o2 := hO5.cell 2 (x := .int .i64 (om : Nat)) rfl
            have HN := Lib.hid hn
            have HH := Lib.hid (And.intro b5 (And.intro hR5 (And.intro hO5 hS5)))
            clear F0 hn XF hR5 hS5 hO5 b5 hv5 HX HY
            go_wp2
            go_roundw
            case rel => exact ⟨1, by omega, by go_num, fun _ => HN.out, fun h => absurd h (by omega), HH.out.1, HH.out.2.1, HH.out.2.2.1, HH.out.2.2.2⟩
            case measure => simp [intOf]
          · skip
            have q1 : (fk != 3) = true := by rw [bne_iff_ne]; exact e2
            have q2 : (f_r == rd) = true := by rw [e3]; simp
            have q3 : (f_s == ((sl : Nat) : Int)) = false := by rw [beq_eq_false_iff_ne]; exact e4
            clear e2 e3 e4
            have y0 := XF.cell 0 (x := .int .i64 fk) rfl
            have y1 := XF.cell 1 (x := .int .i64 f_r) rfl
            have y2 := XF.cell 2 (x := .int .i64 f_s) rfl
            have y3 := XF.cell 3 (x := .int .i64 f_m) rfl
            have y4 := XF.cell 4 (x := .slice A2 fd.length c2) rfl
            have o0 := hO5.cell 0 (x := .int .i64 rd) rfl
            have o1 := hO5.cell 1 (x := .int .i64 (sl : Nat)) rfl
            have o2 := hO5.cell 2 (x := .int .i64 (om : Nat)) rfl
            have HN := Lib.hid hn
            have HH := Lib.hid (And.intro b5 (And.intro hR5 (And.intro hO5 hS5)))
            clear F0 hn XF hR5 hS5 hO5 b5 hv5 HX HY
            go_wp2
            go_roundw
            case rel => exact ⟨1, by omega, by go_num, fun _ => HN.out, fun h => absurd h (by omega), HH.out.1, HH.out.2.1, HH.out.2.2.1, HH.out.2.2.2⟩
            case measure => simp [intOf]
          · skip
            have q1 : (fk != 3) = true := by rw [bne_iff_ne]; exact e2
            have q2 : (f_r == rd) = true := by rw [e3]; simp
            have q3 : (f_s == ((sl : Nat) : Int)) = true := by rw [e4]; simp
            have q4 : (f_m == ((om : Nat) : Int)) = false := by rw [beq_eq_false_iff_ne]; exact e5
            clear e2 e3 e4 e5
            have y0 := XF.cell 0 (x := .int .i64 fk) rfl
            have y1 := XF.cell 1 (x := .int .i64 f_r) rfl
            have y2 := XF.cell 2 (x := .int .i64 f_s) rfl
            have y3 := XF.cell 3 (x := .int .i64 f_m) rfl
            have y4 := XF.cell 4 (x := .slice A2 fd.length c2) rfl
            have o0 := hO5.cell 0 (x := .int .i64 rd) rfl
            have o1 := hO5.cell 1 (x := .int .i64 (sl : Nat)) rfl
            have o2 := hO5.cell 2 (x := .int .i64 (om : Nat)) rfl
            have HN := Lib.hid hn
            have HH := Lib.hid (And.intro b5 (And.intro hR5 (And.intro hO5 hS5)))
            clear F0 hn XF hR5 hS5 hO5 b5 hv5 HX HY
            go_wp2
            go_roundw
            case rel => exact ⟨1, by omega, by go_num, fun _ => HN.out, fun h => absurd h (by omega), HH.out.1, HH.out.2.1, HH.out.2.2.1, HH.out.2.2.2⟩
            case measure => simp [intOf]
          · skip
            have q1 : (fk != 3) = true := by rw [bne_iff_ne]; exact e2
            have q2 : (f_r == rd) = true := by rw [e3]; simp
            have q3 : (f_s == ((sl : Nat) : Int)) = true := by rw [e4]; simp
            have q4 : (f_m == ((om : Nat) : Int)) = true := by rw [e5]; simp
            clear e2 e3 e4 e5
            have y0 := XF.cell 0 (x := .int .i64 fk) rfl
            have y1 := XF.cell 1 (x := .int .i64 f_r) rfl
            have y2 := XF.cell 2 (x := .int .i64 f_s) rfl
            have y3 := XF.cell 3 (x := .int .i64 f_m) rfl
            have y4 := XF.cell 4 (x := .slice A2 fd.length c2) rfl
            have o0 := hO5.cell 0 (x := .int .i64 rd) rfl
            have o1 := hO5.cell 1 (x := .int .i64 (sl : Nat)) rfl
            have o2 := hO5.cell 2 (x := .int .i64 (om : Nat)) rfl
            have r0 := hR5.cell 0 (x := .int .i64 0) rfl
            have f0 := hR5.frozen 0
            have r1 := hR5.cell 1 (x := .int .i64 0) rfl
            have f1 := hR5.frozen 1
            have r2 := hR5.cell 2 (x := .int .i64 0) rfl
            have f2 := hR5.frozen 2
            have r3 := hR5.cell 3 (x := .int .i64 0) rfl
            have f3 := hR5.frozen 3
            have r4 := hR5.cell 4 (x := .slice none 0 0) rfl
            have f4 := hR5.frozen 4
            have hvf := Lib.hid (((((hv5.setFar ⟨w.heap.size, 0, none⟩ (.int .i64 fk) hfar).setFar ⟨w.heap.size, 1, none⟩ (.int .i64 f_r) hfar).setFar ⟨w.heap.size, 2, none⟩ (.int .i64 f_s) hfar).setFar ⟨w.heap.size, 3, none⟩ (.int .i64 f_m) hfar).setFar ⟨w.heap.size, 4, none⟩ (.slice A2 fd.length c2) hfar)
            have hbf := Lib.hid (((((b5.setCell (p := ⟨w.heap.size, 0, none⟩) (Nat.le_refl _) (.int .i64 fk)).setCell (p := ⟨w.heap.size, 1, none⟩) (Nat.le_refl _) (.int .i64 f_r)).setCell (p := ⟨w.heap.size, 2, none⟩) (Nat.le_refl _) (.int .i64 f_s)).setCell (p := ⟨w.heap.size, 3, none⟩) (Nat.le_refl _) (.int .i64 f_m)).setCell (p := ⟨w.heap.size, 4, none⟩) (Nat.le_refl _) (.slice A2 fd.length c2))
            have HF := Lib.hid (fun e w' h => F0 e w' hn h)
            clear F0 hn XF hR5 hS5 hO5 b5 hv5 HX HY
            go_wp2
            refine bodyPost_ret (v := .tuple #[.agg #[.int .i64 fk, .int .i64 f_r, .int .i64 f_s, .int .i64 f_m, .slice A2 fd.length c2], .bool true]) ?_ rfl (HF.out _ _ ⟨_, rfl, hvf.out.base hbase, hbf.out⟩)
            rw [results_cell_tmp rfl]
            go_simp
      · have n0 := n0 (by omega)
        have F1 := fun e w' h => F1 e w' n0 h
        have hh : hitB ⟨rd, (sl : Nat), (om : Nat)⟩ T 2 y = (decide (Fr.err y ⟨rd, (sl : Nat), (om : Nat)⟩ = 0) && T (Fr.res y ⟨rd, (sl : Nat), (om : Nat)⟩)) := by unfold hitB; rw [decide_eq_true rfl, Bool.true_and]
        generalize hitB ⟨rd, (sl : Nat), (om : Nat)⟩ T 2 y = hb at *
        have HS : ∀ W, Below wr.heap.size wr W → (W.cell? ⟨w3.heap.size, 1, none⟩ = some (.slice Ay y.length cy) ∧ W.cell? ⟨sb, 0, none⟩ = some (.int .i64 rd) ∧ W.cell? ⟨sb, 1, none⟩ = some (.int .i64 (sl : Nat)) ∧ W.cell? ⟨sb, 2, none⟩ = some (.int .i64 (om : Nat))) := fun W hW => by
          have hS' := hS.below hW hS.lt
          have hO' := hO.below hW hO.lt
          exact ⟨hS'.cell 1 rfl, hO'.cell 0 rfl, hO'.cell 1 rfl, hO'.cell 2 rfl⟩
        have br := (Below.refl wr.heap.size wr).drew
        have S0 := Lib.hid (HS _ br)
        have HH := Lib.hid HS
        have hlr := hR.lt
        clear HS
        go_wp2_with fail
        refine wp_region_held_drew (S := fun W => W.cell? ⟨w3.heap.size, 1, none⟩ = some (.slice Ay y.length cy) ∧ W.cell? ⟨sb, 0, none⟩ = some (.int .i64 rd) ∧ W.cell? ⟨sb, 1, none⟩ = some (.int .i64 (sl : Nat)) ∧ W.cell? ⟨sb, 2, none⟩ = some (.int .i64 (om : Nat))) (by kernel_rfl) S0.out (fun hHeld => ?_)
        refine wpAnyH_take (i := 0) (oi := { dst := some 33, op := _, type := _, pos := _, after := _, guard := none }) (v := ?_) rfl (by kernel_rfl) (by kernel_rfl) (by kernel_rfl) (fun _ _ _ h => h) (Or.inl ⟨by rfl, ?_⟩) (by assumption) ?_
        rotate_left 1
        · (intro wz hSw; go_simp; try with_reducible rfl)
        try simp only [Act.put, List.setIfInBounds_toArray, List.set_cons_zero, List.set_cons_succ]
        refine wpAnyH_take (i := 1) (oi := { dst := some 34, op := _, type := _, pos := _, after := _, guard := none }) (v := ?_) rfl (by kernel_rfl) (by kernel_rfl) (by kernel_rfl) (fun _ _ _ h => h) (Or.inl ⟨by rfl, ?_⟩) (by assumption) ?_
        rotate_left 1
        · (intro wz hSw; go_simp; try with_reducible rfl)
        try simp only [Act.put, List.setIfInBounds_toArray, List.set_cons_zero, List.set_cons_succ]
        refine wpAnyH_take (i := 2) (oi := { dst := some 35, op := _, type := _, pos := _, after := _, guard := none }) (v := ?_) rfl (by kernel_rfl) (by kernel_rfl) (by kernel_rfl) (fun _ _ _ h => h) (Or.inl ⟨by rfl, ?_⟩) (by assumption) ?_
        rotate_left 1
        · (intro wz hSw; go_simp; try with_reducible rfl)
        try simp only [Act.put, List.setIfInBounds_toArray, List.set_cons_zero, List.set_cons_succ]
        refine wpAnyH_take (i := 3) (oi := { dst := some 36, op := _, type := _, pos := _, after := _, guard := none }) (v := ?_) rfl (by kernel_rfl) (by kernel_rfl) (by kernel_rfl) (fun _ _ _ h => h) (Or.inl ⟨by rfl, ?_⟩) (by assumption) ?_
        rotate_left 1
        · (intro wz hSw; go_simp; try with_reducible rfl)
        try simp only [Act.put, List.setIfInBounds_toArray, List.set_cons_zero, List.set_cons_succ]
        refine wpAnyH_take (i := 4) (oi := { dst := some 37, op := _, type := _, pos := _, after := _, guard := none }) (v := ?_) rfl (by kernel_rfl) (by kernel_rfl) (by kernel_rfl) (fun _ _ _ h => h) (Or.inl ⟨by rfl, ?_⟩) (by assumption) ?_
        rotate_left 1
        · (intro wz hSw; go_simp; try with_reducible rfl)
        try simp only [Act.put, List.setIfInBounds_toArray, List.set_cons_zero, List.set_cons_succ]
        refine wpAnyH_ready (rs := [5,9]) (by kernel_rfl) (by simp) ?_
        refine (AllReadyH.cons rfl (fun K hK => ?_) (AllReadyH.cons rfl (fun K hK => ?_) AllReadyH.nil))
        · skip
          go_simp
          refine (HY _ (b0.trans (br.mono b0.size))).out.mono ?_
          rintro _ w11 ⟨v, rfl, hv, d11⟩
          clear FN F0
          generalize Fr.err y ⟨rd, (sl : Nat), (om : Nat)⟩ = er at *
          generalize Fr.res y ⟨rd, (sl : Nat), (om : Nat)⟩ = fr at *
          rw [hT fr] at hh
          obtain ⟨fk, ⟨f_r, f_s, f_m⟩, fd⟩ := fr
          obtain ⟨A2, c2, rfl, -⟩ := hv.sees.at_
          simp only at hv F1 hh
          unfold frV
          simp only
          have b11 := br.trans (d11.mono br.size)
          refine hK.out _ _ (HH.out _ b11) (fun hHeld => ?_)
          clear hK K
          try simp only [Act.put, List.setIfInBounds_toArray, List.set_cons_zero, List.set_cons_succ]
          refine wpAnyH_take (i := 6) (oi := { dst := some 32, op := _, type := _, pos := _, after := _, guard := none }) (v := ?_) rfl (by kernel_rfl) (by kernel_rfl) (by kernel_rfl) (fun _ _ _ h => h) (Or.inl ⟨by rfl, ?_⟩) (by assumption) ?_
          rotate_left 1
          · (intro wz hSw; go_simp; try with_reducible rfl)
          try simp only [Act.put, List.setIfInBounds_toArray, List.set_cons_zero, List.set_cons_succ]
          refine wpAnyH_take (i := 7) (oi := { dst := some 39, op := _, type := _, pos := _, after := _, guard := none }) (v := ?_) rfl (by kernel_rfl) (by kernel_rfl) (by kernel_rfl) (fun _ _ _ h => h) (Or.inl ⟨by rfl, ?_⟩) (by assumption) ?_
          rotate_left 1
          · (intro wz hSw; go_simp; try with_reducible rfl)
          try simp only [Act.put, List.setIfInBounds_toArray, List.set_cons_zero, List.set_cons_succ]
          refine wpAnyH_take (i := 8) (oi := { dst := some 40, op := _, type := _, pos := _, after := _, guard := none }) (v := ?_) rfl (by kernel_rfl) (by kernel_rfl) (by kernel_rfl) (fun _ _ _ h => h) (Or.inl ⟨by rfl, ?_⟩) (by assumption) ?_
          rotate_left 1
          · (intro wz hSw; go_simp; try with_reducible rfl)
          try simp only [Act.put, List.setIfInBounds_toArray, List.set_cons_zero, List.set_cons_succ]
          refine wpAnyH_ready (rs := [9]) (by kernel_rfl) (by simp) ?_
          refine (AllReadyH.cons rfl (fun K hK => ?_) AllReadyH.nil)
          go_simp
          have b12 := b11.alloc b11.size (.cells #[.int .i64 0, .int .i64 0, .int .i64 0, .int .i64 0, .slice none 0 0] 137)
          have X12 := Blk.new w11 (w11).heap.size rfl #[.int .i64 0, .int .i64 0, .int .i64 0, .int .i64 0, .slice none 0 0] 137
          refine hK.out _ _ (HH.out _ b12) (fun hHeld => ?_)
          clear hK K
          try simp only [Act.put, List.setIfInBounds_toArray, List.set_cons_zero, List.set_cons_succ]
          refine wpAnyH_ready (rs := [10]) (by kernel_rfl) (by simp) ?_
          refine (AllReadyH.cons rfl (fun K hK => ?_) AllReadyH.nil)
          have y0 := X12.cell 0 (x := .int .i64 0) rfl
          have z0 := X12.frozen 0
          have y1 := X12.cell 1 (x := .int .i64 0) rfl
          have z1 := X12.frozen 1
          have y2 := X12.cell 2 (x := .int .i64 0) rfl
          have z2 := X12.frozen 2
          have y3 := X12.cell 3 (x := .int .i64 0) rfl
          have z3 := X12.frozen 3
          have y4 := X12.cell 4 (x := .slice none 0 0) rfl
          have z4 := X12.frozen 4
          go_simp
          have XF := Blk.new w11 (w11).heap.size rfl #[.int .i64 fk, .int .i64 f_r, .int .i64 f_s, .int .i64 f_m, .slice A2 fd.length c2] 137
          have bF := b11.alloc b11.size (.cells #[.int .i64 fk, .int .i64 f_r, .int .i64 f_s, .int .i64 f_m, .slice A2 fd.length c2] 137)
          have le : wr.heap.size ≤ (w11).heap.size := b11.size
          refine hK.out _ _ (HH.out _ bF) (fun hHeld => ?_)
          clear y0 z0 y1 z1 y2 z2 y3 z3 y4 z4
          clear hK K
          try simp only [Act.put, List.setIfInBounds_toArray, List.set_cons_zero, List.set_cons_succ]
          refine wpAnyH_take (i := 11) (oi := { dst := some 12, op := _, type := _, pos := _, after := _, guard := none }) (v := ?_) rfl (by kernel_rfl) (by kernel_rfl) (by kernel_rfl) (fun _ _ _ h => h) (Or.inl ⟨by rfl, ?_⟩) (by assumption) ?_
          rotate_left 1
          · (intro wz hSw; go_simp; try with_reducible rfl)
          try simp only [Act.put, List.setIfInBounds_toArray, List.set_cons_zero, List.set_cons_succ]
          refine wpAnyH_done (by kernel_rfl) ?_ _
          have hv5 := hv.alloc (.cells #[.int .i64 fk, .int .i64 f_r, .int .i64 f_s, .int .i64 f_m, .slice A2 fd.length c2] 137)
          have hR5 := hR.below bF hR.lt
          have hO5 := hO.below bF hO.lt
          have hS5 := hS.below bF hS.lt
          have b5 := b0.trans (bF.mono b0.size)
          have hbase : w.heap.size ≤ (wr.drew).heap.size ∧ w.heap.size < (wr.drew).heap.size := by have := b0.size; simp; omega
          clear hv bF hR hO hS HH S0
          generalize World.alloc w11 (.cells #[.int .i64 fk, .int .i64 f_r, .int .i64 f_s, .int .i64 f_m, .slice A2 fd.length c2] 137) = w5 at *
          generalize (w11).heap.size = fa at *
          generalize (wr.drew).heap.size = fb at *
          obtain ⟨hbase, hfar⟩ := hbase
          have hcase : (er ≠ 0 ∧ hb = false) ∨ (er = 0 ∧ fk = 3 ∧ hb = false) ∨ (er = 0 ∧ fk ≠ 3 ∧ f_r ≠ rd ∧ hb = false) ∨ (er = 0 ∧ fk ≠ 3 ∧ f_r = rd ∧ f_s ≠ (sl : Nat) ∧ hb = false) ∨ (er = 0 ∧ fk ≠ 3 ∧ f_r = rd ∧ f_s = (sl : Nat) ∧ f_m ≠ (om : Nat) ∧ hb = false) ∨ (er = 0 ∧ fk ≠ 3 ∧ f_r = rd ∧ f_s = (sl : Nat) ∧ f_m = (om : Nat) ∧ hb = true) := hit_own hh
          clear hh hT
          rcases hcase with ⟨e1, hn⟩ | ⟨rfl, e2, hn⟩ | ⟨rfl, e2, e3, hn⟩ | ⟨rfl, e2, e3, e4, hn⟩ | ⟨rfl, e2, e3, e4, e5, hn⟩ | ⟨rfl, e2, e3, e4, e5, hn⟩
          · skip
            have q0 : (er == 0) = false := by rw [beq_eq_false_iff_ne]; exact e1
            clear e1
            have y0 := XF.cell 0 (x := .int .i64 fk) rfl
            have y1 := XF.cell 1 (x := .int .i64 f_r) rfl
            have y2 := XF.cell 2 (x := .int .i64 f_s) rfl
            have y3 := XF.cell 3 (x := .int .i64 f_m) rfl
            have y4 := XF.cell 4 (x := .slice A2 fd.length c2) rfl
            have o0 := hO5.cell 0 (x := .int .i64 rd) rfl
            have o1 := hO5.cell 1 (x := .int .i64 (sl : Nat)) rfl
            have o2 := hO5.cell 2 (x := .int .i64 (om : Nat)) rfl
            have HN := Lib.hid hn
            have HH := Lib.hid (And.intro b5 (And.intro hR5 (And.intro hO5 hS5)))
            clear F1 hn XF hR5 hS5 hO5 b5 hv5 HX HY
            go_wp2
            go_roundw
            case rel => exact ⟨2, by omega, by go_num, fun _ => n0, fun _ => HN.out, HH.out.1, HH.out.2.1, HH.out.2.2.1, HH.out.2.2.2⟩
            case measure => simp [intOf]
          · skip
            have q1 : (fk != 3) = false := by rw [e2]; rfl
            clear e2
            have y0 := XF.cell 0 (x := .int .i64 fk) rfl
            have y1 := XF.cell 1 (x := .int .i64 f_r) rfl
            have y2 := XF.cell 2 (x := .int .i64 f_s) rfl
            have y3 := XF.cell 3 (x := .int .i64 f_m) rfl
            have y4 := XF.cell 4 (x := .slice A2 fd.length c2) rfl
            have o0 := hO5.cell 0 (x := .int .i64 rd) rfl
            have o1 := hO5.cell 1 (x := .int .i64 (sl : Nat)) rfl
            have o2 := hO5.cell 2 (x := .int .i64 (om : Nat)) rfl
            have HN := Lib.hid hn
            have HH := Lib.hid (And.intro b5 (And.intro hR5 (And.intro hO5 hS5)))
            clear F1 hn XF hR5 hS5 hO5 b5 hv5 HX HY
            go_wp2
            go_roundw
            case rel => exact ⟨2, by omega, by go_num, fun _ => n0, fun _ => HN.out, HH.out.1, HH.out.2.1, HH.out.2.2.1, HH.out.2.2.2⟩
            case measure => simp [intOf]
          · skip
            have q1 : (fk != 3) = true := by rw [bne_iff_ne]; exact e2
            have q2 : (f_r == rd) = false := by rw [beq_eq_false_iff_ne]; exact e3
            clear e2 e3
            have y0 := XF.cell 0 (x := .int .i64 fk) rfl
            have y1 := XF.cell 1 (x := .int .i64 f_r) rfl
            have y2 := XF.cell 2 (x := .int .i64 f_s) rfl
            have y3 := XF.cell 3 (x := .int .i64 f_m) rfl
            have y4 := XF.cell 4 (x := .slice A2 fd.length c2) rfl
            have o0 := hO5.cell 0 (x := .int .i64 rd) rfl
            have o1 := hO5.cell 1 (x := .int .i64 (sl : Nat)) rfl
            have o2 := hO5.cell 2 (x := .int .i64 (om : Nat)) rfl
            have HN := Lib.hid hn
            have HH := Lib.hid (And.intro b5 (And.intro hR5 (And.intro hO5 hS5)))
            clear F1 hn XF hR5 hS5 hO5 b5 hv5 HX HY
            go_wp2
            go_roundw
            case rel => exact ⟨2, by omega, by go_num, fun _ => n0, fun _ => HN.out, HH.out.1, HH.out.2.1, HH.out.2.2.1, HH.out.2.2.2⟩
            case measure => simp [intOf]
          · skip
            have q1 : (fk != 3) = true := by rw [bne_iff_ne]; exact e2
            have q2 : (f_r == rd) = true := by rw [e3]; simp
            have q3 : (f_s == ((sl : Nat) : Int)) = false := by rw [beq_eq_false_iff_ne]; exact e4
            clear e2 e3 e4
            have y0 := XF.cell 0 (x := .int .i64 fk) rfl
            have y1 := XF.cell 1 (x := .int .i64 f_r) rfl
            have y2 := XF.cell 2 (x := .int .i64 f_s) rfl
            have y3 := XF.cell 3 (x := .int .i64 f_m) rfl
            have y4 := XF.cell 4 (x := .slice A2 fd.length c2) rfl
            have o0 := hO5.cell 0 (x := .int .i64 rd) rfl
            have o1 := hO5.cell 1 (x := .int .i64 (sl : Nat)) rfl
            have o2 := hO5.cell 2 (x := .int .i64 (om : Nat)) rfl
            have HN := Lib.hid hn
            have HH := Lib.hid (And.intro b5 (And.intro hR5 (And.intro hO5 hS5)))
            clear F1 hn XF hR5 hS5 hO5 b5 hv5 HX HY
            go_wp2
            go_roundw
            case rel => exact ⟨2, by omega, by go_num, fun _ => n0, fun _ => HN.out, HH.out.1, HH.out.2.1, HH.out.2.2.1, HH.out.2.2.2⟩
            case measure => simp [intOf]
          · skip
            have q1 : (fk != 3) = true := by rw [bne_iff_ne]; exact e2
            have q2 : (f_r == rd) = true := by rw [e3]; simp
            have q3 : (f_s == ((sl : Nat) : Int)) = true := by rw [e4]; simp
            have q4 : (f_m == ((om : Nat) : Int)) = false := by rw [beq_eq_false_iff_ne]; exact e5
            clear e2 e3 e4 e5
            have y0 := XF.cell 0 (x := .int .i64 fk) rfl
            have y1 := XF.cell 1 (x := .int .i64 f_r) rfl
            have y2 := XF.cell 2 (x := .int .i64 f_s) rfl
            have y3 := XF.cell 3 (x := .int .i64 f_m) rfl
            have y4 := XF.cell 4 (x := .slice A2 fd.length c2) rfl
            have o0 := hO5.cell 0 (x := .int .i64 rd) rfl
            have o1 := hO5.cell 1 (x := .int .i64 (sl : Nat)) rfl
            have o2 := hO5.cell 2 (x := .int .i64 (om : Nat)) rfl
            have HN := Lib.hid hn
            have HH := Lib.hid (And.intro b5 (And.intro hR5 (And.intro hO5 hS5)))
            clear F1 hn XF hR5 hS5 hO5 b5 hv5 HX HY
            go_wp2
            go_roundw
            case rel => exact ⟨2, by omega, by go_num, fun _ => n0, fun _ => HN.out, HH.out.1, HH.out.2.1, HH.out.2.2.1, HH.out.2.2.2⟩
            case measure => simp [intOf]
          · skip
            have q1 : (fk != 3) = true := by rw [bne_iff_ne]; exact e2
            have q2 : (f_r == rd) = true := by rw [e3]; simp
            have q3 : (f_s == ((sl : Nat) : Int)) = true := by rw [e4]; simp
            have q4 : (f_m == ((om : Nat) : Int)) = true := by rw [e5]; simp
            clear e2 e3 e4 e5
            have y0 := XF.cell 0 (x := .int .i64 fk) rfl
            have y1 := XF.cell 1 (x := .int .i64 f_r) rfl
            have y2 := XF.cell 2 (x := .int .i64 f_s) rfl
            have y3 := XF.cell 3 (x := .int .i64 f_m) rfl
            have y4 := XF.cell 4 (x := .slice A2 fd.length c2) rfl
            have o0 := hO5.cell 0 (x := .int .i64 rd) rfl
            have o1 := hO5.cell 1 (x := .int .i64 (sl : Nat)) rfl
            have o2 := hO5.cell 2 (x := .int .i64 (om : Nat)) rfl
            have r0 := hR5.cell 0 (x := .int .i64 0) rfl
            have f0 := hR5.frozen 0
            have r1 := hR5.cell 1 (x := .int .i64 0) rfl
            have f1 := hR5.frozen 1
            have r2 := hR5.cell 2 (x := .int .i64 0) rfl
            have f2 := hR5.frozen 2
            have r3 := hR5.cell 3 (x := .int .i64 0) rfl
            have f3 := hR5.frozen 3
            have r4 := hR5.cell 4 (x := .slice none 0 0) rfl
            have f4 := hR5.frozen 4
            have hvf := Lib.hid (((((hv5.setFar ⟨w.heap.size, 0, none⟩ (.int .i64 fk) hfar).setFar ⟨w.heap.size, 1, none⟩ (.int .i64 f_r) hfar).setFar ⟨w.heap.size, 2, none⟩ (.int .i64 f_s) hfar).setFar ⟨w.heap.size, 3, none⟩ (.int .i64 f_m) hfar).setFar ⟨w.heap.size, 4, none⟩ (.slice A2 fd.length c2) hfar)
            have hbf := Lib.hid (((((b5.setCell (p := ⟨w.heap.size, 0, none⟩) (Nat.le_refl _) (.int .i64 fk)).setCell (p := ⟨w.heap.size, 1, none⟩) (Nat.le_refl _) (.int .i64 f_r)).setCell (p := ⟨w.heap.size, 2, none⟩) (Nat.le_refl _) (.int .i64 f_s)).setCell (p := ⟨w.heap.size, 3, none⟩) (Nat.le_refl _) (.int .i64 f_m)).setCell (p := ⟨w.heap.size, 4, none⟩) (Nat.le_refl _) (.slice A2 fd.length c2))
            have HF := Lib.hid (fun e w' h => F1 e w' hn h)
            clear F1 hn XF hR5 hS5 hO5 b5 hv5 HX HY
            go_wp2
            refine bodyPost_ret (v := .tuple #[.agg #[.int .i64 fk, .int .i64 f_r, .int .i64 f_s, .int .i64 f_m, .slice A2 fd.length c2], .bool true]) ?_ rfl (HF.out _ _ ⟨_, rfl, hvf.out.base hbase, hbf.out⟩)
            rw [results_cell_tmp rfl]
            go_simp
        · skip
          go_simp
          have b14 := br.alloc br.size (.cells #[.int .i64 0, .int .i64 0, .int .i64 0, .int .i64 0, .slice none 0 0] 137)
          have X14 := Blk.new wr.drew wr.heap.size rfl #[.int .i64 0, .int .i64 0, .int .i64 0, .int .i64 0, .slice none 0 0] 137
          refine hK.out _ _ (HH.out _ b14) (fun hHeld => ?_)
          clear hK K
          try simp only [Act.put, List.setIfInBounds_toArray, List.set_cons_zero, List.set_cons_succ]
          refine wpAnyH_ready (rs := [5]) (by kernel_rfl) (by simp) ?_
          refine (AllReadyH.cons rfl (fun K hK => ?_) AllReadyH.nil)
          go_simp
          refine (HY _ (b0.trans (b14.mono b0.size))).out.mono ?_
          rintro _ w15 ⟨v, rfl, hv, d15⟩
          clear FN F0
          generalize Fr.err y ⟨rd, (sl : Nat), (om : Nat)⟩ = er at *
          generalize Fr.res y ⟨rd, (sl : Nat), (om : Nat)⟩ = fr at *
          rw [hT fr] at hh
          obtain ⟨fk, ⟨f_r, f_s, f_m⟩, fd⟩ := fr
          obtain ⟨A2, c2, rfl, -⟩ := hv.sees.at_
          simp only at hv F1 hh
          unfold frV
          simp only
          have b15 := b14.trans (d15.mono b14.size)
          have X14x := X14.below d15 X14.lt
          refine hK.out _ _ (HH.out _ b15) (fun hHeld => ?_)
          clear hK K
          try simp only [Act.put, List.setIfInBounds_toArray, List.set_cons_zero, List.set_cons_succ]
          refine wpAnyH_take (i := 6) (oi := { dst := some 32, op := _, type := _, pos := _, after := _, guard := none }) (v := ?_) rfl (by kernel_rfl) (by kernel_rfl) (by kernel_rfl) (fun _ _ _ h => h) (Or.inl ⟨by rfl, ?_⟩) (by assumption) ?_
          rotate_left 1
          · (intro wz hSw; go_simp; try with_reducible rfl)
          try simp only [Act.put, List.setIfInBounds_toArray, List.set_cons_zero, List.set_cons_succ]
          refine wpAnyH_take (i := 7) (oi := { dst := some 39, op := _, type := _, pos := _, after := _, guard := none }) (v := ?_) rfl (by kernel_rfl) (by kernel_rfl) (by kernel_rfl) (fun _ _ _ h => h) (Or.inl ⟨by rfl, ?_⟩) (by assumption) ?_
          rotate_left 1
          · (intro wz hSw; go_simp; try with_reducible rfl)
          try simp only [Act.put, List.setIfInBounds_toArray, List.set_cons_zero, List.set_cons_succ]
          refine wpAnyH_take (i := 8) (oi := { dst := some 40, op := _, type := _, pos := _, after := _, guard := none }) (v := ?_) rfl (by kernel_rfl) (by kernel_rfl) (by kernel_rfl) (fun _ _ _ h => h) (Or.inl ⟨by rfl, ?_⟩) (by assumption) ?_
          rotate_left 1
          · (intro wz hSw; go_simp; try with_reducible rfl)
          try simp only [Act.put, List.setIfInBounds_toArray, List.set_cons_zero, List.set_cons_succ]
          refine wpAnyH_ready (rs := [10]) (by kernel_rfl) (by simp) ?_
          refine (AllReadyH.cons rfl (fun K hK => ?_) AllReadyH.nil)
          have y0 := X14x.cell 0 (x := .int .i64 0) rfl
          have z0 := X14x.frozen 0
          have y1 := X14x.cell 1 (x := .int .i64 0) rfl
          have z1 := X14x.frozen 1
          have y2 := X14x.cell 2 (x := .int .i64 0) rfl
          have z2 := X14x.frozen 2
          have y3 := X14x.cell 3 (x := .int .i64 0) rfl
          have z3 := X14x.frozen 3
          have y4 := X14x.cell 4 (x := .slice none 0 0) rfl
          have z4 := X14x.frozen 4
          go_simp
          have le : wr.heap.size ≤ wr.heap.size := br.size
          have XF : Blk _ wr.heap.size #[.int .i64 fk, .int .i64 f_r, .int .i64 f_s, .int .i64 f_m, .slice A2 fd.length c2] 137 := (((((X14x.set 0 (.int .i64 fk)).set 1 (.int .i64 f_r)).set 2 (.int .i64 f_s)).set 3 (.int .i64 f_m)).set 4 (.slice A2 fd.length c2)).eq (by simp)
          have bF := (((((b15.setCell (p := ⟨wr.heap.size, 0, none⟩) le (.int .i64 fk)).setCell (p := ⟨wr.heap.size, 1, none⟩) le (.int .i64 f_r)).setCell (p := ⟨wr.heap.size, 2, none⟩) le (.int .i64 f_s)).setCell (p := ⟨wr.heap.size, 3, none⟩) le (.int .i64 f_m)).setCell (p := ⟨wr.heap.size, 4, none⟩) le (.slice A2 fd.length c2))
          refine hK.out _ _ (HH.out _ bF) (fun hHeld => ?_)
          clear y0 z0 y1 z1 y2 z2 y3 z3 y4 z4
          clear hK K
          try simp only [Act.put, List.setIfInBounds_toArray, List.set_cons_zero, List.set_cons_succ]
          refine wpAnyH_take (i := 11) (oi := { dst := some 12, op := _, type := _, pos := _, after := _, guard := none }) (v := ?_) rfl (by kernel_rfl) (by kernel_rfl) (by kernel_rfl) (fun _ _ _ h => h) (Or.inl ⟨by rfl, ?_⟩) (by assumption) ?_
          rotate_left 1
          · (intro wz hSw; go_simp; try with_reducible rfl)
          try simp only [Act.put, List.setIfInBounds_toArray, List.set_cons_zero, List.set_cons_succ]
          refine wpAnyH_done (by kernel_rfl) ?_ _
          have hv5 := (((((hv.setFar ⟨wr.heap.size, 0, none⟩ (.int .i64 fk) (by simp)).setFar ⟨wr.heap.size, 1, none⟩ (.int .i64 f_r) (by simp)).setFar ⟨wr.heap.size, 2, none⟩ (.int .i64 f_s) (by simp)).setFar ⟨wr.heap.size, 3, none⟩ (.int .i64 f_m) (by simp)).setFar ⟨wr.heap.size, 4, none⟩ (.slice A2 fd.length c2) (by simp))
          have hR5 := hR.below bF hR.lt
          have hO5 := hO.below bF hO.lt
          have hS5 := hS.below bF hS.lt
          have b5 := b0.trans (bF.mono b0.size)
          have hbase : w.heap.size ≤ ((wr.drew.alloc (.cells #[.int .i64 0, .int .i64 0, .int .i64 0, .int .i64 0, .slice none 0 0] 137))).heap.size ∧ w.heap.size < ((wr.drew.alloc (.cells #[.int .i64 0, .int .i64 0, .int .i64 0, .int .i64 0, .slice none 0 0] 137))).heap.size := by have := b0.size; simp; omega
          clear hv bF hR hO hS HH S0
          generalize World.setCell _ ⟨wr.heap.size, 4, none⟩ _ = w5 at *
          generalize wr.heap.size = fa at *
          generalize ((wr.drew.alloc (.cells #[.int .i64 0, .int .i64 0, .int .i64 0, .int .i64 0, .slice none 0 0] 137))).heap.size = fb at *
          obtain ⟨hbase, hfar⟩ := hbase
          have hcase : (er ≠ 0 ∧ hb = false) ∨ (er = 0 ∧ fk = 3 ∧ hb = false) ∨ (er = 0 ∧ fk ≠ 3 ∧ f_r ≠ rd ∧ hb = false) ∨ (er = 0 ∧ fk ≠ 3 ∧ f_r = rd ∧ f_s ≠ (sl : Nat) ∧ hb = false) ∨ (er = 0 ∧ fk ≠ 3 ∧ f_r = rd ∧ f_s = (sl : Nat) ∧ f_m ≠ (om : Nat) ∧ hb = false) ∨ (er = 0 ∧ fk ≠ 3 ∧ f_r = rd ∧ f_s = (sl : Nat) ∧ f_m = (om : Nat) ∧ hb = true) := hit_own hh
          clear hh hT
          rcases hcase with ⟨e1, hn⟩ | ⟨rfl, e2, hn⟩ | ⟨rfl, e2, e3, hn⟩ | ⟨rfl, e2, e3, e4, hn⟩ | ⟨rfl, e2, e3, e4, e5, hn⟩ | ⟨rfl, e2, e3, e4, e5, hn⟩
          · skip
            have q0 : (er == 0) = false := by rw [beq_eq_false_iff_ne]; exact e1
            clear e1
            have y0 := XF.cell 0 (x := .int .i64 fk) rfl
            have y1 := XF.cell 1 (x := .int .i64 f_r) rfl
            have y2 := XF.cell 2 (x := .int .i64 f_s) rfl
            have y3 := XF.cell 3 (x := .int .i64 f_m) rfl
            have y4 := XF.cell 4 (x := .slice A2 fd.length c2) rfl
            have o0 := hO5.cell 0 (x := .int .i64 rd) rfl
            have o1 := hO5.cell 1 (x := .int .i64 (sl : Nat)) rfl
            have o2 := hO5.cell 2 (x := .int .i64 (om : Nat)) rfl
            have HN := Lib.hid hn
            have HH := Lib.hid (And.intro b5 (And.intro hR5 (And.intro hO5 hS5)))
            clear F1 hn XF hR5 hS5 hO5 b5 hv5 HX HY
            go_wp2
            go_roundw
            case rel => exact ⟨2, by omega, by go_num, fun _ => n0, fun _ => HN.out, HH.out.1, HH.out.2.1, HH.out.2.2.1, HH.out.2.2.2⟩
            case measure => simp [intOf]
          · skip
            have q1 : (fk != 3) = false := by rw [e2]; rfl
            clear e2
            have y0 := XF.cell 0 (x := .int .i64 fk) rfl
            have y1 := XF.cell 1 (x := .int .i64 f_r) rfl
            have y2 := XF.cell 2 (x := .int .i64 f_s) rfl
            have y3 := XF.cell 3 (x := .int .i64 f_m) rfl
            have y4 := XF.cell 4 (x := .slice A2 fd.length c2) rfl
            have o0 := hO5.cell 0 (x := .int .i64 rd) rfl
            have o1 := hO5.cell 1 (x := .int .i64 (sl : Nat)) rfl
            have o2 := hO5.cell 2 (x := .int .i64 (om : Nat)) rfl
            have HN := Lib.hid hn
            have HH := Lib.hid (And.intro b5 (And.intro hR5 (And.intro hO5 hS5)))
            clear F1 hn XF hR5 hS5 hO5 b5 hv5 HX HY
            go_wp2
            go_roundw
            case rel => exact ⟨2, by omega, by go_num, fun _ => n0, fun _ => HN.out, HH.out.1, HH.out.2.1, HH.out.2.2.1, HH.out.2.2.2⟩
            case measure => simp [intOf]
          · skip
            have q1 : (fk != 3) = true := by rw [bne_iff_ne]; exact e2
            have q2 : (f_r == rd) = false := by rw [beq_eq_false_iff_ne]; exact e3
            clear e2 e3
            have y0 := XF.cell 0 (x := .int .i64 fk) rfl
            have y1 := XF.cell 1 (x := .int .i64 f_r) rfl
            have y2 := XF.cell 2 (x := .int .i64 f_s) rfl
            have y3 := XF.cell 3 (x := .int .i64 f_m) rfl
            have y4 := XF.cell 4 (x := .slice A2 fd.length c2) rfl
            have o0 := hO5.cell 0 (x := .int .i64 rd) rfl
            have o1 := hO5.cell 1 (x := .int .i64 (sl : Nat)) rfl
            have o2 := hO5.cell 2 (x := .int .i64 (om : Nat)) rfl
            have HN := Lib.hid hn
            have HH := Lib.hid (And.intro b5 (And.intro hR5 (And.intro hO5 hS5)))
            clear F1 hn XF hR5 hS5 hO5 b5 hv5 HX HY
            go_wp2
            go_roundw
            case rel => exact ⟨2, by omega, by go_num, fun _ => n0, fun _ => HN.out, HH.out.1, HH.out.2.1, HH.out.2.2.1, HH.out.2.2.2⟩
            case measure => simp [intOf]
          · skip
            have q1 : (fk != 3) = true := by rw [bne_iff_ne]; exact e2
            have q2 : (f_r == rd) = true := by rw [e3]; simp
            have q3 : (f_s == ((sl : Nat) : Int)) = false := by rw [beq_eq_false_iff_ne]; exact e4
            clear e2 e3 e4
            have y0 := XF.cell 0 (x := .int .i64 fk) rfl
            have y1 := XF.cell 1 (x := .int .i64 f_r) rfl
            have y2 := XF.cell 2 (x := .int .i64 f_s) rfl
            have y3 := XF.cell 3 (x := .int .i64 f_m) rfl
            have y4 := XF.cell 4 (x := .slice A2 fd.length c2) rfl
            have o0 := hO5.cell 0 (x := .int .i64 rd) rfl
            have o1 := hO5.cell 1 (x := .int .i64 (sl : Nat)) rfl
            have o2 := hO5.cell 2 (x := .int .i64 (om : Nat)) rfl
            have HN := Lib.hid hn
            have HH := Lib.hid (And.intro b5 (And.intro hR5 (And.intro hO5 hS5)))
            clear F1 hn XF hR5 hS5 hO5 b5 hv5 HX HY
            go_wp2
            go_roundw
            case rel => exact ⟨2, by omega, by go_num, fun _ => n0, fun _ => HN.out, HH.out.1, HH.out.2.1, HH.out.2.2.1, HH.out.2.2.2⟩
            case measure => simp [intOf]
          · skip
            have q1 : (fk != 3) = true := by rw [bne_iff_ne]; exact e2
            have q2 : (f_r == rd) = true := by rw [e3]; simp
            have q3 : (f_s == ((sl : Nat) : Int)) = true := by rw [e4]; simp
            have q4 : (f_m == ((om : Nat) : Int)) = false := by rw [beq_eq_false_iff_ne]; exact e5
            clear e2 e3 e4 e5
            have y0 := XF.cell 0 (x := .int .i64 fk) rfl
            have y1 := XF.cell 1 (x := .int .i64 f_r) rfl
            have y2 := XF.cell 2 (x := .int .i64 f_s) rfl
            have y3 := XF.cell 3 (x := .int .i64 f_m) rfl
            have y4 := XF.cell 4 (x := .slice A2 fd.length c2) rfl
            have o0 := hO5.cell 0 (x := .int .i64 rd) rfl
            have o1 := hO5.cell 1 (x := .int .i64 (sl : Nat)) rfl
            have o2 := hO5.cell 2 (x := .int .i64 (om : Nat)) rfl
            have HN := Lib.hid hn
            have HH := Lib.hid (And.intro b5 (And.intro hR5 (And.intro hO5 hS5)))
            clear F1 hn XF hR5 hS5 hO5 b5 hv5 HX HY
            go_wp2
            go_roundw
            case rel => exact ⟨2, by omega, by go_num, fun _ => n0, fun _ => HN.out, HH.out.1, HH.out.2.1, HH.out.2.2.1, HH.out.2.2.2⟩
            case measure => simp [intOf]
          · skip
            have q1 : (fk != 3) = true := by rw [bne_iff_ne]; exact e2
            have q2 : (f_r == rd) = true := by rw [e3]; simp
            have q3 : (f_s == ((sl : Nat) : Int)) = true := by rw [e4]; simp
            have q4 : (f_m == ((om : Nat) : Int)) = true := by rw [e5]; simp
            clear e2 e3 e4 e5
            have y0 := XF.cell 0 (x := .int .i64 fk) rfl
            have y1 := XF.cell 1 (x := .int .i64 f_r) rfl
            have y2 := XF.cell 2 (x := .int .i64 f_s) rfl
            have y3 := XF.cell 3 (x := .int .i64 f_m) rfl
            have y4 := XF.cell 4 (x := .slice A2 fd.length c2) rfl
            have o0 := hO5.cell 0 (x := .int .i64 rd) rfl
            have o1 := hO5.cell 1 (x := .int .i64 (sl : Nat)) rfl
            have o2 := hO5.cell 2 (x := .int .i64 (om : Nat)) rfl
            have r0 := hR5.cell 0 (x := .int .i64 0) rfl
            have f0 := hR5.frozen 0
            have r1 := hR5.cell 1 (x := .int .i64 0) rfl
            have f1 := hR5.frozen 1
            have r2 := hR5.cell 2 (x := .int .i64 0) rfl
            have f2 := hR5.frozen 2
            have r3 := hR5.cell 3 (x := .int .i64 0) rfl
            have f3 := hR5.frozen 3
            have r4 := hR5.cell 4 (x := .slice none 0 0) rfl
            have f4 := hR5.frozen 4
            have hvf := Lib.hid (((((hv5.setFar ⟨w.heap.size, 0, none⟩ (.int .i64 fk) hfar).setFar ⟨w.heap.size, 1, none⟩ (.int .i64 f_r) hfar).setFar ⟨w.heap.size, 2, none⟩ (.int .i64 f_s) hfar).setFar ⟨w.heap.size, 3, none⟩ (.int .i64 f_m) hfar).setFar ⟨w.heap.size, 4, none⟩ (.slice A2 fd.length c2) hfar)
            have hbf := Lib.hid (((((b5.setCell (p := ⟨w.heap.size, 0, none⟩) (Nat.le_refl _) (.int .i64 fk)).setCell (p := ⟨w.heap.size, 1, none⟩) (Nat.le_refl _) (.int .i64 f_r)).setCell (p := ⟨w.heap.size, 2, none⟩) (Nat.le_refl _) (.int .i64 f_s)).setCell (p := ⟨w.heap.size, 3, none⟩) (Nat.le_refl _) (.int .i64 f_m)).setCell (p := ⟨w.heap.size, 4, none⟩) (Nat.le_refl _) (.slice A2 fd.length c2))
            have HF := Lib.hid (fun e w' h => F1 e w' hn h)
            clear F1 hn XF hR5 hS5 hO5 b5 hv5 HX HY
            go_wp2
            refine bodyPost_ret (v := .tuple #[.agg #[.int .i64 fk, .int .i64 f_r, .int .i64 f_s, .int .i64 f_m, .slice A2 fd.length c2], .bool true]) ?_ rfl (HF.out _ _ ⟨_, rfl, hvf.out.base hbase, hbf.out⟩)
            rw [results_cell_tmp rfl]
            go_simp
      · have n0 := n0 (by omega)
        have n1 := n1 (by omega)
        have FN := fun e w' => FN e w' n0 n1
        clear HX HY F0 F1 hS hT
        have r0 := hR.cell 0 (x := .int .i64 0) rfl
        have r1 := hR.cell 1 (x := .int .i64 0) rfl
        have r2 := hR.cell 2 (x := .int .i64 0) rfl
        have r3 := hR.cell 3 (x := .int .i64 0) rfl
        have r4 := hR.cell 4 (x := .slice none 0 0) rfl
        have f0 := hR.frozen 0
        have f1 := hR.frozen 1
        have f2 := hR.frozen 2
        have f3 := hR.frozen 3
        have f4 := hR.frozen 4
        go_wp2
        refine bodyPost_ret (v := .tuple #[.agg #[.int .i64 0, .int .i64 0, .int .i64 0, .int .i64 0, .slice none 0 0], .bool false]) ?_ rfl (FN _ _ ⟨rfl, ?_⟩)
        · rw [results_cell_tmp rfl]
          go_simp
        · (repeat' (first | exact b0 | exact Nat.le_refl _ | (with_reducible refine Below.setCell ?_ ?_ _) | omega | (simp; omega)))
end Go.Proofs.YtpdenmcacaajkaaGreat
