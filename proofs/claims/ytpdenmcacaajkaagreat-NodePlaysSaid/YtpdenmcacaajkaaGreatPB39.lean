/- Texts FrI in one. For what each says in front of its theorems. -/
import Derived.RegionTactic
import Derived.Test.YtpdenmcacaajkaaGreatPB25
/-! ### FrI -/
namespace Go.Proofs.YtpdenmcacaajkaaGreat
open Go.RowKit
open Fr (St F)

/-- The new blocks of Decode ahead of the frame: the state that came in, the result. -/
structure BoxR (w W : World) (o : St) : Prop where
  below : Below w.heap.size w W
  lt : w.heap.size + 1 < W.heap.size
  own : W.cell? ⟨w.heap.size, 0, none⟩ = some (.int .i64 o.r) ∧ W.cell? ⟨w.heap.size, 1, none⟩ = some (.int .i64 o.s) ∧ W.cell? ⟨w.heap.size, 2, none⟩ = some (.int .i64 o.m)
  res : W.cell? ⟨w.heap.size + 1, 0, none⟩ = some (.int .i64 0) ∧ W.cell? ⟨w.heap.size + 1, 1, none⟩ = some (.int .i64 0) ∧ W.cell? ⟨w.heap.size + 1, 2, none⟩ = some (.int .i64 0) ∧ W.cell? ⟨w.heap.size + 1, 3, none⟩ = some (.int .i64 0) ∧ W.cell? ⟨w.heap.size + 1, 4, none⟩ = some (.slice none 0 0)
  fz : ∀ i, W.frozen? ⟨w.heap.size + 1, i, none⟩ = false
theorem BoxR.keep {w W W' : World} {o : St} {B : Nat} (h : BoxR w W o) (hb : Below B W W') (hB : w.heap.size + 1 < B) : BoxR w W' o := by
  have hlt := h.lt
  have hc := bcell hb
  refine ⟨h.below.trans (hb.mono (by omega)), by have := hb.size; omega, ?_, ?_, fun i => ?_⟩
  · rw [hc _ _ (by omega), hc _ _ (by omega), hc _ _ (by omega)]; exact h.own
  · rw [hc _ _ (by omega), hc _ _ (by omega), hc _ _ (by omega), hc _ _ (by omega), hc _ _ (by omega)]; exact h.res
  · rw [← h.fz i]
    exact hb.frozen (p := ⟨w.heap.size + 1, i, none⟩) hB
theorem boxR (w : World) (o : St) (t t' : TypeId) : BoxR w ((w.alloc (.cells #[.int .i64 o.r, .int .i64 o.s, .int .i64 o.m] t)).alloc (.cells #[.int .i64 0, .int .i64 0, .int .i64 0, .int .i64 0, .slice none 0 0] t')) o := by
  refine ⟨((Below.refl w.heap.size w).alloc (Nat.le_refl _) _).alloc (by simp) _, by simp, ?_, ?_, fun i => ?_⟩
  · refine ⟨?_, ?_, ?_⟩ <;> (rw [World.cell?_alloc_past _ _ _ (by simp), World.cell?_alloc_at _ _ _ _ rfl]; rfl)
  · refine ⟨?_, ?_, ?_, ?_, ?_⟩ <;> (rw [World.cell?_alloc_at _ _ _ _ (by simp)]; rfl)
  · go_simp
/-- And the frame, at block g. -/
structure BoxE (w W : World) (g : Nat) (o : St) (X : Nat → Value) : Prop where
  base : BoxR w W o
  lo : w.heap.size + 1 < g
  hi : g < W.heap.size
  fr : ∀ i, i < 5 → W.cell? ⟨g, i, none⟩ = some (X i)
  frz : ∀ i, W.frozen? ⟨g, i, none⟩ = false
theorem BoxE.keep {w W W' : World} {g : Nat} {o : St} {X : Nat → Value} (h : BoxE w W g o X) (hb : Below W.heap.size W W') : BoxE w W' g o X := by
  refine ⟨h.base.keep hb h.base.lt, h.lo, by have := hb.size; have := h.hi; omega, fun i hi => ?_, fun i => ?_⟩
  · rw [bcell hb _ _ h.hi]; exact h.fr i hi
  · rw [← h.frz i]
    exact hb.frozen (p := ⟨g, i, none⟩) h.hi
def five (x0 x1 x2 x3 x4 : Value) (i : Nat) : Value := match i with | 0 => x0 | 1 => x1 | 2 => x2 | 3 => x3 | _ => x4
theorem BoxR.new {w W : World} {o : St} (h : BoxR w W o) (x0 x1 x2 x3 x4 : Value) (t : TypeId) : BoxE w (W.alloc (.cells #[x0, x1, x2, x3, x4] t)).drew W.heap.size o (five x0 x1 x2 x3 x4) := by
  refine ⟨h.keep ((Below.refl W.heap.size W).alloc (Nat.le_refl _) _).drew h.lt, h.lt, by simp, fun i hi => ?_, fun i => ?_⟩
  · rw [World.cell?_drew, World.cell?_alloc_at _ _ _ _ rfl]
    have : i = 0 ∨ i = 1 ∨ i = 2 ∨ i = 3 ∨ i = 4 := by omega
    rcases this with rfl | rfl | rfl | rfl | rfl <;> rfl
  · rw [World.frozen?_drew, World.frozen?_alloc_new]
theorem BoxE.set {w W : World} {g : Nat} {o : St} {X : Nat → Value} (h : BoxE w W g o X) (i : Nat) (y : Value) (Y : Nat → Value) (hY : Y i = y) (hO : ∀ j, j ≠ i → Y j = X j) : BoxE w (W.setCell ⟨g, i, none⟩ y) g o Y := by
  have hB := (Below.refl g W).setCell (p := ⟨g, i, none⟩) (Nat.le_refl _) y
  refine ⟨h.base.keep hB h.lo, h.lo, by have := hB.size; have := h.hi; omega, fun j hj => ?_, fun j => ?_⟩
  · by_cases e : i = j
    · subst e
      rw [hY]
      exact World.cell?_setCell_same _ _ _ (h.fr i hj)
    · rw [World.cell?_setCell_other _ _ _ _ (fun q => e (by injection q)), hO j (fun q => e q.symm)]
      exact h.fr j hj
  · rw [World.frozen?_setCell]
    exact h.frz j
theorem BoxE.drew {w W : World} {g : Nat} {o : St} {X : Nat → Value} (h : BoxE w W g o X) : BoxE w W.drew g o X := h.keep (Below.refl _ _).drew
theorem BoxE.set3 {w W : World} {g : Nat} {o : St} {x0 x1 x2 x3 x4 : Value} (h : BoxE w W g o (five x0 x1 x2 x3 x4)) (y1 y2 y3 : Value) : BoxE w (((W.setCell ⟨g, 1, none⟩ y1).setCell ⟨g, 2, none⟩ y2).setCell ⟨g, 3, none⟩ y3) g o (five x0 y1 y2 y3 x4) := by
  refine ((h.set 1 y1 (five x0 y1 x2 x3 x4) rfl ?_).set 2 y2 (five x0 y1 y2 x3 x4) rfl ?_).set 3 y3 (five x0 y1 y2 y3 x4) rfl ?_
  all_goals
    intro j hj
    unfold five
    match j with
    | 0 => rfl
    | 1 => first | rfl | exact absurd rfl hj
    | 2 => first | rfl | exact absurd rfl hj
    | 3 => first | rfl | exact absurd rfl hj
    | j + 4 => rfl
theorem BoxE.set4 {w W : World} {g : Nat} {o : St} {x0 x1 x2 x3 x4 : Value} (h : BoxE w W g o (five x0 x1 x2 x3 x4)) (y : Value) : BoxE w (W.setCell ⟨g, 4, none⟩ y) g o (five x0 x1 x2 x3 y) := by
  unfold five
  refine ⟨?_, h.lo, ?_, ?_, ?_⟩
  · exact h.base.keep ((Below.refl g W).setCell (p := ⟨g, 4, none⟩) (Nat.le_refl _) y) h.lo
  · have := ((Below.refl g W).setCell (p := ⟨g, 4, none⟩) (Nat.le_refl _) y).size
    have := h.hi
    omega
  · intro i hi
    have : i = 0 ∨ i = 1 ∨ i = 2 ∨ i = 3 ∨ i = 4 := by omega
    rcases this with rfl | rfl | rfl | rfl | rfl
    iterate 4 (rw [World.cell?_setCell_other _ _ _ _ (by simp)]; exact h.fr _ (by omega))
    exact World.cell?_setCell_same _ _ _ (h.fr 4 (by omega))
  · intro i
    rw [World.frozen?_setCell]
    exact h.frz i
theorem form_short {l : List Int} {own : St} (h : l.length < 4) : Fr.formB l own = false := by
  rw [Bool.eq_false_iff]; intro e; simp only [Fr.formB, Bool.and_eq_true, decide_eq_true_eq] at e; omega
theorem sealed_text (l : List Int) (own : St) (m : Nat) (hm : l.length = m + 2) (h : Fr.sumB l own = false) : ¬ l.take m ++ Fr.two (Fr.sumL (Fr.sdOf l own) (l.take m)) = l := fun e => by
  have q := sumB_iff l own
  rw [show l.length - 2 = m by omega] at q
  rw [q.2 e] at h
  cases h
theorem sealed_same (l : List Int) (own : St) (m : Nat) (hm : l.length = m + 2) (h : Fr.sumB l own = true) : l.take m ++ Fr.two (Fr.sumL (Fr.sdOf l own) (l.take m)) = l := by
  have q := sumB_iff l own
  rw [show l.length - 2 = m by omega] at q
  exact q.1 h

set_option maxRecDepth 100000 in
set_option maxHeartbeats 40000000 in
theorem decode_ref (v : Value) (l : List Int) (own : St) (w : World) (hv : SeesL w w.heap.size v l) (hl : bytesL l) :
    Calls Tryz.prog 136 #[v, stV own] w (Dec w l own) := by
  obtain ⟨A, c, rfl, c1, c2, hs, hnil⟩ := hv.at_
  have hv := Lib.hid hv
  have FF : Fr.formB l own = false → ∀ w', Below w.heap.size w w' → Dec w l own (.returned (.tuple #[.agg #[.int .i64 0, .int .i64 0, .int .i64 0, .int .i64 0, .slice none 0 0], .int .i64 2])) w' := fun h w' hb => dec_form h rfl hb
  have hFS : Fr.formB l own = true → Fr.sumB l own = false → ∀ w', Below w.heap.size w w' → Dec w l own (.returned (.tuple #[.agg #[.int .i64 0, .int .i64 0, .int .i64 0, .int .i64 0, .slice none 0 0], .int .i64 3])) w' := fun h h' w' hb => dec_sum h h' rfl hb
  have FO : Fr.formB l own = true → Fr.sumB l own = true → ∀ v w', OwnsL w' w.heap.size v (Fr.rd l own).d → Below w.heap.size w w' → Dec w l own (.returned (.tuple #[frV (Fr.rd l own) v, .int .i64 0])) w' := fun h h' v w' ho hb => dec_ok h h' rfl ho hb
  generalize Dec w l own = D at *
  have HM := fun s W => Lib.hid (may_ref s W)
  have HSd := fun W => Lib.hid (seed_ref own W)
  unfold stV at HM HSd ⊢
  unfold maxLen at c2
  by_cases h4 : l.length < 4
  case pos =>
    have FF := FF (form_short h4)
    have hB := boxR w own 101 137
    have q1 : decide ((l.length : Int) < 4) = true := by simp; omega
    clear hFS FO HM HSd hs hnil hv
    go_enter Tryz.func136, Tryz.ntmps136
    go_wp2_with fail
    (try simp only [Exit.inBlock, Exit.then])
    refine bodyPost_ret (v := .tuple #[.agg #[.int .i64 0, .int .i64 0, .int .i64 0, .int .i64 0, .slice none 0 0], .int .i64 2]) ?_ rfl (FF _ ?_)
    · rw [results_cell_tmp rfl]
      go_simp
    · (repeat' (first | exact hB.below | exact Nat.le_succ _ | (with_reducible refine Below.setCell ?_ ?_ _)))
  case neg =>
    have q1 : decide ((l.length : Int) < 4) = false := by simp; omega
    go_enter Tryz.func136, Tryz.ntmps136
    go_wp2_with fail
    have hb0 := boxR w own 101 137
    generalize (w.alloc (.cells #[.int .i64 own.r, .int .i64 own.s, .int .i64 own.m] 101)).alloc (.cells #[.int .i64 0, .int .i64 0, .int .i64 0, .int .i64 0, .slice none 0 0] 137) = W0 at *
    refine (HM _ _).out.mono ?_
    rintro e w2 ⟨rfl, hb2⟩
    have hx2 := Lib.hid (hb0.keep hb2 hb0.lt)
    clear hb0 hb2
    have hl := Lib.hid hl
    by_cases hmay : own.may = true
    case neg =>
      have hmay : own.may = false := by simpa using hmay
      rw [hmay]
      have FF := FF (form_own hmay)
      clear hFS FO HM HSd hmay hs hnil
      obtain ⟨r0, r1, r2, r3, r4⟩ := hx2.out.res
      have z0 := hx2.out.fz 0
      have z1 := hx2.out.fz 1
      have z2 := hx2.out.fz 2
      have z3 := hx2.out.fz 3
      have z4 := hx2.out.fz 4
      go_wp2_with fail
      (try simp only [Exit.inBlock, Exit.then])
      refine bodyPost_ret (v := .tuple #[.agg #[.int .i64 0, .int .i64 0, .int .i64 0, .int .i64 0, .slice none 0 0], .int .i64 2]) ?_ rfl (FF _ ?_)
      · rw [results_cell_tmp rfl]
        go_simp
      · (repeat' (first | exact hx2.out.below | exact Nat.le_succ _ | (with_reducible refine Below.setCell ?_ ?_ _)))
    case pos =>
      rw [hmay]
      obtain ⟨b, off, rfl, hbb, hcell⟩ := hs (by omega)
      have k0 : w2.cell? ⟨b, off, none⟩ = some (.int .u8 (Fr.kd l)) := (bcell hx2.out.below b off hbb).trans (hcell 0 (by omega))
      have hk0 : 0 ≤ Fr.kd l ∧ Fr.kd l < 256 := hl.out.getD 0
      have q3 : (0 : Int) < (l.length : Int) := by omega
      have wk : IntKind.i64.wrap (Fr.kd l) = Fr.kd l := IntWalk.i64_in _ (by omega)
      clear hs hnil
      by_cases hka : Fr.kd l < 1
      case pos =>
        have FF := FF (form_kind (by omega))
        clear hFS FO HM HSd hmay hcell
        obtain ⟨r0, r1, r2, r3, r4⟩ := hx2.out.res
        have z0 := hx2.out.fz 0
        have z1 := hx2.out.fz 1
        have z2 := hx2.out.fz 2
        have z3 := hx2.out.fz 3
        have z4 := hx2.out.fz 4
        go_wp2_with fail
        (try simp only [Exit.inBlock, Exit.then])
        refine bodyPost_ret (v := .tuple #[.agg #[.int .i64 0, .int .i64 0, .int .i64 0, .int .i64 0, .slice none 0 0], .int .i64 2]) ?_ rfl (FF _ ?_)
        · rw [results_cell_tmp rfl]
          go_simp
        · (repeat' (first | exact hx2.out.below | exact Nat.le_succ _ | (with_reducible refine Below.setCell ?_ ?_ _)))
      case neg =>
        by_cases hkb : 3 < Fr.kd l
        case pos =>
          have FF := FF (form_kind (by omega))
          clear hFS FO HM HSd hmay hcell
          obtain ⟨r0, r1, r2, r3, r4⟩ := hx2.out.res
          have z0 := hx2.out.fz 0
          have z1 := hx2.out.fz 1
          have z2 := hx2.out.fz 2
          have z3 := hx2.out.fz 3
          have z4 := hx2.out.fz 4
          go_wp2_with fail
          (try simp only [Exit.inBlock, Exit.then])
          refine bodyPost_ret (v := .tuple #[.agg #[.int .i64 0, .int .i64 0, .int .i64 0, .int .i64 0, .slice none 0 0], .int .i64 2]) ?_ rfl (FF _ ?_)
          · rw [results_cell_tmp rfl]
            go_simp
          · (repeat' (first | exact hx2.out.below | exact Nat.le_succ _ | (with_reducible refine Below.setCell ?_ ?_ _)))
        case neg =>
          obtain ⟨o0, o1, o2⟩ := hx2.out.own
          have CS := fun (W : World) (hb : Below w2.heap.size w2 W) => (⟨(bcell hb _ _ (by have := hx2.out.lt; omega)).trans o0, (bcell hb _ _ (by have := hx2.out.lt; omega)).trans o1, (bcell hb _ _ (by have := hx2.out.lt; omega)).trans o2, (bcell hb _ _ (by have := hx2.out.below.size; omega)).trans k0⟩ : W.cell? ⟨w.heap.size, 0, none⟩ = some (.int .i64 own.r) ∧ W.cell? ⟨w.heap.size, 1, none⟩ = some (.int .i64 own.s) ∧ W.cell? ⟨w.heap.size, 2, none⟩ = some (.int .i64 own.m) ∧ W.cell? ⟨b, off, none⟩ = some (.int .u8 (Fr.kd l)))
          have B2 := Below.refl w2.heap.size w2
          go_wp2_with fail
          go_cut [6] from 31 (fun s6 W => s6 = .pointer (some ⟨w2.heap.size, 0, none⟩) ∧ W = (w2.alloc (.cells #[.int .i64 (Fr.kd l), .int .i64 own.r, .int .i64 own.s, .int .i64 own.m, .slice none 0 0] 137)).drew)
          case first =>
            go_region_held3 (fun W => W.cell? ⟨w.heap.size, 0, none⟩ = some (.int .i64 own.r) ∧ W.cell? ⟨w.heap.size, 1, none⟩ = some (.int .i64 own.s) ∧ W.cell? ⟨w.heap.size, 2, none⟩ = some (.int .i64 own.m) ∧ W.cell? ⟨b, off, none⟩ = some (.int .u8 (Fr.kd l)))
              (first | exact CS _ B2 | exact CS _ B2.drew | exact CS _ (B2.alloc (Nat.le_refl _) _) | exact CS _ (B2.alloc (Nat.le_refl _) _).drew | exact CS _ (B2.drew.alloc (Nat.le_refl _) _) | go_keep)
              (fail)
            all_goals
              go_wp2_with fail
              go_meet
              exact ⟨rfl, rfl⟩
          case rest =>
            obtain ⟨rfl, rfl⟩ := hcut
            have hx3 := hx2.out.new (.int .i64 (Fr.kd l)) (.int .i64 own.r) (.int .i64 own.s) (.int .i64 own.m) (.slice none 0 0) 137
            generalize (w2.alloc (.cells #[.int .i64 (Fr.kd l), .int .i64 own.r, .int .i64 own.s, .int .i64 own.m, .slice none 0 0] 137)).drew = w3 at *
            generalize w2.heap.size = g at *
            have hx3 := Lib.hid hx3
            clear CS B2 o0 o1 o2 k0 hx2
            obtain ⟨o0, o1, o2⟩ := hx3.out.base.own
            go_wp2_with fail
            refine (HSd _).out.mono ?_
            rintro e w4 ⟨rfl, hb4⟩
            have hx4 := Lib.hid (hx3.out.keep hb4)
            clear hx3 hb4 o0 o1 o2 HSd wk
            by_cases hk1 : Fr.kd l = 1
            case pos =>
              have hat : Fr.at_ l = 1 := if_pos hk1
              have hcnt : Fr.cnt l = l.getD 1 0 := by rw [Fr.cnt, hat]
              have hk1b : (Fr.kd l != 1) = false := by simp [hk1]
              have f0 : w4.cell? ⟨g, 0, none⟩ = some (.int .i64 (Fr.kd l)) := hx4.out.fr 0 (by omega)
              have hst : Fr.stOf l own = own := if_pos hk1
              obtain ⟨t, ht⟩ : ∃ t : St, t = own := ⟨_, rfl⟩
              have hst : Fr.stOf l own = t := by rw [ht]; exact hst
              have hmt : t.may = true := by rw [ht]; exact hmay
              have hx5 := Lib.hid (show BoxE w w4 g own (five (.int .i64 (Fr.kd l)) (.int .i64 t.r) (.int .i64 t.s) (.int .i64 t.m) (.slice none 0 0)) from by rw [ht]; exact hx4.out)
              generalize w4 = w5 at *
              clear hx4 ht
              have f0 : w5.cell? ⟨g, 0, none⟩ = some (.int .i64 (Fr.kd l)) := hx5.out.fr 0 (by omega)
              have f1 : w5.cell? ⟨g, 1, none⟩ = some (.int .i64 t.r) := hx5.out.fr 1 (by omega)
              have f2 : w5.cell? ⟨g, 2, none⟩ = some (.int .i64 t.s) := hx5.out.fr 2 (by omega)
              have f3 : w5.cell? ⟨g, 3, none⟩ = some (.int .i64 t.m) := hx5.out.fr 3 (by omega)
              have k0 : w5.cell? ⟨b, off + 1, none⟩ = some (.int .u8 (l.getD 1 0)) := (bcell hx5.out.base.below b (off + 1) hbb).trans (hcell 1 (by omega))
              have hx := hl.out.getD 1
              obtain ⟨x, hxe⟩ := Int.eq_ofNat_of_zero_le hx.1
              rw [hxe] at hx k0 hcnt
              clear hxe
              have q2 : (1 : Int) < (l.length : Int) := by omega
              go_wp2_with fail
              refine (HM _ _).out.mono ?_
              rintro e w6 ⟨rfl, hb6⟩
              have hx6 := Lib.hid (hx5.out.keep hb6)
              clear hx5 hb6 HM f0 f1 f2 f3 k0
              have hts := hmt
              rw [hts]
              by_cases hx8 : 8 < (x : Int)
              case pos =>
                have FF := FF (form_cnt (by rw [hcnt]; exact hx8))
                clear hFS FO hcnt hat hcell hts hmay
                obtain ⟨r0, r1, r2, r3, r4⟩ := hx6.out.base.res
                have z0 := hx6.out.base.fz 0
                have z1 := hx6.out.base.fz 1
                have z2 := hx6.out.base.fz 2
                have z3 := hx6.out.base.fz 3
                have z4 := hx6.out.base.fz 4
                go_wp2_with fail
                (try simp only [Exit.inBlock, Exit.then])
                refine bodyPost_ret (v := .tuple #[.agg #[.int .i64 0, .int .i64 0, .int .i64 0, .int .i64 0, .slice none 0 0], .int .i64 2]) ?_ rfl (FF _ ?_)
                · rw [results_cell_tmp rfl]
                  go_simp
                · (repeat' (first | exact hx6.out.base.below | exact Nat.le_succ _ | (with_reducible refine Below.setCell ?_ ?_ _)))
              case neg =>
                by_cases he : l.length = x + 4
                case neg =>
                  have FF := FF (form_eq (by rw [hat, hcnt]; omega))
                  have heb : ((l.length : Int) != 2 + (x : Int) + 2) = true := by simp; omega
                  clear hFS FO hcnt hat hcell hts hmay
                  obtain ⟨r0, r1, r2, r3, r4⟩ := hx6.out.base.res
                  have z0 := hx6.out.base.fz 0
                  have z1 := hx6.out.base.fz 1
                  have z2 := hx6.out.base.fz 2
                  have z3 := hx6.out.base.fz 3
                  have z4 := hx6.out.base.fz 4
                  go_wp2_with fail
                  (try simp only [Exit.inBlock, Exit.then])
                  refine bodyPost_ret (v := .tuple #[.agg #[.int .i64 0, .int .i64 0, .int .i64 0, .int .i64 0, .slice none 0 0], .int .i64 2]) ?_ rfl (FF _ ?_)
                  · rw [results_cell_tmp rfl]
                    go_simp
                  · (repeat' (first | exact hx6.out.base.below | exact Nat.le_succ _ | (with_reducible refine Below.setCell ?_ ?_ _)))
                case pos =>
                  have heb : ((x : Int) + 4 != 2 + (x : Int) + 2) = false := by simp; omega
                  have hform : Fr.formB l own = true := form_yes (by omega) hmay (by rw [hat]; omega) (by rw [hcnt]; exact hx8) (by rw [hat, hcnt]; omega) (by rw [hst]; exact hts)
                  have hFS := hFS hform
                  have FO := FO hform
                  have hrd : Fr.rd l own = ⟨1, t, (l.drop 2).take x⟩ := by
                    unfold Fr.rd
                    rw [hat, hcnt, hst, hk1]
                    rfl
                  have hsub3 : SeesL w w.heap.size (.slice (some ⟨b, off + 2, none⟩) x (c - 2)) ((l.drop 2).take x) := by
                    have := SeesL.sub hv.out 2 (x + 2) (by omega) (by omega) _ rfl x _ (by omega) rfl
                    rwa [show x + 2 - 2 = x by omega] at this
                  have hdl : ((l.drop 2).take x).length = x := by rw [List.length_take, List.length_drop]; omega
                  rw [hrd] at FO
                  unfold frV at FO
                  simp only at FO
                  generalize (l.drop 2).take x = dl at *
                  have p1 : (2 : Int) ≤ 2 + (x : Int) := by omega
                  have p2 : (2 : Int) + (x : Int) ≤ (c : Int) := by omega
                  have p3 : ¬ c = 2 := by omega
                  have wrp : IntKind.i64.wrap 2 = 2 := by decide
                  clear hform FF hrd hcell hcnt hat hts
                  have hsub6 := (hsub3.below hx6.out.base.below).alloc (.cells #[] 5)
                  have hsub6 : SeesL (w6.alloc (.cells #[] 5)) w.heap.size (.slice (some ⟨b, off + 2, none⟩) (2 + x - 2) (c - 2)) dl := by
                    rw [show 2 + x - 2 = x by omega]
                    exact hsub6
                  go_wp2_with (at_builtin; go_loud (refine wpList_appendL _ rfl (.tmp 90) (.tmp 98) 37 rfl w6.heap.size infoU8 Tryz.underlying37 _ [] w6 (owns_empty w6 _ rfl _ _ (Nat.le_refl _) rfl) ((Below.refl _ _).alloc (Nat.le_refl _) _) rfl w.heap.size (.slice (some ⟨b, off + 2, none⟩) (2 + x - 2) (c - 2)) dl rfl hsub6 (by simp) (by simp <;> omega) ?_))
                  intro v7 w7 ho7 hb7
                  have ho7 : OwnsL w7 w6.heap.size v7 dl := by simpa using ho7
                  have hx7 := hx6.out.keep hb7
                  have f4 : w7.cell? ⟨g, 4, none⟩ = some (.slice none 0 0) := hx7.fr 4 (by omega)
                  have u4 := hx7.frz 4
                  obtain ⟨A7, c7, rfl, -⟩ := ho7.sees.at_
                  rw [hdl] at ho7
                  have hg6 : g < w6.heap.size := hx6.out.hi
                  clear hsub3 hsub6 hx6 hb7 p1 p2 p3 wrp heb
                  go_wp2_with fail
                  have hx8 := Lib.hid (hx7.set4 (.slice A7 x c7))
                  have ho8 := Lib.hid (ho7.other hg6 4 (.slice A7 x c7))
                  generalize w7.setCell ⟨g, 4, none⟩ (.slice A7 x c7) = w8 at *
                  clear hx7 ho7 f4 u4
                  obtain ⟨m, hm⟩ : ∃ m, m = x + 2 := ⟨_, rfl⟩
                  have hlm : l.length = m + 2 := by omega
                  have hbl : bytesL (l.take m) := fun y hy => hl.out y (List.mem_of_mem_take hy)
                  have hsub1 : SeesL w w.heap.size (.slice (some ⟨b, off, none⟩) m c) (l.take m) := by
                    have := SeesL.sub hv.out 0 m (by omega) (by omega) (some ⟨b, off, none⟩) rfl m c rfl rfl
                    simpa using this
                  have htl : (l.take m).length = m := by rw [List.length_take]; omega
                  have hcv := fun W (hb : Below w8.heap.size w8 W) => run_textL (hv.out.below (hx8.out.base.below.trans (hb.mono hx8.out.base.below.size)))
                  have hsdl : Fr.sdOf l own = own.seed := if_pos hk1
                  have QS := fun W (hb : Below w8.heap.size w8 W) => sealed_ref _ (l.take m) (Fr.sdOf l own) W ((hsub1.below (hx8.out.base.below.trans (hb.mono hx8.out.base.below.size))).more (hx8.out.base.below.trans (hb.mono hx8.out.base.below.size)).size) hbl (by omega) (by rw [hsdl]; exact own.seed_lt)
                  have hto : ((x : Int) + 2).toNat = x + 2 := by omega
                  have hsmI : (x : Int) + 4 - 2 = (x : Int) + 2 := by omega
                  have p1 : (x : Int) + 2 ≤ (c : Int) := by omega
                  have p2 : (0 : Int) ≤ (x : Int) + 2 := by omega
                  have wr9 : IntKind.i64.wrap ((x : Int) + 2) = (x : Int) + 2 := IntWalk.i64_in _ (by omega)
                  have p3 : x + 2 ≤ c := by omega
                  rw [he] at hcv
                  have B8 := Below.refl w8.heap.size w8
                  cases hS : Fr.sumB l own
                  case true =>
                    have FO := FO hS
                    have hT := sealed_same l own m hlm hS
                    rw [hT, hsdl] at QS
                    clear hFS hT hS hsdl
                    have QS := fun W (hb : Below w8.heap.size w8 W) => Lib.hid ((QS W hb).mono (R' := fun e w' => (∃ v', e = .returned v' ∧ OwnsL w' W.heap.size v' l) ∧ Below w8.heap.size w8 w') fun e w' h => by
                      obtain ⟨v, rfl, ho, hb'⟩ := h
                      exact ⟨⟨v, rfl, ho⟩, hb.trans (hb'.mono hb.size)⟩)
                    have CV := fun W hb => Lib.hid (hcv W hb)
                    clear hcv hbl htl hsub1
                    subst hm
                    go_cut [111] from 10 (fun s111 W => s111 = .bool false ∧ Below w8.heap.size w8 W)
                    case first =>
                      have cv0 := (CV _ B8).out
                      have cv2 := (CV _ B8.drew).out
                      go_region_with (first
                          | ((go_at_call 117; refine (QS _ ?_).out.mono ?_); (focus (first | exact B8 | exact B8.drew)); rintro e w9 ⟨⟨v9, rfl, ho9⟩, hb9⟩; have tx := run_textL ho9.sees; have tx2 := run_textL_drew ho9.sees; have cv1 := (CV _ hb9).out)
                          | fail)
                      all_goals
                        go_wp2_with fail
                        go_meet
                        exact ⟨by first | rfl | (rw [eT3]; rfl), hb9⟩
                    case rest =>
                      obtain ⟨rfl, hb9⟩ := hcut
                      have hx9 := Lib.hid (hx8.out.keep hb9)
                      have ho9 := Lib.hid (ho8.out.below hb9 (Nat.le_refl _))
                      clear hx8 ho8 QS CV B8
                      have f0 : wc.cell? ⟨g, 0, none⟩ = some (.int .i64 (Fr.kd l)) := hx9.out.fr 0 (by omega)
                      have f1 : wc.cell? ⟨g, 1, none⟩ = some (.int .i64 t.r) := hx9.out.fr 1 (by omega)
                      have f2 : wc.cell? ⟨g, 2, none⟩ = some (.int .i64 t.s) := hx9.out.fr 2 (by omega)
                      have f3 : wc.cell? ⟨g, 3, none⟩ = some (.int .i64 t.m) := hx9.out.fr 3 (by omega)
                      have f4 : wc.cell? ⟨g, 4, none⟩ = some (.slice A7 x c7) := hx9.out.fr 4 (by omega)
                      rw [hk1] at f0
                      obtain ⟨r0, r1, r2, r3, r4⟩ := hx9.out.base.res
                      have z0 := hx9.out.base.fz 0
                      have z1 := hx9.out.base.fz 1
                      have z2 := hx9.out.base.fz 2
                      have z3 := hx9.out.base.fz 3
                      have z4 := hx9.out.base.fz 4
                      have hlo := hx9.out.lo
                      have hwg : w.heap.size ≤ w6.heap.size := by omega
                      go_wp2_with fail
                      (try simp only [Exit.inBlock, Exit.then])
                      refine bodyPost_ret (v := .tuple #[.agg #[.int .i64 1, .int .i64 t.r, .int .i64 t.s, .int .i64 t.m, .slice A7 x c7], .int .i64 0]) ?_ rfl (FO _ _ ?_ ?_)
                      · rw [results_cell_tmp rfl]
                        go_simp
                      · exact (((((ho9.out.other (by omega) _ _).other (by omega) _ _).other (by omega) _ _).other (by omega) _ _).other (by omega) _ _).base hwg
                      · (repeat' (first | exact hx9.out.base.below | exact Nat.le_succ _ | (with_reducible refine Below.setCell ?_ ?_ _)))
                  case false =>
                    have hFS := hFS hS
                    have hT := sealed_text l own m hlm hS
                    have hbL : bytesL (l.take m ++ Fr.two (Fr.sumL (Fr.sdOf l own) (l.take m))) := Fr.okL.append (show Fr.okL _ from hbl) (Fr.two_ok (Nat.lt_trans (Fr.sumL_lt (by rw [hsdl]; exact own.seed_lt) _) (by decide)))
                    generalize l.take m ++ Fr.two (Fr.sumL (Fr.sdOf l own) (l.take m)) = L1 at *
                    rw [hsdl] at QS
                    have eT : ¬ textL L1 = textL l := fun e => hT (textL_inj hbL hl.out e)
                    have eT2 : ¬ (textL L1).toList = (textL l).toList := fun h => eT (by
                      rw [ByteArray.toList_eq, ByteArray.toList_eq] at h
                      exact ByteArray.ext (Array.toList_inj.1 h))
                    have eT3 : ((textL L1).toList == (textL l).toList) = false := by rw [beq_eq_false_iff_ne]; exact eT2
                    clear FO hT hS hsdl hbL
                    have QS := fun W (hb : Below w8.heap.size w8 W) => Lib.hid ((QS W hb).mono (R' := fun e w' => (∃ v', e = .returned v' ∧ OwnsL w' W.heap.size v' L1) ∧ Below w8.heap.size w8 w') fun e w' h => by
                      obtain ⟨v, rfl, ho, hb'⟩ := h
                      exact ⟨⟨v, rfl, ho⟩, hb.trans (hb'.mono hb.size)⟩)
                    have CV := fun W hb => Lib.hid (hcv W hb)
                    clear hcv hbl htl hsub1
                    subst hm
                    go_cut [111] from 10 (fun s111 W => s111 = .bool true ∧ Below w8.heap.size w8 W)
                    case first =>
                      have cv0 := (CV _ B8).out
                      have cv2 := (CV _ B8.drew).out
                      go_region_with (first
                          | ((go_at_call 117; refine (QS _ ?_).out.mono ?_); (focus (first | exact B8 | exact B8.drew)); rintro e w9 ⟨⟨v9, rfl, ho9⟩, hb9⟩; have tx := run_textL ho9.sees; have tx2 := run_textL_drew ho9.sees; have cv1 := (CV _ hb9).out)
                          | fail)
                      all_goals
                        go_wp2_with fail
                        go_meet
                        exact ⟨by first | rfl | (rw [eT3]; rfl), hb9⟩
                    case rest =>
                      obtain ⟨rfl, hb9⟩ := hcut
                      have hx9 := Lib.hid (hx8.out.keep hb9)
                      have ho9 := Lib.hid (ho8.out.below hb9 (Nat.le_refl _))
                      clear hx8 ho8 QS CV B8
                      clear eT eT2 eT3
                      obtain ⟨r0, r1, r2, r3, r4⟩ := hx9.out.base.res
                      have z0 := hx9.out.base.fz 0
                      have z1 := hx9.out.base.fz 1
                      have z2 := hx9.out.base.fz 2
                      have z3 := hx9.out.base.fz 3
                      have z4 := hx9.out.base.fz 4
                      go_wp2_with fail
                      (try simp only [Exit.inBlock, Exit.then])
                      refine bodyPost_ret (v := .tuple #[.agg #[.int .i64 0, .int .i64 0, .int .i64 0, .int .i64 0, .slice none 0 0], .int .i64 3]) ?_ rfl (hFS _ ?_)
                      · rw [results_cell_tmp rfl]
                        go_simp
                      · (repeat' (first | exact hx9.out.base.below | exact Nat.le_succ _ | (with_reducible refine Below.setCell ?_ ?_ _)))
            case neg =>
              have hat : Fr.at_ l = 5 := if_neg hk1
              have hcnt : Fr.cnt l = l.getD 5 0 := by rw [Fr.cnt, hat]
              have hk1b : (Fr.kd l != 1) = true := by simpa using hk1
              have f0 : w4.cell? ⟨g, 0, none⟩ = some (.int .i64 (Fr.kd l)) := hx4.out.fr 0 (by omega)
              by_cases h8 : l.length < 8
              case pos =>
                have FF := FF (form_len (by rw [hat]; omega) fun k => (hl.out.getD k).1)
                have q8 : (l.length : Int) < 8 := by omega
                clear hFS FO HM hmay hcell hcnt hat
                obtain ⟨r0, r1, r2, r3, r4⟩ := hx4.out.base.res
                have z0 := hx4.out.base.fz 0
                have z1 := hx4.out.base.fz 1
                have z2 := hx4.out.base.fz 2
                have z3 := hx4.out.base.fz 3
                have z4 := hx4.out.base.fz 4
                go_wp2_with fail
                (try simp only [Exit.inBlock, Exit.then])
                refine bodyPost_ret (v := .tuple #[.agg #[.int .i64 0, .int .i64 0, .int .i64 0, .int .i64 0, .slice none 0 0], .int .i64 2]) ?_ rfl (FF _ ?_)
                · rw [results_cell_tmp rfl]
                  go_simp
                · (repeat' (first | exact hx4.out.base.below | exact Nat.le_succ _ | (with_reducible refine Below.setCell ?_ ?_ _)))
              case neg =>
                have q8 : ¬ (l.length : Int) < 8 := by omega
                have a1 : w4.cell? ⟨b, off + 1, none⟩ = some (.int .u8 (l.getD 1 0)) := (bcell hx4.out.base.below b (off + 1) hbb).trans (hcell 1 (by omega))
                have a2 : w4.cell? ⟨b, off + 2, none⟩ = some (.int .u8 (l.getD 2 0)) := (bcell hx4.out.base.below b (off + 2) hbb).trans (hcell 2 (by omega))
                have a3 : w4.cell? ⟨b, off + 3, none⟩ = some (.int .u8 (l.getD 3 0)) := (bcell hx4.out.base.below b (off + 3) hbb).trans (hcell 3 (by omega))
                have a4 : w4.cell? ⟨b, off + 4, none⟩ = some (.int .u8 (l.getD 4 0)) := (bcell hx4.out.base.below b (off + 4) hbb).trans (hcell 4 (by omega))
                have hst : Fr.stOf l own = ⟨l.getD 1 0 * 256 + l.getD 2 0, l.getD 3 0, l.getD 4 0⟩ := if_neg hk1
                have b1 := hl.out.getD 1
                have b2 := hl.out.getD 2
                have b3 := hl.out.getD 3
                have b4 := hl.out.getD 4
                generalize l.getD 1 0 = y1 at *
                generalize l.getD 2 0 = y2 at *
                generalize l.getD 3 0 = y3 at *
                generalize l.getD 4 0 = y4 at *
                have orp := or_pair y1 y2 b1 b2
                have wr1 : IntKind.i64.wrap y1 = y1 := IntWalk.i64_in _ (by omega)
                have wr2 : IntKind.i64.wrap y2 = y2 := IntWalk.i64_in _ (by omega)
                have wr5 : IntKind.i64.wrap (y1 * 256) = y1 * 256 := IntWalk.i64_in _ (by omega)
                have hgb : ¬ g = b := by have := hx4.out.lo; omega
                have hbg : ¬ b = g := by omega
                have wr3 : IntKind.i64.wrap y3 = y3 := IntWalk.i64_in _ (by omega)
                have wr4 : IntKind.i64.wrap y4 = y4 := IntWalk.i64_in _ (by omega)
                have p1 : (1 : Int) < (l.length : Int) := by omega
                have p2 : (2 : Int) < (l.length : Int) := by omega
                have p3 : (3 : Int) < (l.length : Int) := by omega
                have p4 : (4 : Int) < (l.length : Int) := by omega
                have f1 : w4.cell? ⟨g, 1, none⟩ = some (.int .i64 own.r) := hx4.out.fr 1 (by omega)
                have f2 : w4.cell? ⟨g, 2, none⟩ = some (.int .i64 own.s) := hx4.out.fr 2 (by omega)
                have f3 : w4.cell? ⟨g, 3, none⟩ = some (.int .i64 own.m) := hx4.out.fr 3 (by omega)
                have u1 := hx4.out.frz 1
                have u2 := hx4.out.frz 2
                have u3 := hx4.out.frz 3
                go_wp2_with fail
                go_cut [] from 46 (fun W => BoxE w W g own (five (.int .i64 (Fr.kd l)) (.int .i64 (y1 * 256 + y2)) (.int .i64 y3) (.int .i64 y4) (.slice none 0 0)))
                case first =>
                  go_region_held3 (fun W => W.cell? ⟨b, off + 1, none⟩ = some (.int .u8 y1) ∧ W.cell? ⟨b, off + 2, none⟩ = some (.int .u8 y2) ∧ W.cell? ⟨b, off + 3, none⟩ = some (.int .u8 y3) ∧ W.cell? ⟨b, off + 4, none⟩ = some (.int .u8 y4))
                    (go_keep)
                    (fail)
                  all_goals
                    go_wp2_with fail
                    go_meet
                    first | exact hx4.out.set3 _ _ _ | exact (hx4.out.set3 _ _ _).drew | exact hx4.out.drew.set3 _ _ _
                case rest =>
                  have hx5 := Lib.hid hcut
                  generalize wc = w5 at *
                  clear hcut hx4 a1 a2 a3 a4 b1 b2 b3 b4 orp wr1 wr2 wr5 hgb hbg wr3 wr4 p1 p2 p3 p4 f0 f1 f2 f3 u1 u2 u3 q8
                  obtain ⟨t, ht⟩ : ∃ t : St, t = ⟨y1 * 256 + y2, y3, y4⟩ := ⟨_, rfl⟩
                  rw [← ht] at hst
                  have e1 : y1 * 256 + y2 = t.r := by rw [ht]
                  have e2 : y3 = t.s := by rw [ht]
                  have e3 : y4 = t.m := by rw [ht]
                  rw [e1, e2, e3] at hx5
                  clear e1 e2 e3 ht
                  have f0 : w5.cell? ⟨g, 0, none⟩ = some (.int .i64 (Fr.kd l)) := hx5.out.fr 0 (by omega)
                  have f1 : w5.cell? ⟨g, 1, none⟩ = some (.int .i64 t.r) := hx5.out.fr 1 (by omega)
                  have f2 : w5.cell? ⟨g, 2, none⟩ = some (.int .i64 t.s) := hx5.out.fr 2 (by omega)
                  have f3 : w5.cell? ⟨g, 3, none⟩ = some (.int .i64 t.m) := hx5.out.fr 3 (by omega)
                  have k0 : w5.cell? ⟨b, off + 5, none⟩ = some (.int .u8 (l.getD 5 0)) := (bcell hx5.out.base.below b (off + 5) hbb).trans (hcell 5 (by omega))
                  have hx := hl.out.getD 5
                  obtain ⟨x, hxe⟩ := Int.eq_ofNat_of_zero_le hx.1
                  rw [hxe] at hx k0 hcnt
                  clear hxe
                  have q2 : (5 : Int) < (l.length : Int) := by omega
                  go_wp2_with fail
                  refine (HM _ _).out.mono ?_
                  rintro e w6 ⟨rfl, hb6⟩
                  have hx6 := Lib.hid (hx5.out.keep hb6)
                  clear hx5 hb6 HM f0 f1 f2 f3 k0
                  by_cases hts : t.may = true
                  case neg =>
                    have hts : t.may = false := by simpa using hts
                    rw [hts]
                    have FF := FF (form_st (by rw [hst]; exact hts))
                    clear hFS FO hcnt hat hcell hts hmay
                    obtain ⟨r0, r1, r2, r3, r4⟩ := hx6.out.base.res
                    have z0 := hx6.out.base.fz 0
                    have z1 := hx6.out.base.fz 1
                    have z2 := hx6.out.base.fz 2
                    have z3 := hx6.out.base.fz 3
                    have z4 := hx6.out.base.fz 4
                    go_wp2_with fail
                    (try simp only [Exit.inBlock, Exit.then])
                    refine bodyPost_ret (v := .tuple #[.agg #[.int .i64 0, .int .i64 0, .int .i64 0, .int .i64 0, .slice none 0 0], .int .i64 2]) ?_ rfl (FF _ ?_)
                    · rw [results_cell_tmp rfl]
                      go_simp
                    · (repeat' (first | exact hx6.out.base.below | exact Nat.le_succ _ | (with_reducible refine Below.setCell ?_ ?_ _)))
                  case pos =>
                    rw [hts]
                    by_cases hx8 : 8 < (x : Int)
                    case pos =>
                      have FF := FF (form_cnt (by rw [hcnt]; exact hx8))
                      clear hFS FO hcnt hat hcell hts hmay
                      obtain ⟨r0, r1, r2, r3, r4⟩ := hx6.out.base.res
                      have z0 := hx6.out.base.fz 0
                      have z1 := hx6.out.base.fz 1
                      have z2 := hx6.out.base.fz 2
                      have z3 := hx6.out.base.fz 3
                      have z4 := hx6.out.base.fz 4
                      go_wp2_with fail
                      (try simp only [Exit.inBlock, Exit.then])
                      refine bodyPost_ret (v := .tuple #[.agg #[.int .i64 0, .int .i64 0, .int .i64 0, .int .i64 0, .slice none 0 0], .int .i64 2]) ?_ rfl (FF _ ?_)
                      · rw [results_cell_tmp rfl]
                        go_simp
                      · (repeat' (first | exact hx6.out.base.below | exact Nat.le_succ _ | (with_reducible refine Below.setCell ?_ ?_ _)))
                    case neg =>
                      by_cases he : l.length = x + 8
                      case neg =>
                        have FF := FF (form_eq (by rw [hat, hcnt]; omega))
                        have heb : ((l.length : Int) != 6 + (x : Int) + 2) = true := by simp; omega
                        clear hFS FO hcnt hat hcell hts hmay
                        obtain ⟨r0, r1, r2, r3, r4⟩ := hx6.out.base.res
                        have z0 := hx6.out.base.fz 0
                        have z1 := hx6.out.base.fz 1
                        have z2 := hx6.out.base.fz 2
                        have z3 := hx6.out.base.fz 3
                        have z4 := hx6.out.base.fz 4
                        go_wp2_with fail
                        (try simp only [Exit.inBlock, Exit.then])
                        refine bodyPost_ret (v := .tuple #[.agg #[.int .i64 0, .int .i64 0, .int .i64 0, .int .i64 0, .slice none 0 0], .int .i64 2]) ?_ rfl (FF _ ?_)
                        · rw [results_cell_tmp rfl]
                          go_simp
                        · (repeat' (first | exact hx6.out.base.below | exact Nat.le_succ _ | (with_reducible refine Below.setCell ?_ ?_ _)))
                      case pos =>
                        have heb : ((x : Int) + 8 != 6 + (x : Int) + 2) = false := by simp; omega
                        have hform : Fr.formB l own = true := form_yes (by omega) hmay (by rw [hat]; omega) (by rw [hcnt]; exact hx8) (by rw [hat, hcnt]; omega) (by rw [hst]; exact hts)
                        have hFS := hFS hform
                        have FO := FO hform
                        have hrd : Fr.rd l own = ⟨(Fr.kd l), t, (l.drop 6).take x⟩ := by
                          unfold Fr.rd
                          rw [hat, hcnt, hst]
                          rfl
                        have hsub3 : SeesL w w.heap.size (.slice (some ⟨b, off + 6, none⟩) x (c - 6)) ((l.drop 6).take x) := by
                          have := SeesL.sub hv.out 6 (x + 6) (by omega) (by omega) _ rfl x _ (by omega) rfl
                          rwa [show x + 6 - 6 = x by omega] at this
                        have hdl : ((l.drop 6).take x).length = x := by rw [List.length_take, List.length_drop]; omega
                        rw [hrd] at FO
                        unfold frV at FO
                        simp only at FO
                        generalize (l.drop 6).take x = dl at *
                        have p1 : (6 : Int) ≤ 6 + (x : Int) := by omega
                        have p2 : (6 : Int) + (x : Int) ≤ (c : Int) := by omega
                        have p3 : ¬ c = 6 := by omega
                        have wrp : IntKind.i64.wrap 6 = 6 := by decide
                        clear hform FF hrd hcell hcnt hat hts
                        have hsub6 := (hsub3.below hx6.out.base.below).alloc (.cells #[] 5)
                        have hsub6 : SeesL (w6.alloc (.cells #[] 5)) w.heap.size (.slice (some ⟨b, off + 6, none⟩) (6 + x - 6) (c - 6)) dl := by
                          rw [show 6 + x - 6 = x by omega]
                          exact hsub6
                        go_wp2_with (at_builtin; go_loud (refine wpList_appendL _ rfl (.tmp 90) (.tmp 98) 37 rfl w6.heap.size infoU8 Tryz.underlying37 _ [] w6 (owns_empty w6 _ rfl _ _ (Nat.le_refl _) rfl) ((Below.refl _ _).alloc (Nat.le_refl _) _) rfl w.heap.size (.slice (some ⟨b, off + 6, none⟩) (6 + x - 6) (c - 6)) dl rfl hsub6 (by simp) (by simp <;> omega) ?_))
                        intro v7 w7 ho7 hb7
                        have ho7 : OwnsL w7 w6.heap.size v7 dl := by simpa using ho7
                        have hx7 := hx6.out.keep hb7
                        have f4 : w7.cell? ⟨g, 4, none⟩ = some (.slice none 0 0) := hx7.fr 4 (by omega)
                        have u4 := hx7.frz 4
                        obtain ⟨A7, c7, rfl, -⟩ := ho7.sees.at_
                        rw [hdl] at ho7
                        have hg6 : g < w6.heap.size := hx6.out.hi
                        clear hsub3 hsub6 hx6 hb7 p1 p2 p3 wrp heb
                        go_wp2_with fail
                        have hx8 := Lib.hid (hx7.set4 (.slice A7 x c7))
                        have ho8 := Lib.hid (ho7.other hg6 4 (.slice A7 x c7))
                        generalize w7.setCell ⟨g, 4, none⟩ (.slice A7 x c7) = w8 at *
                        clear hx7 ho7 f4 u4
                        obtain ⟨m, hm⟩ : ∃ m, m = x + 6 := ⟨_, rfl⟩
                        have hlm : l.length = m + 2 := by omega
                        have hbl : bytesL (l.take m) := fun y hy => hl.out y (List.mem_of_mem_take hy)
                        have hsub1 : SeesL w w.heap.size (.slice (some ⟨b, off, none⟩) m c) (l.take m) := by
                          have := SeesL.sub hv.out 0 m (by omega) (by omega) (some ⟨b, off, none⟩) rfl m c rfl rfl
                          simpa using this
                        have htl : (l.take m).length = m := by rw [List.length_take]; omega
                        have hcv := fun W (hb : Below w8.heap.size w8 W) => run_textL (hv.out.below (hx8.out.base.below.trans (hb.mono hx8.out.base.below.size)))
                        have hsdl : Fr.sdOf l own = 0 := if_neg hk1
                        have QS := fun W (hb : Below w8.heap.size w8 W) => sealed_ref _ (l.take m) (Fr.sdOf l own) W ((hsub1.below (hx8.out.base.below.trans (hb.mono hx8.out.base.below.size))).more (hx8.out.base.below.trans (hb.mono hx8.out.base.below.size)).size) hbl (by omega) (by rw [hsdl]; decide)
                        have hto : ((x : Int) + 6).toNat = x + 6 := by omega
                        have hsmI : (x : Int) + 8 - 2 = (x : Int) + 6 := by omega
                        have p1 : (x : Int) + 6 ≤ (c : Int) := by omega
                        have p2 : (0 : Int) ≤ (x : Int) + 6 := by omega
                        have wr9 : IntKind.i64.wrap ((x : Int) + 6) = (x : Int) + 6 := IntWalk.i64_in _ (by omega)
                        have p3 : x + 6 ≤ c := by omega
                        rw [he] at hcv
                        have B8 := Below.refl w8.heap.size w8
                        cases hS : Fr.sumB l own
                        case true =>
                          have FO := FO hS
                          have hT := sealed_same l own m hlm hS
                          rw [hT, hsdl] at QS
                          clear hFS hT hS hsdl
                          have QS := fun W (hb : Below w8.heap.size w8 W) => Lib.hid ((QS W hb).mono (R' := fun e w' => (∃ v', e = .returned v' ∧ OwnsL w' W.heap.size v' l) ∧ Below w8.heap.size w8 w') fun e w' h => by
                            obtain ⟨v, rfl, ho, hb'⟩ := h
                            exact ⟨⟨v, rfl, ho⟩, hb.trans (hb'.mono hb.size)⟩)
                          have CV := fun W hb => Lib.hid (hcv W hb)
                          clear hcv hbl htl hsub1
                          subst hm
                          go_cut [111] from 10 (fun s111 W => s111 = .bool false ∧ Below w8.heap.size w8 W)
                          case first =>
                            have cv0 := (CV _ B8).out
                            have cv2 := (CV _ B8.drew).out
                            go_region_with (first
                                | ((go_at_call 117; refine (QS _ ?_).out.mono ?_); (focus (first | exact B8 | exact B8.drew)); rintro e w9 ⟨⟨v9, rfl, ho9⟩, hb9⟩; have tx := run_textL ho9.sees; have tx2 := run_textL_drew ho9.sees; have cv1 := (CV _ hb9).out)
                                | fail)
                            all_goals
                              go_wp2_with fail
                              go_meet
                              exact ⟨by first | rfl | (rw [eT3]; rfl), hb9⟩
                          case rest =>
                            obtain ⟨rfl, hb9⟩ := hcut
                            have hx9 := Lib.hid (hx8.out.keep hb9)
                            have ho9 := Lib.hid (ho8.out.below hb9 (Nat.le_refl _))
                            clear hx8 ho8 QS CV B8
                            have f0 : wc.cell? ⟨g, 0, none⟩ = some (.int .i64 (Fr.kd l)) := hx9.out.fr 0 (by omega)
                            have f1 : wc.cell? ⟨g, 1, none⟩ = some (.int .i64 t.r) := hx9.out.fr 1 (by omega)
                            have f2 : wc.cell? ⟨g, 2, none⟩ = some (.int .i64 t.s) := hx9.out.fr 2 (by omega)
                            have f3 : wc.cell? ⟨g, 3, none⟩ = some (.int .i64 t.m) := hx9.out.fr 3 (by omega)
                            have f4 : wc.cell? ⟨g, 4, none⟩ = some (.slice A7 x c7) := hx9.out.fr 4 (by omega)

                            obtain ⟨r0, r1, r2, r3, r4⟩ := hx9.out.base.res
                            have z0 := hx9.out.base.fz 0
                            have z1 := hx9.out.base.fz 1
                            have z2 := hx9.out.base.fz 2
                            have z3 := hx9.out.base.fz 3
                            have z4 := hx9.out.base.fz 4
                            have hlo := hx9.out.lo
                            have hwg : w.heap.size ≤ w6.heap.size := by omega
                            go_wp2_with fail
                            (try simp only [Exit.inBlock, Exit.then])
                            refine bodyPost_ret (v := .tuple #[.agg #[.int .i64 (Fr.kd l), .int .i64 t.r, .int .i64 t.s, .int .i64 t.m, .slice A7 x c7], .int .i64 0]) ?_ rfl (FO _ _ ?_ ?_)
                            · rw [results_cell_tmp rfl]
                              go_simp
                            · exact (((((ho9.out.other (by omega) _ _).other (by omega) _ _).other (by omega) _ _).other (by omega) _ _).other (by omega) _ _).base hwg
                            · (repeat' (first | exact hx9.out.base.below | exact Nat.le_succ _ | (with_reducible refine Below.setCell ?_ ?_ _)))
                        case false =>
                          have hFS := hFS hS
                          have hT := sealed_text l own m hlm hS
                          have hbL : bytesL (l.take m ++ Fr.two (Fr.sumL (Fr.sdOf l own) (l.take m))) := Fr.okL.append (show Fr.okL _ from hbl) (Fr.two_ok (Nat.lt_trans (Fr.sumL_lt (by rw [hsdl]; decide) _) (by decide)))
                          generalize l.take m ++ Fr.two (Fr.sumL (Fr.sdOf l own) (l.take m)) = L1 at *
                          rw [hsdl] at QS
                          have eT : ¬ textL L1 = textL l := fun e => hT (textL_inj hbL hl.out e)
                          have eT2 : ¬ (textL L1).toList = (textL l).toList := fun h => eT (by
                            rw [ByteArray.toList_eq, ByteArray.toList_eq] at h
                            exact ByteArray.ext (Array.toList_inj.1 h))
                          have eT3 : ((textL L1).toList == (textL l).toList) = false := by rw [beq_eq_false_iff_ne]; exact eT2
                          clear FO hT hS hsdl hbL
                          have QS := fun W (hb : Below w8.heap.size w8 W) => Lib.hid ((QS W hb).mono (R' := fun e w' => (∃ v', e = .returned v' ∧ OwnsL w' W.heap.size v' L1) ∧ Below w8.heap.size w8 w') fun e w' h => by
                            obtain ⟨v, rfl, ho, hb'⟩ := h
                            exact ⟨⟨v, rfl, ho⟩, hb.trans (hb'.mono hb.size)⟩)
                          have CV := fun W hb => Lib.hid (hcv W hb)
                          clear hcv hbl htl hsub1
                          subst hm
                          go_cut [111] from 10 (fun s111 W => s111 = .bool true ∧ Below w8.heap.size w8 W)
                          case first =>
                            have cv0 := (CV _ B8).out
                            have cv2 := (CV _ B8.drew).out
                            go_region_with (first
                                | ((go_at_call 117; refine (QS _ ?_).out.mono ?_); (focus (first | exact B8 | exact B8.drew)); rintro e w9 ⟨⟨v9, rfl, ho9⟩, hb9⟩; have tx := run_textL ho9.sees; have tx2 := run_textL_drew ho9.sees; have cv1 := (CV _ hb9).out)
                                | fail)
                            all_goals
                              go_wp2_with fail
                              go_meet
                              exact ⟨by first | rfl | (rw [eT3]; rfl), hb9⟩
                          case rest =>
                            obtain ⟨rfl, hb9⟩ := hcut
                            have hx9 := Lib.hid (hx8.out.keep hb9)
                            have ho9 := Lib.hid (ho8.out.below hb9 (Nat.le_refl _))
                            clear hx8 ho8 QS CV B8
                            clear eT eT2 eT3
                            obtain ⟨r0, r1, r2, r3, r4⟩ := hx9.out.base.res
                            have z0 := hx9.out.base.fz 0
                            have z1 := hx9.out.base.fz 1
                            have z2 := hx9.out.base.fz 2
                            have z3 := hx9.out.base.fz 3
                            have z4 := hx9.out.base.fz 4
                            go_wp2_with fail
                            (try simp only [Exit.inBlock, Exit.then])
                            refine bodyPost_ret (v := .tuple #[.agg #[.int .i64 0, .int .i64 0, .int .i64 0, .int .i64 0, .slice none 0 0], .int .i64 3]) ?_ rfl (hFS _ ?_)
                            · rw [results_cell_tmp rfl]
                              go_simp
                            · (repeat' (first | exact hx9.out.base.below | exact Nat.le_succ _ | (with_reducible refine Below.setCell ?_ ?_ _)))
end Go.Proofs.YtpdenmcacaajkaaGreat
