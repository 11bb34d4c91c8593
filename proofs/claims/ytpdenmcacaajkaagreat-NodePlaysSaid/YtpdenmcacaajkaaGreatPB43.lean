/- Texts RaU in one. For what each says in front of its theorems. -/
import Derived.StillTailTactics
import Derived.Test.YtpdenmcacaajkaaGreatPB29
import Derived.Test.YtpdenmcacaajkaaGreatPB42
/-! ### RaU -/
namespace Go.Proofs.YtpdenmcacaajkaaGreat
open Go.RowKit
open Fr (St F)
/-- The first k are said to be Good, or not. -/
def gk (so : MS) (mm k : Nat) : MS := { so with g := fun i => if i < k then isB mm i else so.g i }
theorem gk_step (so : MS) (mm k : Nat) (hk : k < 8) (i : Nat) : ((gk so mm k).member (k : Nat) (isB mm (k : Nat))).g i = (gk so mm (k + 1)).g i := by
  unfold MS.member
  rw [if_pos (by unfold isN; omega)]
  show upd (gk so mm k).g (Int.toNat (k : Nat)) (isB mm (k : Nat)) i = if i < k + 1 then isB mm i else so.g i
  unfold upd
  rw [Int.toNat_natCast]
  by_cases e : i = k
  · subst e; rw [if_pos rfl, if_pos (by omega)]
  · rw [if_neg e]
    show (if i < k then isB mm i else so.g i) = _
    by_cases e2 : i < k
    · rw [if_pos e2, if_pos (by omega)]
    · rw [if_neg e2, if_neg (by omega)]
set_option maxRecDepth 100000 in
set_option maxHeartbeats 8000000 in
theorem tk_some (b : Bool) (G : Nat → Prop) (g : Nat) (m : NM) (x : RX) (h : Hn) (vx vy : Value) (l : List Int) (w : World) (hm : RA b G w g m x) (hG : GN G w) (hh : HOk w h vx vy) (hn : m.firstL h = some l) (hN : NG (m.knows (Fr.res l NM.z3) h.o)) (ht : -4611686018427387904 ≤ m.tm ∧ m.tm ≤ 4611686018427387904) (hs : 0 ≤ (Fr.res l NM.z3).st.s ∧ (Fr.res l NM.z3).st.s < 8) (hd : bytesL (Fr.res l NM.z3).d) :
    Calls Tryz.prog 82 #[.pointer (some ⟨g, 0, none⟩), hdV h vx vy] w fun e w' => e = .returned (.tuple #[]) ∧ RS false G w' g (m.knows (Fr.res l NM.z3) h.o).goOn ∧ KG G w w' := by
  have hb0 := (Below.refl w.heap.size w).alloc (Nat.le_refl _) (.cells #[.int .i64 h.a, .int .i64 h.b, vx, vy, .int .i64 h.o] 39)
  have hX0 := Blk.new w w.heap.size rfl #[.int .i64 h.a, .int .i64 h.b, vx, vy, .int .i64 h.o] 39
  have hm0 := hm.below hb0
  have HT := fun a v W => Lib.hid (tells_row a v W)
  have HF := fun W (hW : Below w.heap.size w W) => Lib.hid (first_some b G g m x h vx vy l W (hh.below hW) (hm.below hW) hn)
  obtain ⟨ux, hux⟩ : ∃ ux, rowV h.a vx = ux := ⟨_, rfl⟩
  obtain ⟨uy, huy⟩ : ∃ uy, rowV h.b vy = uy := ⟨_, rfl⟩
  have HTx : ∀ W, Hid (Calls Tryz.prog 86 #[.int .i64 h.a, vx] W fun e w' => e = .returned ux ∧ w' = W) := fun W => hux ▸ HT h.a vx W
  have HTy : ∀ W, Hid (Calls Tryz.prog 86 #[.int .i64 h.b, vy] W fun e w' => e = .returned uy ∧ w' = W) := fun W => huy ▸ HT h.b vy W
  rw [hux, huy] at HF
  clear hux huy HT
  obtain ⟨Ax, cx, rfl, -⟩ := hh.x.at_
  obtain ⟨Ay, cy, rfl, -⟩ := hh.y.at_
  have hk := Lib.hid (fun W (hW : Below w.heap.size w W) => hm.past hW)
  have ho := hh.o
  clear hh hn
  generalize hfr : Fr.res l NM.z3 = fr at *
  clear hfr
  obtain ⟨fk, ⟨f_r, f_s, f_m⟩, fd⟩ := fr
  simp only at HF hs hd
  obtain ⟨sn, rfl⟩ : ∃ sn : Nat, f_s = (sn : Int) := ⟨f_s.toNat, by omega⟩
  have hs8 : sn < 8 := by omega
  have hN := Lib.hid hN
  clear hs
  unfold hdV
  go_enter Tryz.func82, Tryz.ntmps82
  go_wp2_with fail
  clear hm hm0
  generalize w.alloc (.cells #[.int .i64 h.a, .int .i64 h.b, .slice Ax h.x.length cx, .slice Ay h.y.length cy, .int .i64 h.o] 39) = w0 at *
  have b0 := hb0
  have HS : ∀ W, Below w0.heap.size w0 W → (W.cell? ⟨w.heap.size, 0, none⟩ = some (.int .i64 h.a) ∧ W.cell? ⟨w.heap.size, 1, none⟩ = some (.int .i64 h.b) ∧ W.cell? ⟨w.heap.size, 2, none⟩ = some (.slice Ax h.x.length cx) ∧ W.cell? ⟨w.heap.size, 3, none⟩ = some (.slice Ay h.y.length cy)) := fun W hW => by
    have h' := hX0.below hW hX0.lt
    exact ⟨h'.cell 0 rfl, h'.cell 1 rfl, h'.cell 2 rfl, h'.cell 3 rfl⟩
  have br := (Below.refl w0.heap.size w0).drew
  have S0 := Lib.hid (HS _ br)
  have HH := Lib.hid HS
  clear HS
  go_cut [4, 5] from 7 to 21 (fun s4 s5 wx => ∃ a A2 c2, s4 = .pointer (some ⟨a, 0, none⟩) ∧ s5 = .bool true ∧ Blk wx a #[.int .i64 fk, .int .i64 f_r, .int .i64 (sn : Nat), .int .i64 f_m, .slice A2 fd.length c2] 137 ∧ OwnsL wx w0.heap.size (.slice A2 fd.length c2) fd ∧ Below w0.heap.size w0 wx ∧ w0.heap.size ≤ a)
  case first =>
    refine wp_region_held_drew (S := fun W => W.cell? ⟨w.heap.size, 0, none⟩ = some (.int .i64 h.a) ∧ W.cell? ⟨w.heap.size, 1, none⟩ = some (.int .i64 h.b) ∧ W.cell? ⟨w.heap.size, 2, none⟩ = some (.slice Ax h.x.length cx) ∧ W.cell? ⟨w.heap.size, 3, none⟩ = some (.slice Ay h.y.length cy)) (by kernel_rfl) S0.out (fun hHeld => ?_)
    refine wTk 0 8 ?_ rfl (fun _ _ _ h => h) (by rfl) ?_ ?_
    rotate_left 1
    · (intro wz hSw; go_simp; try with_reducible rfl)
    try simp only [Act.put, qZa, qZb, qZc]
    refine wTk 1 9 ?_ rfl (fun _ _ _ h => h) (by rfl) ?_ ?_
    rotate_left 1
    · (intro wz hSw; go_simp; try with_reducible rfl)
    try simp only [Act.put, qZa, qZb, qZc]
    refine wTk 2 10 ?_ rfl (fun _ _ _ h => h) (by rfl) ?_ ?_
    rotate_left 1
    · (intro wz hSw; go_simp; try with_reducible rfl)
    try simp only [Act.put, qZa, qZb, qZc]
    refine wTk 3 11 ?_ rfl (fun _ _ _ h => h) (by rfl) ?_ ?_
    rotate_left 1
    · (intro wz hSw; go_simp; try with_reducible rfl)
    try simp only [Act.put, qZa, qZb, qZc]
    refine wTk 4 12 ?_ rfl (fun _ _ _ h => h) (by rfl) ?_ ?_
    rotate_left 1
    · (intro wz hSw; go_simp; try with_reducible rfl)
    try simp only [Act.put, qZa, qZb, qZc]
    refine wTk 6 14 ?_ rfl (fun _ _ _ h => h) (by rfl) ?_ ?_
    rotate_left 1
    · (intro wz hSw; go_simp; try with_reducible rfl)
    try simp only [Act.put, qZa, qZb, qZc]
    refine wTk 7 15 ?_ rfl (fun _ _ _ h => h) (by rfl) ?_ ?_
    rotate_left 1
    · (intro wz hSw; go_simp; try with_reducible rfl)
    try simp only [Act.put, qZa, qZb, qZc]
    refine wTk 8 16 ?_ rfl (fun _ _ _ h => h) (by rfl) ?_ ?_
    rotate_left 1
    · (intro wz hSw; go_simp; try with_reducible rfl)
    try simp only [Act.put, qZa, qZb, qZc]
    refine wTk 9 17 ?_ rfl (fun _ _ _ h => h) (by rfl) ?_ ?_
    rotate_left 1
    · (intro wz hSw; go_simp; try with_reducible rfl)
    try simp only [Act.put, qZa, qZb, qZc]
    refine wpAnyH_ready (rs := [5,15]) (by kernel_rfl) (by simp) ?_
    refine (AllReadyH.cons rfl (fun K hK => ?_) (AllReadyH.cons rfl (fun K hK => ?_) AllReadyH.nil))
    · skip
      go_simp
      refine (HTx _).out.mono ?_
      rintro _ _ ⟨rfl, rfl⟩
      refine hK.out _ _ (HH.out _ br) (fun hHeld => ?_)
      clear hK K
      try simp only [Act.put, qZa, qZb, qZc]
      refine wpAnyH_ready (rs := [10,15]) (by kernel_rfl) (by simp) ?_
      refine (AllReadyH.cons rfl (fun K hK => ?_) (AllReadyH.cons rfl (fun K hK => ?_) AllReadyH.nil))
      · skip
        go_simp
        refine (HTy _).out.mono ?_
        rintro _ _ ⟨rfl, rfl⟩
        refine hK.out _ _ (HH.out _ br) (fun hHeld => ?_)
        clear hK K
        try simp only [Act.put, qZa, qZb, qZc]
        refine wpAnyH_ready (rs := [11,15]) (by kernel_rfl) (by simp) ?_
        refine (AllReadyH.cons rfl (fun K hK => ?_) (AllReadyH.cons rfl (fun K hK => ?_) AllReadyH.nil))
        · skip
          go_simp
          refine (HF _ (b0.trans (br.mono b0.size))).out.mono ?_
          rintro _ w13 ⟨v, rfl, hv, d13⟩
          obtain ⟨A2, c2, rfl, -⟩ := hv.sees.at_
          unfold frV
          simp only
          (try simp only at hv)
          have b13 := br.trans (d13.mono br.size)
          refine hK.out _ _ (HH.out _ b13) (fun hHeld => ?_)
          clear hK K
          try simp only [Act.put, qZa, qZb, qZc]
          refine wTk 12 7 ?_ rfl (fun _ _ _ h => h) (by rfl) ?_ ?_
          rotate_left 1
          · (intro wz hSw; go_simp; try with_reducible rfl)
          try simp only [Act.put, qZa, qZb, qZc]
          refine wTk 13 20 ?_ rfl (fun _ _ _ h => h) (by rfl) ?_ ?_
          rotate_left 1
          · (intro wz hSw; go_simp; try with_reducible rfl)
          try simp only [Act.put, qZa, qZb, qZc]
          refine wTk 14 21 ?_ rfl (fun _ _ _ h => h) (by rfl) ?_ ?_
          rotate_left 1
          · (intro wz hSw; go_simp; try with_reducible rfl)
          try simp only [Act.put, qZa, qZb, qZc]
          refine wpAnyH_ready (rs := [15]) (by kernel_rfl) (by simp) ?_
          refine (AllReadyH.cons rfl (fun K hK => ?_) AllReadyH.nil)
          go_simp
          have b14 := b13.alloc b13.size (.cells #[.int .i64 0, .int .i64 0, .int .i64 0, .int .i64 0, .slice none 0 0] 137)
          have X14 := Blk.new w13 (w13).heap.size rfl #[.int .i64 0, .int .i64 0, .int .i64 0, .int .i64 0, .slice none 0 0] 137
          refine hK.out _ _ (HH.out _ b14) (fun hHeld => ?_)
          clear hK K
          try simp only [Act.put, qZa, qZb, qZc]
          refine wpAnyH_ready (rs := [16]) (by kernel_rfl) (by simp) ?_
          refine (AllReadyH.cons rfl (fun K hK => ?_) AllReadyH.nil)
          have y0 := X14.cell 0 (x := .int .i64 0) rfl
          have z0 := X14.frozen 0
          have y1 := X14.cell 1 (x := .int .i64 0) rfl
          have z1 := X14.frozen 1
          have y2 := X14.cell 2 (x := .int .i64 0) rfl
          have z2 := X14.frozen 2
          have y3 := X14.cell 3 (x := .int .i64 0) rfl
          have z3 := X14.frozen 3
          have y4 := X14.cell 4 (x := .slice none 0 0) rfl
          have z4 := X14.frozen 4
          go_simp
          have XF := Blk.new w13 (w13).heap.size rfl #[.int .i64 fk, .int .i64 f_r, .int .i64 (sn : Nat), .int .i64 f_m, .slice A2 fd.length c2] 137
          have bF := b13.alloc b13.size (.cells #[.int .i64 fk, .int .i64 f_r, .int .i64 (sn : Nat), .int .i64 f_m, .slice A2 fd.length c2] 137)
          have le : w0.heap.size ≤ (w13).heap.size := b13.size
          refine hK.out _ _ (HH.out _ bF) (fun hHeld => ?_)
          clear y0 z0 y1 z1 y2 z2 y3 z3 y4 z4
          clear hK K
          try simp only [Act.put, qZa, qZb, qZc]
          refine wTk 17 5 ?_ rfl (fun _ _ _ h => h) (by rfl) ?_ ?_
          rotate_left 1
          · (intro wz hSw; go_simp; try with_reducible rfl)
          try simp only [Act.put, qZa, qZb, qZc]
          refine wpAnyH_done (by kernel_rfl) ?_ _
          have hv5 := hv.alloc (.cells #[.int .i64 fk, .int .i64 f_r, .int .i64 (sn : Nat), .int .i64 f_m, .slice A2 fd.length c2] 137)
          go_wp2_with fail
          go_meet
          exact ⟨_, A2, c2, rfl, rfl, XF, hv5.base (by have := br.size; first | (simp; done) | (simp at this ⊢; omega)), bF, le⟩
        · skip
          go_simp
          have b16 := br.alloc br.size (.cells #[.int .i64 0, .int .i64 0, .int .i64 0, .int .i64 0, .slice none 0 0] 137)
          have X16 := Blk.new w0.drew w0.heap.size rfl #[.int .i64 0, .int .i64 0, .int .i64 0, .int .i64 0, .slice none 0 0] 137
          refine hK.out _ _ (HH.out _ b16) (fun hHeld => ?_)
          clear hK K
          try simp only [Act.put, qZa, qZb, qZc]
          refine wpAnyH_ready (rs := [11]) (by kernel_rfl) (by simp) ?_
          refine (AllReadyH.cons rfl (fun K hK => ?_) AllReadyH.nil)
          go_simp
          refine (HF _ (b0.trans (b16.mono b0.size))).out.mono ?_
          rintro _ w17 ⟨v, rfl, hv, d17⟩
          obtain ⟨A2, c2, rfl, -⟩ := hv.sees.at_
          unfold frV
          simp only
          (try simp only at hv)
          have b17 := b16.trans (d17.mono b16.size)
          have X16x := X16.below d17 X16.lt
          refine hK.out _ _ (HH.out _ b17) (fun hHeld => ?_)
          clear hK K
          try simp only [Act.put, qZa, qZb, qZc]
          refine wTk 12 7 ?_ rfl (fun _ _ _ h => h) (by rfl) ?_ ?_
          rotate_left 1
          · (intro wz hSw; go_simp; try with_reducible rfl)
          try simp only [Act.put, qZa, qZb, qZc]
          refine wTk 13 20 ?_ rfl (fun _ _ _ h => h) (by rfl) ?_ ?_
          rotate_left 1
          · (intro wz hSw; go_simp; try with_reducible rfl)
          try simp only [Act.put, qZa, qZb, qZc]
          refine wTk 14 21 ?_ rfl (fun _ _ _ h => h) (by rfl) ?_ ?_
          rotate_left 1
          · (intro wz hSw; go_simp; try with_reducible rfl)
          try simp only [Act.put, qZa, qZb, qZc]
          refine wpAnyH_ready (rs := [16]) (by kernel_rfl) (by simp) ?_
          refine (AllReadyH.cons rfl (fun K hK => ?_) AllReadyH.nil)
          have y0 := X16x.cell 0 (x := .int .i64 0) rfl
          have z0 := X16x.frozen 0
          have y1 := X16x.cell 1 (x := .int .i64 0) rfl
          have z1 := X16x.frozen 1
          have y2 := X16x.cell 2 (x := .int .i64 0) rfl
          have z2 := X16x.frozen 2
          have y3 := X16x.cell 3 (x := .int .i64 0) rfl
          have z3 := X16x.frozen 3
          have y4 := X16x.cell 4 (x := .slice none 0 0) rfl
          have z4 := X16x.frozen 4
          go_simp
          have le : w0.heap.size ≤ w0.heap.size := br.size
          have XF : Blk _ w0.heap.size #[.int .i64 fk, .int .i64 f_r, .int .i64 (sn : Nat), .int .i64 f_m, .slice A2 fd.length c2] 137 := (((((X16x.set 0 (.int .i64 fk)).set 1 (.int .i64 f_r)).set 2 (.int .i64 (sn : Nat))).set 3 (.int .i64 f_m)).set 4 (.slice A2 fd.length c2)).eq (by simp)
          have bF := (((((b17.setCell (p := ⟨w0.heap.size, 0, none⟩) le (.int .i64 fk)).setCell (p := ⟨w0.heap.size, 1, none⟩) le (.int .i64 f_r)).setCell (p := ⟨w0.heap.size, 2, none⟩) le (.int .i64 (sn : Nat))).setCell (p := ⟨w0.heap.size, 3, none⟩) le (.int .i64 f_m)).setCell (p := ⟨w0.heap.size, 4, none⟩) le (.slice A2 fd.length c2))
          refine hK.out _ _ (HH.out _ bF) (fun hHeld => ?_)
          clear y0 z0 y1 z1 y2 z2 y3 z3 y4 z4
          clear hK K
          try simp only [Act.put, qZa, qZb, qZc]
          refine wTk 17 5 ?_ rfl (fun _ _ _ h => h) (by rfl) ?_ ?_
          rotate_left 1
          · (intro wz hSw; go_simp; try with_reducible rfl)
          try simp only [Act.put, qZa, qZb, qZc]
          refine wpAnyH_done (by kernel_rfl) ?_ _
          have hv5 := (((((hv.setFar ⟨w0.heap.size, 0, none⟩ (.int .i64 fk) (by simp)).setFar ⟨w0.heap.size, 1, none⟩ (.int .i64 f_r) (by simp)).setFar ⟨w0.heap.size, 2, none⟩ (.int .i64 (sn : Nat)) (by simp)).setFar ⟨w0.heap.size, 3, none⟩ (.int .i64 f_m) (by simp)).setFar ⟨w0.heap.size, 4, none⟩ (.slice A2 fd.length c2) (by simp))
          go_wp2_with fail
          go_meet
          exact ⟨_, A2, c2, rfl, rfl, XF, hv5.base (by have := br.size; first | (simp; done) | (simp at this ⊢; omega)), bF, le⟩
      · skip
        go_simp
        have b19 := br.alloc br.size (.cells #[.int .i64 0, .int .i64 0, .int .i64 0, .int .i64 0, .slice none 0 0] 137)
        have X19 := Blk.new w0.drew w0.heap.size rfl #[.int .i64 0, .int .i64 0, .int .i64 0, .int .i64 0, .slice none 0 0] 137
        refine hK.out _ _ (HH.out _ b19) (fun hHeld => ?_)
        clear hK K
        try simp only [Act.put, qZa, qZb, qZc]
        refine wpAnyH_ready (rs := [10]) (by kernel_rfl) (by simp) ?_
        refine (AllReadyH.cons rfl (fun K hK => ?_) AllReadyH.nil)
        go_simp
        refine (HTy _).out.mono ?_
        rintro _ _ ⟨rfl, rfl⟩
        refine hK.out _ _ (HH.out _ b19) (fun hHeld => ?_)
        clear hK K
        try simp only [Act.put, qZa, qZb, qZc]
        refine wpAnyH_ready (rs := [11]) (by kernel_rfl) (by simp) ?_
        refine (AllReadyH.cons rfl (fun K hK => ?_) AllReadyH.nil)
        go_simp
        refine (HF _ (b0.trans (b19.mono b0.size))).out.mono ?_
        rintro _ w21 ⟨v, rfl, hv, d21⟩
        obtain ⟨A2, c2, rfl, -⟩ := hv.sees.at_
        unfold frV
        simp only
        (try simp only at hv)
        have b21 := b19.trans (d21.mono b19.size)
        have X19x := X19.below d21 X19.lt
        refine hK.out _ _ (HH.out _ b21) (fun hHeld => ?_)
        clear hK K
        try simp only [Act.put, qZa, qZb, qZc]
        refine wTk 12 7 ?_ rfl (fun _ _ _ h => h) (by rfl) ?_ ?_
        rotate_left 1
        · (intro wz hSw; go_simp; try with_reducible rfl)
        try simp only [Act.put, qZa, qZb, qZc]
        refine wTk 13 20 ?_ rfl (fun _ _ _ h => h) (by rfl) ?_ ?_
        rotate_left 1
        · (intro wz hSw; go_simp; try with_reducible rfl)
        try simp only [Act.put, qZa, qZb, qZc]
        refine wTk 14 21 ?_ rfl (fun _ _ _ h => h) (by rfl) ?_ ?_
        rotate_left 1
        · (intro wz hSw; go_simp; try with_reducible rfl)
        try simp only [Act.put, qZa, qZb, qZc]
        refine wpAnyH_ready (rs := [16]) (by kernel_rfl) (by simp) ?_
        refine (AllReadyH.cons rfl (fun K hK => ?_) AllReadyH.nil)
        have y0 := X19x.cell 0 (x := .int .i64 0) rfl
        have z0 := X19x.frozen 0
        have y1 := X19x.cell 1 (x := .int .i64 0) rfl
        have z1 := X19x.frozen 1
        have y2 := X19x.cell 2 (x := .int .i64 0) rfl
        have z2 := X19x.frozen 2
        have y3 := X19x.cell 3 (x := .int .i64 0) rfl
        have z3 := X19x.frozen 3
        have y4 := X19x.cell 4 (x := .slice none 0 0) rfl
        have z4 := X19x.frozen 4
        go_simp
        have le : w0.heap.size ≤ w0.heap.size := br.size
        have XF : Blk _ w0.heap.size #[.int .i64 fk, .int .i64 f_r, .int .i64 (sn : Nat), .int .i64 f_m, .slice A2 fd.length c2] 137 := (((((X19x.set 0 (.int .i64 fk)).set 1 (.int .i64 f_r)).set 2 (.int .i64 (sn : Nat))).set 3 (.int .i64 f_m)).set 4 (.slice A2 fd.length c2)).eq (by simp)
        have bF := (((((b21.setCell (p := ⟨w0.heap.size, 0, none⟩) le (.int .i64 fk)).setCell (p := ⟨w0.heap.size, 1, none⟩) le (.int .i64 f_r)).setCell (p := ⟨w0.heap.size, 2, none⟩) le (.int .i64 (sn : Nat))).setCell (p := ⟨w0.heap.size, 3, none⟩) le (.int .i64 f_m)).setCell (p := ⟨w0.heap.size, 4, none⟩) le (.slice A2 fd.length c2))
        refine hK.out _ _ (HH.out _ bF) (fun hHeld => ?_)
        clear y0 z0 y1 z1 y2 z2 y3 z3 y4 z4
        clear hK K
        try simp only [Act.put, qZa, qZb, qZc]
        refine wTk 17 5 ?_ rfl (fun _ _ _ h => h) (by rfl) ?_ ?_
        rotate_left 1
        · (intro wz hSw; go_simp; try with_reducible rfl)
        try simp only [Act.put, qZa, qZb, qZc]
        refine wpAnyH_done (by kernel_rfl) ?_ _
        have hv5 := (((((hv.setFar ⟨w0.heap.size, 0, none⟩ (.int .i64 fk) (by simp)).setFar ⟨w0.heap.size, 1, none⟩ (.int .i64 f_r) (by simp)).setFar ⟨w0.heap.size, 2, none⟩ (.int .i64 (sn : Nat)) (by simp)).setFar ⟨w0.heap.size, 3, none⟩ (.int .i64 f_m) (by simp)).setFar ⟨w0.heap.size, 4, none⟩ (.slice A2 fd.length c2) (by simp))
        go_wp2_with fail
        go_meet
        exact ⟨_, A2, c2, rfl, rfl, XF, hv5.base (by have := br.size; first | (simp; done) | (simp at this ⊢; omega)), bF, le⟩
    · skip
      go_simp
      have b23 := br.alloc br.size (.cells #[.int .i64 0, .int .i64 0, .int .i64 0, .int .i64 0, .slice none 0 0] 137)
      have X23 := Blk.new w0.drew w0.heap.size rfl #[.int .i64 0, .int .i64 0, .int .i64 0, .int .i64 0, .slice none 0 0] 137
      refine hK.out _ _ (HH.out _ b23) (fun hHeld => ?_)
      clear hK K
      try simp only [Act.put, qZa, qZb, qZc]
      refine wpAnyH_ready (rs := [5]) (by kernel_rfl) (by simp) ?_
      refine (AllReadyH.cons rfl (fun K hK => ?_) AllReadyH.nil)
      go_simp
      refine (HTx _).out.mono ?_
      rintro _ _ ⟨rfl, rfl⟩
      refine hK.out _ _ (HH.out _ b23) (fun hHeld => ?_)
      clear hK K
      try simp only [Act.put, qZa, qZb, qZc]
      refine wpAnyH_ready (rs := [10]) (by kernel_rfl) (by simp) ?_
      refine (AllReadyH.cons rfl (fun K hK => ?_) AllReadyH.nil)
      go_simp
      refine (HTy _).out.mono ?_
      rintro _ _ ⟨rfl, rfl⟩
      refine hK.out _ _ (HH.out _ b23) (fun hHeld => ?_)
      clear hK K
      try simp only [Act.put, qZa, qZb, qZc]
      refine wpAnyH_ready (rs := [11]) (by kernel_rfl) (by simp) ?_
      refine (AllReadyH.cons rfl (fun K hK => ?_) AllReadyH.nil)
      go_simp
      refine (HF _ (b0.trans (b23.mono b0.size))).out.mono ?_
      rintro _ w26 ⟨v, rfl, hv, d26⟩
      obtain ⟨A2, c2, rfl, -⟩ := hv.sees.at_
      unfold frV
      simp only
      (try simp only at hv)
      have b26 := b23.trans (d26.mono b23.size)
      have X23x := X23.below d26 X23.lt
      refine hK.out _ _ (HH.out _ b26) (fun hHeld => ?_)
      clear hK K
      try simp only [Act.put, qZa, qZb, qZc]
      refine wTk 12 7 ?_ rfl (fun _ _ _ h => h) (by rfl) ?_ ?_
      rotate_left 1
      · (intro wz hSw; go_simp; try with_reducible rfl)
      try simp only [Act.put, qZa, qZb, qZc]
      refine wTk 13 20 ?_ rfl (fun _ _ _ h => h) (by rfl) ?_ ?_
      rotate_left 1
      · (intro wz hSw; go_simp; try with_reducible rfl)
      try simp only [Act.put, qZa, qZb, qZc]
      refine wTk 14 21 ?_ rfl (fun _ _ _ h => h) (by rfl) ?_ ?_
      rotate_left 1
      · (intro wz hSw; go_simp; try with_reducible rfl)
      try simp only [Act.put, qZa, qZb, qZc]
      refine wpAnyH_ready (rs := [16]) (by kernel_rfl) (by simp) ?_
      refine (AllReadyH.cons rfl (fun K hK => ?_) AllReadyH.nil)
      have y0 := X23x.cell 0 (x := .int .i64 0) rfl
      have z0 := X23x.frozen 0
      have y1 := X23x.cell 1 (x := .int .i64 0) rfl
      have z1 := X23x.frozen 1
      have y2 := X23x.cell 2 (x := .int .i64 0) rfl
      have z2 := X23x.frozen 2
      have y3 := X23x.cell 3 (x := .int .i64 0) rfl
      have z3 := X23x.frozen 3
      have y4 := X23x.cell 4 (x := .slice none 0 0) rfl
      have z4 := X23x.frozen 4
      go_simp
      have le : w0.heap.size ≤ w0.heap.size := br.size
      have XF : Blk _ w0.heap.size #[.int .i64 fk, .int .i64 f_r, .int .i64 (sn : Nat), .int .i64 f_m, .slice A2 fd.length c2] 137 := (((((X23x.set 0 (.int .i64 fk)).set 1 (.int .i64 f_r)).set 2 (.int .i64 (sn : Nat))).set 3 (.int .i64 f_m)).set 4 (.slice A2 fd.length c2)).eq (by simp)
      have bF := (((((b26.setCell (p := ⟨w0.heap.size, 0, none⟩) le (.int .i64 fk)).setCell (p := ⟨w0.heap.size, 1, none⟩) le (.int .i64 f_r)).setCell (p := ⟨w0.heap.size, 2, none⟩) le (.int .i64 (sn : Nat))).setCell (p := ⟨w0.heap.size, 3, none⟩) le (.int .i64 f_m)).setCell (p := ⟨w0.heap.size, 4, none⟩) le (.slice A2 fd.length c2))
      refine hK.out _ _ (HH.out _ bF) (fun hHeld => ?_)
      clear y0 z0 y1 z1 y2 z2 y3 z3 y4 z4
      clear hK K
      try simp only [Act.put, qZa, qZb, qZc]
      refine wTk 17 5 ?_ rfl (fun _ _ _ h => h) (by rfl) ?_ ?_
      rotate_left 1
      · (intro wz hSw; go_simp; try with_reducible rfl)
      try simp only [Act.put, qZa, qZb, qZc]
      refine wpAnyH_done (by kernel_rfl) ?_ _
      have hv5 := (((((hv.setFar ⟨w0.heap.size, 0, none⟩ (.int .i64 fk) (by simp)).setFar ⟨w0.heap.size, 1, none⟩ (.int .i64 f_r) (by simp)).setFar ⟨w0.heap.size, 2, none⟩ (.int .i64 (sn : Nat)) (by simp)).setFar ⟨w0.heap.size, 3, none⟩ (.int .i64 f_m) (by simp)).setFar ⟨w0.heap.size, 4, none⟩ (.slice A2 fd.length c2) (by simp))
      go_wp2_with fail
      go_meet
      exact ⟨_, A2, c2, rfl, rfl, XF, hv5.base (by have := br.size; first | (simp; done) | (simp at this ⊢; omega)), bF, le⟩
  case rest =>
    obtain ⟨fa, A2, c2, rfl, rfl, hF, hv, bc, hfa⟩ := hcut
    have hXc := hX0.below bc hX0.lt
    have bw := b0.trans (bc.mono b0.size)
    have hmc := hk.out _ bw
    have kc := Lib.hid (kg_below (G := G) bw)
    have hGc := Gp.gn hG bw.size
    have hsz := b0.size
    clear S0 HH HTx HTy HF hk hX0 br
    have hA := Lib.hid (anew_ra b _ g m x 3 wc hmc hGc)
    go_wp2_with fail
    refine hA.out.mono ?_
    rintro _ w2 ⟨rfl, ⟨x2, h2⟩, k2⟩
    have hK : Hid (∀ W, KG (Gp G w wc) wc W → Blk W fa #[.int .i64 fk, .int .i64 f_r, .int .i64 (sn : Nat), .int .i64 f_m, .slice A2 fd.length c2] 137 ∧ Blk W w.heap.size #[.int .i64 h.a, .int .i64 h.b, .slice Ax h.x.length cx, .slice Ay h.y.length cy, .int .i64 h.o] 39 ∧ SeesL W W.heap.size (.slice A2 fd.length c2) fd ∧ GN (Gp G w wc) W) := Lib.hid fun W k =>
      ⟨k.blk (by omega) hF, k.blk (Nat.le_refl _) hXc, k.seesL hv.sees (fun k h0 e => by have := (hv.lt k e).1; omega), hGc.up k.size⟩
    clear hA hF hXc hv hmc hGc
    have hg := h2.G_
    obtain ⟨hF2, -, -, -⟩ := hK.out w2 k2
    have h2 : RA false (Gp G w wc) w2 g (m.anew 3) x2 := h2
    have c7 := h2.c7
    have c8 := h2.c8
    have f7 := h2.frozen 7
    have f8 := h2.frozen 8
    have y1 := hF2.cell 1 (x := .int .i64 f_r) rfl
    have y2 := hF2.cell 2 (x := .int .i64 (sn : Nat)) rfl
    have h3 : Hid (RA false (Gp G w wc) ((w2.setCell ⟨g, 7, none⟩ (.int .i64 f_r)).setCell ⟨g, 8, none⟩ (.int .i64 (sn : Nat))).drew g ({ m.anew 3 with rd := f_r, sl := sn } : NM) x2) := Lib.hid ((h2.sRd f_r).sSl sn).drew
    have k3 : Hid (KG (Gp G w wc) wc ((w2.setCell ⟨g, 7, none⟩ (.int .i64 f_r)).setCell ⟨g, 8, none⟩ (.int .i64 (sn : Nat))).drew) := Lib.hid ((k2.trans ((((Only.refl g w2).set 7 _).set 8 _).kg hg)).trans (kg_below (Below.refl _ _).drew))
    clear h2 hF2
    have HS : ∀ W, KG (Gp G w wc) wc W → (W.cell? ⟨fa, 1, none⟩ = some (.int .i64 f_r) ∧ W.cell? ⟨fa, 2, none⟩ = some (.int .i64 (sn : Nat))) := fun W k => ⟨(hK.out W k).1.cell 1 rfl, (hK.out W k).1.cell 2 rfl⟩
    have S0 := Lib.hid (HS _ (k2.trans (kg_below (Below.refl _ w2).drew)))
    have S1 := Lib.hid (HS _ ((k2.trans (kg_below (Below.refl _ w2).drew)).trans (((Only.refl g w2.drew).set 7 (.int .i64 f_r)).kg hg)))
    have S2 := Lib.hid (HS _ (((k2.trans (kg_below (Below.refl _ w2).drew)).trans (((Only.refl g w2.drew).set 7 (.int .i64 f_r)).kg hg)).trans (((Only.refl g _).set 8 (.int .i64 (sn : Nat))).kg hg)))
    clear k2 HS
    go_wp2_with fail
    go_region_held3 (fun W => W.cell? ⟨fa, 1, none⟩ = some (.int .i64 f_r) ∧ W.cell? ⟨fa, 2, none⟩ = some (.int .i64 (sn : Nat))) ((first | exact S0.out | exact S1.out | exact S2.out)) (fail)
    clear y1 y2 c7 c8 f7 f8 S0 S1 S2
    generalize (World.setCell _ ⟨g, 8, none⟩ _).drew = w3 at *
    obtain ⟨hF3, -, -, hG3⟩ := hK.out w3 k3.out
    have y3 := hF3.cell 3 (x := .int .i64 f_m) rfl
    have hNw := Lib.hid (new_rt f_m w3)
    go_wp2_with fail
    refine hNw.out.mono ?_
    rintro _ w4 ⟨rfl, hT4, b4, -⟩
    have h4' := h3.out.below b4
    have c9 := h4'.c9
    have f9 := h4'.frozen 9
    have h4 := h3.out.freshM b4 rfl hT4 (hG3 _ (Nat.le_refl _))
    have k4 : Hid (KG (Gp G w wc) wc (w4.setCell ⟨g, 9, none⟩ (.pointer (some ⟨w3.heap.size, 0, none⟩)))) := Lib.hid ((k3.out.trans (kg_below b4)).trans (((Only.refl g w4).set 9 _).kg hg))
    clear h3 k3 hF3 hG3 y3 hNw h4' hT4
    go_wp2_with fail
    clear c9 f9
    generalize World.setCell _ ⟨g, 9, none⟩ _ = w5 at *
    generalize ({ x2 with m := w3.heap.size } : RX) = x5 at *
    have hd5 := h4.drew
    have hgm := h4.gs x5.m (by simp [RX.own])
    have hne := h4.ne.2.2.2.2.2.1
    have S0 : Hid (w5.drew.cell? ⟨g, 9, none⟩ = some (.pointer (some ⟨x5.m, 0, none⟩)) ∧ w5.drew.cell? ⟨g, 8, none⟩ = some (.int .i64 (sn : Nat))) := Lib.hid ⟨hd5.c9, hd5.c8⟩
    have hR := Lib.hid (right_rt x5.m ⟨(f_m % 256).toNat, 0, 0⟩ (sn : Nat) w5.drew hd5.ty (by show 0 < 1000; omega))
    have hUp := Lib.hid (fun w6 ty (hT : TAt 130 w6 x5.m ty) (o : Only x5.m w5.drew w6) => hd5.upM hT o)
    clear h4 hd5
    go_region_held3 (fun W => W.cell? ⟨g, 9, none⟩ = some (.pointer (some ⟨x5.m, 0, none⟩)) ∧ W.cell? ⟨g, 8, none⟩ = some (.int .i64 (sn : Nat))) ((first | exact S0.out | exact S1.out))
      (first
        | (go_at_call 87; refine hR.out.mono ?_; rintro _ w6 ⟨rfl, hT6, o6⟩; (have h6 := hUp.out w6 _ hT6 o6); (have S1 : Hid (w6.cell? ⟨g, 9, none⟩ = some (.pointer (some ⟨x5.m, 0, none⟩)) ∧ w6.cell? ⟨g, 8, none⟩ = some (.int .i64 (sn : Nat))) := Lib.hid ⟨h6.c9, h6.c8⟩); (have k6 := Lib.hid ((k4.out.trans (kg_below (Below.refl _ w5).drew)).trans (o6.kg hgm))))
        | fail)
    clear S0 S1 hR hUp hT6 o6 k4
    obtain ⟨ty, htye⟩ : ∃ ty, TS.right ⟨(f_m % 256).toNat, 0, 0⟩ (sn : Nat) = ty := ⟨_, rfl⟩
    rw [htye] at h6
    have hty := Lib.hid htye
    clear htye
    have h6 : RA false (Gp G w wc) w6 g ({ m.anew 3 with rd := f_r, sl := sn, ty := ty } : NM) x5 := h6
    have hwr : IntKind.i64.wrap (m.tm + h.o) = m.tm + h.o := IntWalk.i64_in _ (by omega)
    have f10 := h6.frozen 10
    have c10 : w6.cell? ⟨g, 10, none⟩ = some (.int .i64 m.tm) := h6.c10
    obtain ⟨-, hX6, -, -⟩ := hK.out w6 k6.out
    have y4 := hX6.cell 4 (x := .int .i64 h.o) rfl
    have h7 : Hid (RA false (Gp G w wc) (w6.setCell ⟨g, 10, none⟩ (.int .i64 (m.tm + h.o))).drew g ({ m.anew 3 with rd := f_r, sl := sn, ty := ty, tm := m.tm + h.o } : NM) x5) := Lib.hid (h6.sTm (m.tm + h.o)).drew
    have k7 : Hid (KG (Gp G w wc) wc (w6.setCell ⟨g, 10, none⟩ (.int .i64 (m.tm + h.o))).drew) := Lib.hid ((k6.out.trans (((Only.refl g w6).set 10 _).kg hg)).trans (kg_below (Below.refl _ _).drew))
    clear h6 k6 hX6
    go_wp2_with fail
    go_still_tail 10, (by kernel_rfl)
    change wpList _ _ _ _ _ w6.drew
    go_wp2_with fail
    clear c10 f10 y4
    generalize (World.setCell _ ⟨g, 10, none⟩ _).drew = w7 at *
    have hd7 := h7.out.drew
    have kd7 := Lib.hid (k7.out.trans (kg_below (Below.refl _ w7).drew))
    obtain ⟨hF7, -, hs7, hG7⟩ := hK.out w7.drew kd7.out
    have HS : ∀ W (m' : NM), m'.sl = sn → RA false (Gp G w wc) W g m' x5 → KG (Gp G w wc) wc W → (W.cell? ⟨g, 13, none⟩ = some (.pointer (some ⟨x5.s, 0, none⟩)) ∧ W.cell? ⟨g, 8, none⟩ = some (.int .i64 (sn : Nat)) ∧ W.cell? ⟨fa, 4, none⟩ = some (.slice A2 fd.length c2)) := fun W m' e h k => ⟨h.c13, e ▸ h.c8, (hK.out W k).1.cell 4 rfl⟩
    have S0 := Lib.hid (HS _ _ rfl hd7 kd7.out)
    have hgs := hd7.gs x5.s (by simp [RX.own])
    have hP := Lib.hid (put_rs (Gp G w wc) (x5.own g) x5.s MS.new (sn : Nat) (.slice A2 fd.length c2) fd w7.drew.heap.size w7.drew hd7.so (by simp [RX.own]) (fun f hf => hd7.lts f (List.mem_cons_of_mem _ hf)) hG7 hs7 hd)
    have hUp := Lib.hid (fun w8 so (hT : SRt (Gp G w wc) (x5.own g) w8 x5.s so) (o : Only x5.s w7.drew w8) => hd7.upS hT o)
    have HSH := Lib.hid HS
    clear h7 k7 hF7 hs7 hG7 hd7 HS
    go_wp2_with fail
    go_region_held3 (fun W => W.cell? ⟨g, 13, none⟩ = some (.pointer (some ⟨x5.s, 0, none⟩)) ∧ W.cell? ⟨g, 8, none⟩ = some (.int .i64 (sn : Nat)) ∧ W.cell? ⟨fa, 4, none⟩ = some (.slice A2 fd.length c2)) ((first | exact S0.out | exact S1.out))
      (first
        | (go_at_call 88; refine hP.out.mono ?_; rintro _ w8 ⟨rfl, hT8, o8⟩; (have h8 := hUp.out w8 _ hT8 o8); (have k8 := Lib.hid (kd7.out.trans (o8.kg hgs))); (have S1 := Lib.hid (HSH.out w8 _ rfl h8 k8.out)))
        | fail)
    clear S0 S1 HSH hP hUp hT8 o8 kd7
    obtain ⟨so, hso⟩ : ∃ so, MS.put MS.new (sn : Nat) fd = so := ⟨_, rfl⟩
    rw [hso] at h8
    have hsoH := Lib.hid hso
    clear hso
    have h8 := Lib.hid (show RA false (Gp G w wc) w8 g ({ m.anew 3 with rd := f_r, sl := sn, ty := ty, tm := m.tm + h.o, so := so } : NM) x5 from h8)
    have hst : Hid (RA false (Gp G w wc) w8 g ({ m.anew 3 with rd := f_r, sl := sn, ty := ty, tm := m.tm + h.o, so := gk so ty.m 0 } : NM) x5) := Lib.hid (h8.out.upS (h8.out.so.alike (s' := gk so ty.m 0) (fun _ _ => rfl) (fun _ _ => rfl) (fun i _ => rfl)) (Only.refl _ _))
    clear h8
    go_wp2_with fail
    go_loopw [6] (fun i wr => ∃ k : Nat, k ≤ 8 ∧ i = .int .i64 k ∧ RA false (Gp G w wc) wr g ({ m.anew 3 with rd := f_r, sl := sn, ty := ty, tm := m.tm + h.o, so := gk so ty.m k } : NM) x5 ∧ KG (Gp G w wc) wc wr) (fun i _ => 8 - (intOf i).toNat)
    case atStart => exact ⟨0, by omega, rfl, hst.out, k8.out⟩
    case round =>
      clear hst k8
      obtain ⟨k, hk8, rfl, h9, k9⟩ := hrel
      by_cases hlt : k < 8
      · have r1 : decide ((k : Int) < 8) = true := decide_eq_true (by omega)
        have hd9 := h9.drew
        have kd9 := Lib.hid k9
        have HS : ∀ W (m' : NM), RA false (Gp G w wc) W g m' x5 → (W.cell? ⟨g, 13, none⟩ = some (.pointer (some ⟨x5.s, 0, none⟩)) ∧ W.cell? ⟨g, 9, none⟩ = some (.pointer (some ⟨x5.m, 0, none⟩))) := fun W m' h => ⟨h.c13, h.c9⟩
        have S0 := Lib.hid (HS _ _ hd9)
        have hI := Lib.hid (is_rt x5.m ty (k : Nat) wr.drew hd9.ty)
        have hM := Lib.hid (fun n => member_rs (Gp G w wc) (x5.own g) x5.s (gk so ty.m k) (k : Nat) (isB ty.m (k : Nat)) (wr.drewN n) (h9.drewN n).so (by simp [RX.own]))
        have hUp := Lib.hid (fun n w8 so (hT : SRt (Gp G w wc) (x5.own g) w8 x5.s so) (o : Only x5.s (wr.drewN n) w8) => (h9.drewN n).upS hT o)
        have S1 := Lib.hid (fun n => HS _ _ (h9.drewN n))
        have HSH := Lib.hid HS
        clear h9 k9 hd9 HS
        go_wp2_with fail
        go_region_held3 (fun W => W.cell? ⟨g, 13, none⟩ = some (.pointer (some ⟨x5.s, 0, none⟩)) ∧ W.cell? ⟨g, 9, none⟩ = some (.pointer (some ⟨x5.m, 0, none⟩))) ((first | exact S0.out | exact S1.out _ | exact S2.out))
          (first
            | (go_at_call 92; refine hI.out.mono ?_; rintro _ _ ⟨rfl, n, rfl⟩)
            | (go_at_call 91; refine (hM.out (1 + n)).mono ?_; rintro _ w8 ⟨rfl, hT8, o8⟩; (have h8 := hUp.out (1 + n) w8 _ (SRt.alike hT8 (s' := gk so ty.m (k + 1)) (fun i _ => by simp [MS.member]; split <;> rfl) (fun i _ => by simp [MS.member]; split <;> rfl) (fun i _ => gk_step so ty.m k hlt i)) o8); (have k10 := Lib.hid ((kd9.out.trans (kg_below (below_drewN (Below.refl _ wr) (1 + n)))).trans (o8.kg hgs))); (have S2 := Lib.hid (HSH.out w8 _ h8)))
            | fail)
        have h8 := Lib.hid h8
        clear S0 S1 S2 HSH hI hM hUp hT8 o8 kd9
        go_wp2
        go_roundw
        case rel => exact ⟨k + 1, by omega, by go_num, h8.out, k10.out⟩
        case measure => simp [intOf]; omega
      · obtain rfl : k = 8 := by omega
        have e : ({ m.anew 3 with rd := f_r, sl := sn, ty := ty, tm := m.tm + h.o, so := gk so ty.m 8 } : NM) = m.knows ⟨fk, ⟨f_r, (sn : Nat), f_m⟩, fd⟩ h.o := by
          rw [← hty.out, ← hsoH.out]
          rfl
        rw [e] at h9
        obtain ⟨-, -, -, hG9⟩ := hK.out wr k9
        have hO := Lib.hid (on_c false (Gp G w wc) g _ x5 wr h9 hG9 hN.out)
        unfold OnC at hO
        have k9 := Lib.hid k9
        clear h9 e hK
        go_wp2_with fail
        refine hO.out.mono ?_
        rintro _ w9 ⟨rfl, h10, k10⟩
        have hfin := Lib.hid (h10.up)
        have kfin := Lib.hid (kc.out.trans ((k9.out.trans k10).up))
        clear hO h10 k10 k9
        go_wp2
        exact bodyPost_end (results_none (by rfl) _ _ _) rfl ⟨rfl, hfin.out, kfin.out⟩
end Go.Proofs.YtpdenmcacaajkaaGreat
