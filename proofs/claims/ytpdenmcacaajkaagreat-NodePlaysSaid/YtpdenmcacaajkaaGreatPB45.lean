/- Texts RaW in one. For what each says in front of its theorems. -/
import Derived.Deep.CutRange
import Derived.StillTailTactics
import Derived.Test.YtpdenmcacaajkaaGreatPB44
/-! ### RaW -/
namespace Go.Proofs.YtpdenmcacaajkaaGreat
open Go.RowKit
open Fr (St F)
set_option maxRecDepth 100000 in
set_option maxHeartbeats 8000000 in
theorem tke_miss (b : Bool) (G : Nat → Prop) (g : Nat) (m : NM) (x : RX) (h : Hn) (vx vy : Value) (w : World) (hm : RA b G w g m x) (hG : GN G w) (hh : HOk w h vx vy) (hst : m.st = 2 ∨ m.st = 3 ∨ m.st = 4) (hs : m.sl ≠ m.i) (hsl : m.sl < m.t.ns.length ∧ m.t.ns.length ≤ 8) (_hta : m.ty.a < 1000 ∧ m.ty.f < 1000) (hn : m.rightL h = none) (hq : h.a = 0 ∧ h.b = 0) (hN : NG (m.took (m.ty.miss (m.sl : Nat)) m.so m.ck)) : Tke G g ((m.took (m.ty.miss (m.sl : Nat)) m.so m.ck) : NM).goOn h vx vy w := by
  unfold Tke
  have hb0 := (Below.refl w.heap.size w).alloc (Nat.le_refl _) (.cells #[.int .i64 h.a, .int .i64 h.b, vx, vy, .int .i64 h.o] 39)
  have hX0 := Blk.new w w.heap.size rfl #[.int .i64 h.a, .int .i64 h.b, vx, vy, .int .i64 h.o] 39
  have hm0 := hm.below hb0
  have HT := fun a v W => Lib.hid (tells_row a v W)
  have HF := fun W (hW : Below w.heap.size w W) => Lib.hid (right_none b G g m x h vx vy (by omega) W (hh.below hW) (hm.below hW) hn)
  obtain ⟨ux, hux⟩ : ∃ ux, rowV h.a vx = ux := ⟨_, rfl⟩
  obtain ⟨uy, huy⟩ : ∃ uy, rowV h.b vy = uy := ⟨_, rfl⟩
  have HTx : ∀ W, Hid (Calls Tryz.prog 86 #[.int .i64 h.a, vx] W fun e w' => e = .returned ux ∧ w' = W) := fun W => hux ▸ HT h.a vx W
  have HTy : ∀ W, Hid (Calls Tryz.prog 86 #[.int .i64 h.b, vy] W fun e w' => e = .returned uy ∧ w' = W) := fun W => huy ▸ HT h.b vy W
  rw [hux, huy] at HF
  clear hux huy HT
  obtain ⟨Ax, cx, rfl, -⟩ := hh.x.at_
  obtain ⟨Ay, cy, rfl, -⟩ := hh.y.at_
  have hk := Lib.hid (fun W (hW : Below w.heap.size w W) => hm.past hW)
  have hqH := Lib.hid hq
  clear hq
  have c6 := hm0.c6
  have c8 := hm0.c8
  have c4 := hm0.c4
  have q : (((m.sl : Nat) : Int) == ((m.i : Nat) : Int)) = false := by rw [beq_eq_false_iff_ne]; omega
  have ho := hh.o
  have hN := Lib.hid hN
  have hsl8 : m.sl < 8 := by omega
  clear hh hn hs
  obtain ⟨zi, hzi⟩ : ∃ z : Int, ((m.i : Nat) : Int) = z := ⟨_, rfl⟩
  rw [hzi] at c4 q
  clear hzi
  unfold hdV
  obtain ⟨zs, hzs⟩ : ∃ z : Int, ((m.st : Nat) : Int) = z := ⟨_, rfl⟩
  rw [hzs] at c6
  have z0 : (zs == 0) = false := by rw [beq_eq_false_iff_ne]; omega
  have z5 : (zs == 5) = false := by rw [beq_eq_false_iff_ne]; omega
  have z1 : (zs == 1) = false := by rw [beq_eq_false_iff_ne]; omega
  clear hzs hst
  go_enter Tryz.func37, Tryz.ntmps37
  go_wp2_with fail
  clear hm hm0 c6 c8 c4
  generalize w.alloc (.cells #[.int .i64 h.a, .int .i64 h.b, .slice Ax h.x.length cx, .slice Ay h.y.length cy, .int .i64 h.o] 39) = w0 at *
  have b0 := hb0
  have HS : ∀ W, Below w0.heap.size w0 W → (W.cell? ⟨w.heap.size, 0, none⟩ = some (.int .i64 h.a) ∧ W.cell? ⟨w.heap.size, 1, none⟩ = some (.int .i64 h.b) ∧ W.cell? ⟨w.heap.size, 2, none⟩ = some (.slice Ax h.x.length cx) ∧ W.cell? ⟨w.heap.size, 3, none⟩ = some (.slice Ay h.y.length cy)) := fun W hW => by
    have h' := hX0.below hW hX0.lt
    exact ⟨h'.cell 0 rfl, h'.cell 1 rfl, h'.cell 2 rfl, h'.cell 3 rfl⟩
  have br := (Below.refl w0.heap.size w0).drew
  have S0 := Lib.hid (HS _ br)
  have HH := Lib.hid HS
  clear HS
  go_cut [6] from 50 to 64 (fun s6 wx => s6 = .bool false ∧ Below w0.heap.size w0 wx)
  case first =>
    refine wp_region_held_drew (S := fun W => W.cell? ⟨w.heap.size, 0, none⟩ = some (.int .i64 h.a) ∧ W.cell? ⟨w.heap.size, 1, none⟩ = some (.int .i64 h.b) ∧ W.cell? ⟨w.heap.size, 2, none⟩ = some (.slice Ax h.x.length cx) ∧ W.cell? ⟨w.heap.size, 3, none⟩ = some (.slice Ay h.y.length cy)) (by kernel_rfl) S0.out (fun hHeld => ?_)
    refine wTk 0 51 ?_ rfl (fun _ _ _ h => h) (by rfl) ?_ ?_
    rotate_left 1
    · (intro wz hSw; go_simp; try with_reducible rfl)
    try simp only [Act.put, qZa, qZb, qZc]
    refine wTk 1 52 ?_ rfl (fun _ _ _ h => h) (by rfl) ?_ ?_
    rotate_left 1
    · (intro wz hSw; go_simp; try with_reducible rfl)
    try simp only [Act.put, qZa, qZb, qZc]
    refine wTk 2 53 ?_ rfl (fun _ _ _ h => h) (by rfl) ?_ ?_
    rotate_left 1
    · (intro wz hSw; go_simp; try with_reducible rfl)
    try simp only [Act.put, qZa, qZb, qZc]
    refine wTk 3 54 ?_ rfl (fun _ _ _ h => h) (by rfl) ?_ ?_
    rotate_left 1
    · (intro wz hSw; go_simp; try with_reducible rfl)
    try simp only [Act.put, qZa, qZb, qZc]
    refine wTk 4 55 ?_ rfl (fun _ _ _ h => h) (by rfl) ?_ ?_
    rotate_left 1
    · (intro wz hSw; go_simp; try with_reducible rfl)
    try simp only [Act.put, qZa, qZb, qZc]
    refine wTk 6 57 ?_ rfl (fun _ _ _ h => h) (by rfl) ?_ ?_
    rotate_left 1
    · (intro wz hSw; go_simp; try with_reducible rfl)
    try simp only [Act.put, qZa, qZb, qZc]
    refine wTk 7 58 ?_ rfl (fun _ _ _ h => h) (by rfl) ?_ ?_
    rotate_left 1
    · (intro wz hSw; go_simp; try with_reducible rfl)
    try simp only [Act.put, qZa, qZb, qZc]
    refine wTk 8 59 ?_ rfl (fun _ _ _ h => h) (by rfl) ?_ ?_
    rotate_left 1
    · (intro wz hSw; go_simp; try with_reducible rfl)
    try simp only [Act.put, qZa, qZb, qZc]
    refine wTk 9 60 ?_ rfl (fun _ _ _ h => h) (by rfl) ?_ ?_
    rotate_left 1
    · (intro wz hSw; go_simp; try with_reducible rfl)
    try simp only [Act.put, qZa, qZb, qZc]
    refine wpAnyH_ready (rs := [5,15]) (by kernel_rfl) (by simp) ?_
    refine (AllReadyH.cons rfl (fun K hK => ?_) (AllReadyH.cons rfl (fun K hK => ?_) AllReadyH.nil))
    · skip
      go_simp
      refine (HTx _).out.mono ?_
      rintro _ _ ⟨rfl, rfl⟩
      refine hK.out _ _ (HH.out _ br) (fun hHeld => ?_)
      clear hK K
      try simp only [Act.put, qZa, qZb, qZc]
      refine wpAnyH_ready (rs := [10,15]) (by kernel_rfl) (by simp) ?_
      refine (AllReadyH.cons rfl (fun K hK => ?_) (AllReadyH.cons rfl (fun K hK => ?_) AllReadyH.nil))
      · skip
        go_simp
        refine (HTy _).out.mono ?_
        rintro _ _ ⟨rfl, rfl⟩
        refine hK.out _ _ (HH.out _ br) (fun hHeld => ?_)
        clear hK K
        try simp only [Act.put, qZa, qZb, qZc]
        refine wpAnyH_ready (rs := [11,15]) (by kernel_rfl) (by simp) ?_
        refine (AllReadyH.cons rfl (fun K hK => ?_) (AllReadyH.cons rfl (fun K hK => ?_) AllReadyH.nil))
        · skip
          go_simp
          refine (HF _ (b0.trans (br.mono b0.size))).out.mono ?_
          rintro _ w13 ⟨rfl, d13⟩
          have b13 := br.trans (d13.mono br.size)
          refine hK.out _ _ (HH.out _ b13) (fun hHeld => ?_)
          clear hK K
          try simp only [Act.put, qZa, qZb, qZc]
          refine wTk 12 50 ?_ rfl (fun _ _ _ h => h) (by rfl) ?_ ?_
          rotate_left 1
          · (intro wz hSw; go_simp; try with_reducible rfl)
          try simp only [Act.put, qZa, qZb, qZc]
          refine wTk 13 63 ?_ rfl (fun _ _ _ h => h) (by rfl) ?_ ?_
          rotate_left 1
          · (intro wz hSw; go_simp; try with_reducible rfl)
          try simp only [Act.put, qZa, qZb, qZc]
          refine wTk 14 64 ?_ rfl (fun _ _ _ h => h) (by rfl) ?_ ?_
          rotate_left 1
          · (intro wz hSw; go_simp; try with_reducible rfl)
          try simp only [Act.put, qZa, qZb, qZc]
          refine wpAnyH_ready (rs := [15]) (by kernel_rfl) (by simp) ?_
          refine (AllReadyH.cons rfl (fun K hK => ?_) AllReadyH.nil)
          go_simp
          have b14 := b13.alloc b13.size (.cells #[.int .i64 0, .int .i64 0, .int .i64 0, .int .i64 0, .slice none 0 0] 137)
          have X14 := Blk.new w13 (w13).heap.size rfl #[.int .i64 0, .int .i64 0, .int .i64 0, .int .i64 0, .slice none 0 0] 137
          refine hK.out _ _ (HH.out _ b14) (fun hHeld => ?_)
          clear hK K
          try simp only [Act.put, qZa, qZb, qZc]
          refine wpAnyH_ready (rs := [16]) (by kernel_rfl) (by simp) ?_
          refine (AllReadyH.cons rfl (fun K hK => ?_) AllReadyH.nil)
          have y0 := X14.cell 0 (x := .int .i64 0) rfl
          have z0 := X14.frozen 0
          have y1 := X14.cell 1 (x := .int .i64 0) rfl
          have z1 := X14.frozen 1
          have y2 := X14.cell 2 (x := .int .i64 0) rfl
          have z2 := X14.frozen 2
          have y3 := X14.cell 3 (x := .int .i64 0) rfl
          have z3 := X14.frozen 3
          have y4 := X14.cell 4 (x := .slice none 0 0) rfl
          have z4 := X14.frozen 4
          go_simp
          have XF := Blk.new w13 (w13).heap.size rfl #[.int .i64 0, .int .i64 0, .int .i64 0, .int .i64 0, .slice none 0 0] 137
          have bF := b13.alloc b13.size (.cells #[.int .i64 0, .int .i64 0, .int .i64 0, .int .i64 0, .slice none 0 0] 137)
          have le : w0.heap.size ≤ (w13).heap.size := b13.size
          refine hK.out _ _ (HH.out _ bF) (fun hHeld => ?_)
          clear y0 z0 y1 z1 y2 z2 y3 z3 y4 z4
          clear hK K
          try simp only [Act.put, qZa, qZb, qZc]
          refine wTk 17 6 ?_ rfl (fun _ _ _ h => h) (by rfl) ?_ ?_
          rotate_left 1
          · (intro wz hSw; go_simp; try with_reducible rfl)
          try simp only [Act.put, qZa, qZb, qZc]
          refine wpAnyH_done (by kernel_rfl) ?_ _
          go_wp2_with fail
          go_meet
          exact ⟨rfl, bF⟩
        · skip
          go_simp
          have b16 := br.alloc br.size (.cells #[.int .i64 0, .int .i64 0, .int .i64 0, .int .i64 0, .slice none 0 0] 137)
          have X16 := Blk.new w0.drew w0.heap.size rfl #[.int .i64 0, .int .i64 0, .int .i64 0, .int .i64 0, .slice none 0 0] 137
          refine hK.out _ _ (HH.out _ b16) (fun hHeld => ?_)
          clear hK K
          try simp only [Act.put, qZa, qZb, qZc]
          refine wpAnyH_ready (rs := [11]) (by kernel_rfl) (by simp) ?_
          refine (AllReadyH.cons rfl (fun K hK => ?_) AllReadyH.nil)
          go_simp
          refine (HF _ (b0.trans (b16.mono b0.size))).out.mono ?_
          rintro _ w17 ⟨rfl, d17⟩
          have b17 := b16.trans (d17.mono b16.size)
          have X16x := X16.below d17 X16.lt
          refine hK.out _ _ (HH.out _ b17) (fun hHeld => ?_)
          clear hK K
          try simp only [Act.put, qZa, qZb, qZc]
          refine wTk 12 50 ?_ rfl (fun _ _ _ h => h) (by rfl) ?_ ?_
          rotate_left 1
          · (intro wz hSw; go_simp; try with_reducible rfl)
          try simp only [Act.put, qZa, qZb, qZc]
          refine wTk 13 63 ?_ rfl (fun _ _ _ h => h) (by rfl) ?_ ?_
          rotate_left 1
          · (intro wz hSw; go_simp; try with_reducible rfl)
          try simp only [Act.put, qZa, qZb, qZc]
          refine wTk 14 64 ?_ rfl (fun _ _ _ h => h) (by rfl) ?_ ?_
          rotate_left 1
          · (intro wz hSw; go_simp; try with_reducible rfl)
          try simp only [Act.put, qZa, qZb, qZc]
          refine wpAnyH_ready (rs := [16]) (by kernel_rfl) (by simp) ?_
          refine (AllReadyH.cons rfl (fun K hK => ?_) AllReadyH.nil)
          have y0 := X16x.cell 0 (x := .int .i64 0) rfl
          have z0 := X16x.frozen 0
          have y1 := X16x.cell 1 (x := .int .i64 0) rfl
          have z1 := X16x.frozen 1
          have y2 := X16x.cell 2 (x := .int .i64 0) rfl
          have z2 := X16x.frozen 2
          have y3 := X16x.cell 3 (x := .int .i64 0) rfl
          have z3 := X16x.frozen 3
          have y4 := X16x.cell 4 (x := .slice none 0 0) rfl
          have z4 := X16x.frozen 4
          go_simp
          have le : w0.heap.size ≤ w0.heap.size := br.size
          have XF : Blk _ w0.heap.size #[.int .i64 0, .int .i64 0, .int .i64 0, .int .i64 0, .slice none 0 0] 137 := (((((X16x.set 0 (.int .i64 0)).set 1 (.int .i64 0)).set 2 (.int .i64 0)).set 3 (.int .i64 0)).set 4 (.slice none 0 0)).eq (by simp)
          have bF := (((((b17.setCell (p := ⟨w0.heap.size, 0, none⟩) le (.int .i64 0)).setCell (p := ⟨w0.heap.size, 1, none⟩) le (.int .i64 0)).setCell (p := ⟨w0.heap.size, 2, none⟩) le (.int .i64 0)).setCell (p := ⟨w0.heap.size, 3, none⟩) le (.int .i64 0)).setCell (p := ⟨w0.heap.size, 4, none⟩) le (.slice none 0 0))
          refine hK.out _ _ (HH.out _ bF) (fun hHeld => ?_)
          clear y0 z0 y1 z1 y2 z2 y3 z3 y4 z4
          clear hK K
          try simp only [Act.put, qZa, qZb, qZc]
          refine wTk 17 6 ?_ rfl (fun _ _ _ h => h) (by rfl) ?_ ?_
          rotate_left 1
          · (intro wz hSw; go_simp; try with_reducible rfl)
          try simp only [Act.put, qZa, qZb, qZc]
          refine wpAnyH_done (by kernel_rfl) ?_ _
          go_wp2_with fail
          go_meet
          exact ⟨rfl, bF⟩
      · skip
        go_simp
        have b19 := br.alloc br.size (.cells #[.int .i64 0, .int .i64 0, .int .i64 0, .int .i64 0, .slice none 0 0] 137)
        have X19 := Blk.new w0.drew w0.heap.size rfl #[.int .i64 0, .int .i64 0, .int .i64 0, .int .i64 0, .slice none 0 0] 137
        refine hK.out _ _ (HH.out _ b19) (fun hHeld => ?_)
        clear hK K
        try simp only [Act.put, qZa, qZb, qZc]
        refine wpAnyH_ready (rs := [10]) (by kernel_rfl) (by simp) ?_
        refine (AllReadyH.cons rfl (fun K hK => ?_) AllReadyH.nil)
        go_simp
        refine (HTy _).out.mono ?_
        rintro _ _ ⟨rfl, rfl⟩
        refine hK.out _ _ (HH.out _ b19) (fun hHeld => ?_)
        clear hK K
        try simp only [Act.put, qZa, qZb, qZc]
        refine wpAnyH_ready (rs := [11]) (by kernel_rfl) (by simp) ?_
        refine (AllReadyH.cons rfl (fun K hK => ?_) AllReadyH.nil)
        go_simp
        refine (HF _ (b0.trans (b19.mono b0.size))).out.mono ?_
        rintro _ w21 ⟨rfl, d21⟩
        have b21 := b19.trans (d21.mono b19.size)
        have X19x := X19.below d21 X19.lt
        refine hK.out _ _ (HH.out _ b21) (fun hHeld => ?_)
        clear hK K
        try simp only [Act.put, qZa, qZb, qZc]
        refine wTk 12 50 ?_ rfl (fun _ _ _ h => h) (by rfl) ?_ ?_
        rotate_left 1
        · (intro wz hSw; go_simp; try with_reducible rfl)
        try simp only [Act.put, qZa, qZb, qZc]
        refine wTk 13 63 ?_ rfl (fun _ _ _ h => h) (by rfl) ?_ ?_
        rotate_left 1
        · (intro wz hSw; go_simp; try with_reducible rfl)
        try simp only [Act.put, qZa, qZb, qZc]
        refine wTk 14 64 ?_ rfl (fun _ _ _ h => h) (by rfl) ?_ ?_
        rotate_left 1
        · (intro wz hSw; go_simp; try with_reducible rfl)
        try simp only [Act.put, qZa, qZb, qZc]
        refine wpAnyH_ready (rs := [16]) (by kernel_rfl) (by simp) ?_
        refine (AllReadyH.cons rfl (fun K hK => ?_) AllReadyH.nil)
        have y0 := X19x.cell 0 (x := .int .i64 0) rfl
        have z0 := X19x.frozen 0
        have y1 := X19x.cell 1 (x := .int .i64 0) rfl
        have z1 := X19x.frozen 1
        have y2 := X19x.cell 2 (x := .int .i64 0) rfl
        have z2 := X19x.frozen 2
        have y3 := X19x.cell 3 (x := .int .i64 0) rfl
        have z3 := X19x.frozen 3
        have y4 := X19x.cell 4 (x := .slice none 0 0) rfl
        have z4 := X19x.frozen 4
        go_simp
        have le : w0.heap.size ≤ w0.heap.size := br.size
        have XF : Blk _ w0.heap.size #[.int .i64 0, .int .i64 0, .int .i64 0, .int .i64 0, .slice none 0 0] 137 := (((((X19x.set 0 (.int .i64 0)).set 1 (.int .i64 0)).set 2 (.int .i64 0)).set 3 (.int .i64 0)).set 4 (.slice none 0 0)).eq (by simp)
        have bF := (((((b21.setCell (p := ⟨w0.heap.size, 0, none⟩) le (.int .i64 0)).setCell (p := ⟨w0.heap.size, 1, none⟩) le (.int .i64 0)).setCell (p := ⟨w0.heap.size, 2, none⟩) le (.int .i64 0)).setCell (p := ⟨w0.heap.size, 3, none⟩) le (.int .i64 0)).setCell (p := ⟨w0.heap.size, 4, none⟩) le (.slice none 0 0))
        refine hK.out _ _ (HH.out _ bF) (fun hHeld => ?_)
        clear y0 z0 y1 z1 y2 z2 y3 z3 y4 z4
        clear hK K
        try simp only [Act.put, qZa, qZb, qZc]
        refine wTk 17 6 ?_ rfl (fun _ _ _ h => h) (by rfl) ?_ ?_
        rotate_left 1
        · (intro wz hSw; go_simp; try with_reducible rfl)
        try simp only [Act.put, qZa, qZb, qZc]
        refine wpAnyH_done (by kernel_rfl) ?_ _
        go_wp2_with fail
        go_meet
        exact ⟨rfl, bF⟩
    · skip
      go_simp
      have b23 := br.alloc br.size (.cells #[.int .i64 0, .int .i64 0, .int .i64 0, .int .i64 0, .slice none 0 0] 137)
      have X23 := Blk.new w0.drew w0.heap.size rfl #[.int .i64 0, .int .i64 0, .int .i64 0, .int .i64 0, .slice none 0 0] 137
      refine hK.out _ _ (HH.out _ b23) (fun hHeld => ?_)
      clear hK K
      try simp only [Act.put, qZa, qZb, qZc]
      refine wpAnyH_ready (rs := [5]) (by kernel_rfl) (by simp) ?_
      refine (AllReadyH.cons rfl (fun K hK => ?_) AllReadyH.nil)
      go_simp
      refine (HTx _).out.mono ?_
      rintro _ _ ⟨rfl, rfl⟩
      refine hK.out _ _ (HH.out _ b23) (fun hHeld => ?_)
      clear hK K
      try simp only [Act.put, qZa, qZb, qZc]
      refine wpAnyH_ready (rs := [10]) (by kernel_rfl) (by simp) ?_
      refine (AllReadyH.cons rfl (fun K hK => ?_) AllReadyH.nil)
      go_simp
      refine (HTy _).out.mono ?_
      rintro _ _ ⟨rfl, rfl⟩
      refine hK.out _ _ (HH.out _ b23) (fun hHeld => ?_)
      clear hK K
      try simp only [Act.put, qZa, qZb, qZc]
      refine wpAnyH_ready (rs := [11]) (by kernel_rfl) (by simp) ?_
      refine (AllReadyH.cons rfl (fun K hK => ?_) AllReadyH.nil)
      go_simp
      refine (HF _ (b0.trans (b23.mono b0.size))).out.mono ?_
      rintro _ w26 ⟨rfl, d26⟩
      have b26 := b23.trans (d26.mono b23.size)
      have X23x := X23.below d26 X23.lt
      refine hK.out _ _ (HH.out _ b26) (fun hHeld => ?_)
      clear hK K
      try simp only [Act.put, qZa, qZb, qZc]
      refine wTk 12 50 ?_ rfl (fun _ _ _ h => h) (by rfl) ?_ ?_
      rotate_left 1
      · (intro wz hSw; go_simp; try with_reducible rfl)
      try simp only [Act.put, qZa, qZb, qZc]
      refine wTk 13 63 ?_ rfl (fun _ _ _ h => h) (by rfl) ?_ ?_
      rotate_left 1
      · (intro wz hSw; go_simp; try with_reducible rfl)
      try simp only [Act.put, qZa, qZb, qZc]
      refine wTk 14 64 ?_ rfl (fun _ _ _ h => h) (by rfl) ?_ ?_
      rotate_left 1
      · (intro wz hSw; go_simp; try with_reducible rfl)
      try simp only [Act.put, qZa, qZb, qZc]
      refine wpAnyH_ready (rs := [16]) (by kernel_rfl) (by simp) ?_
      refine (AllReadyH.cons rfl (fun K hK => ?_) AllReadyH.nil)
      have y0 := X23x.cell 0 (x := .int .i64 0) rfl
      have z0 := X23x.frozen 0
      have y1 := X23x.cell 1 (x := .int .i64 0) rfl
      have z1 := X23x.frozen 1
      have y2 := X23x.cell 2 (x := .int .i64 0) rfl
      have z2 := X23x.frozen 2
      have y3 := X23x.cell 3 (x := .int .i64 0) rfl
      have z3 := X23x.frozen 3
      have y4 := X23x.cell 4 (x := .slice none 0 0) rfl
      have z4 := X23x.frozen 4
      go_simp
      have le : w0.heap.size ≤ w0.heap.size := br.size
      have XF : Blk _ w0.heap.size #[.int .i64 0, .int .i64 0, .int .i64 0, .int .i64 0, .slice none 0 0] 137 := (((((X23x.set 0 (.int .i64 0)).set 1 (.int .i64 0)).set 2 (.int .i64 0)).set 3 (.int .i64 0)).set 4 (.slice none 0 0)).eq (by simp)
      have bF := (((((b26.setCell (p := ⟨w0.heap.size, 0, none⟩) le (.int .i64 0)).setCell (p := ⟨w0.heap.size, 1, none⟩) le (.int .i64 0)).setCell (p := ⟨w0.heap.size, 2, none⟩) le (.int .i64 0)).setCell (p := ⟨w0.heap.size, 3, none⟩) le (.int .i64 0)).setCell (p := ⟨w0.heap.size, 4, none⟩) le (.slice none 0 0))
      refine hK.out _ _ (HH.out _ bF) (fun hHeld => ?_)
      clear y0 z0 y1 z1 y2 z2 y3 z3 y4 z4
      clear hK K
      try simp only [Act.put, qZa, qZb, qZc]
      refine wTk 17 6 ?_ rfl (fun _ _ _ h => h) (by rfl) ?_ ?_
      rotate_left 1
      · (intro wz hSw; go_simp; try with_reducible rfl)
      try simp only [Act.put, qZa, qZb, qZc]
      refine wpAnyH_done (by kernel_rfl) ?_ _
      go_wp2_with fail
      go_meet
      exact ⟨rfl, bF⟩
  case rest =>
    obtain ⟨rfl, bc⟩ := hcut
    have hXc := hX0.below bc hX0.lt
    have bw := b0.trans (bc.mono b0.size)
    have hmc := hk.out _ bw
    have kc := Lib.hid (kg_below (G := G) bw)
    have hGc := Gp.gn hG bw.size
    have hK : Hid (∀ W, KG (Gp G w wc) wc W → Blk W w.heap.size #[.int .i64 h.a, .int .i64 h.b, .slice Ax h.x.length cx, .slice Ay h.y.length cy, .int .i64 h.o] 39 ∧ GN (Gp G w wc) W) := Lib.hid fun W k => ⟨k.blk (Nat.le_refl _) hXc, hGc.up k.size⟩
    have hgm := hmc.gs x.m (by simp [RX.own])
    have c9 := hmc.c9
    have a0 := hXc.cell 0 (x := .int .i64 h.a) rfl
    have a1 := hXc.cell 1 (x := .int .i64 h.b) rfl
    have hW := Lib.hid (miss_rt x.m m.ty (m.sl : Nat) wc hmc.ty)
    have hmc := Lib.hid hmc
    clear S0 HH HTx HTy HF hXc hk hX0 bw hGc br
    rw [hqH.out.1] at a0
    rw [hqH.out.2] at a1
    go_wp2_with fail
    refine hW.out.mono ?_
    rintro _ w5 ⟨rfl, hT5, o5⟩
    have h5 := Lib.hid (hmc.out.upM hT5 o5)
    have k5 := Lib.hid (o5.kg (G := Gp G w wc) hgm)
    clear hW hmc hT5 o5 c9 a0 a1
    have hd9 := h5.out.drew
    have HS : ∀ W (m' : NM), RA b (Gp G w wc) W g m' x → (W.cell? ⟨g, 13, none⟩ = some (.pointer (some ⟨x.s, 0, none⟩)) ∧ W.cell? ⟨g, 9, none⟩ = some (.pointer (some ⟨x.m, 0, none⟩))) := fun W m' h => ⟨h.c13, h.c9⟩
    have S0 := Lib.hid (HS _ _ hd9)
    have hgs := hd9.gs x.s (by simp [RX.own])
    have hI := Lib.hid (is_rt x.m (m.ty.miss (m.sl : Nat)) (m.sl : Nat) w5.drew hd9.ty)
    have hM := Lib.hid (fun n => member_rs (Gp G w wc) (x.own g) x.s (m.so) (m.sl : Nat) (isB (m.ty.miss (m.sl : Nat)).m (m.sl : Nat)) (w5.drewN n) (h5.out.drewN n).so (by simp [RX.own]))
    have hUp := Lib.hid (fun n w8 so (hT : SRt (Gp G w wc) (x.own g) w8 x.s so) (o : Only x.s (w5.drewN n) w8) => (h5.out.drewN n).upS hT o)
    have S1 := Lib.hid (fun n => HS _ _ (h5.out.drewN n))
    have HSH := Lib.hid HS
    clear h5 hd9 HS
    go_wp2_with fail
    go_region_held3 (fun W => W.cell? ⟨g, 13, none⟩ = some (.pointer (some ⟨x.s, 0, none⟩)) ∧ W.cell? ⟨g, 9, none⟩ = some (.pointer (some ⟨x.m, 0, none⟩))) ((first | exact S0.out | exact S1.out _ | exact S2.out))
      (first
        | (go_at_call 92; refine hI.out.mono ?_; rintro _ _ ⟨rfl, n, rfl⟩)
        | (go_at_call 91; refine (hM.out (1 + n)).mono ?_; rintro _ w8 ⟨rfl, hT8, o8⟩; (have h8 := hUp.out (1 + n) w8 _ hT8 o8); (have k10 := Lib.hid ((k5.out.trans (kg_below (below_drewN (Below.refl _ w5) (1 + n)))).trans (o8.kg hgs))); (have S2 := Lib.hid (HSH.out w8 _ h8)))
        | fail)
    have h8 : RA b (Gp G w wc) w8 g (m.took (m.ty.miss (m.sl : Nat)) m.so m.ck : NM) x := h8
    obtain ⟨-, hG8⟩ := hK.out w8 k10.out
    have hO := Lib.hid (on_c b (Gp G w wc) g _ x w8 h8 hG8 hN.out)
    unfold OnC at hO
    clear S0 S1 S2 HSH hI hM hUp hT8 o8 k5 h8
    go_wp2_with fail
    refine hO.out.mono ?_
    rintro _ w9 ⟨rfl, h10, k11⟩
    have hfin := Lib.hid (h10.up)
    have kfin := Lib.hid (kc.out.trans ((k10.out.trans k11).up))
    clear hO h10 k11 k10
    go_wp2
    exact bodyPost_end (results_none (by rfl) _ _ _) rfl ⟨rfl, ⟨_, hfin.out⟩, kfin.out⟩
set_option maxRecDepth 100000 in
set_option maxHeartbeats 8000000 in
theorem tke_wrong (b : Bool) (G : Nat → Prop) (g : Nat) (m : NM) (x : RX) (h : Hn) (vx vy : Value) (w : World) (hm : RA b G w g m x) (hG : GN G w) (hh : HOk w h vx vy) (hst : m.st = 2 ∨ m.st = 3 ∨ m.st = 4) (hs : m.sl ≠ m.i) (hsl : m.sl < m.t.ns.length ∧ m.t.ns.length ≤ 8) (hta : m.ty.a < 1000 ∧ m.ty.f < 1000) (hn : m.rightL h = none) (hq : ¬ (h.a = 0 ∧ h.b = 0)) (hN : NG (m.took (m.ty.wrong (m.sl : Nat)) m.so m.ck)) : Tke G g ((m.took (m.ty.wrong (m.sl : Nat)) m.so m.ck) : NM).goOn h vx vy w := by
  unfold Tke
  have hb0 := (Below.refl w.heap.size w).alloc (Nat.le_refl _) (.cells #[.int .i64 h.a, .int .i64 h.b, vx, vy, .int .i64 h.o] 39)
  have hX0 := Blk.new w w.heap.size rfl #[.int .i64 h.a, .int .i64 h.b, vx, vy, .int .i64 h.o] 39
  have hm0 := hm.below hb0
  have HT := fun a v W => Lib.hid (tells_row a v W)
  have HF := fun W (hW : Below w.heap.size w W) => Lib.hid (right_none b G g m x h vx vy (by omega) W (hh.below hW) (hm.below hW) hn)
  obtain ⟨ux, hux⟩ : ∃ ux, rowV h.a vx = ux := ⟨_, rfl⟩
  obtain ⟨uy, huy⟩ : ∃ uy, rowV h.b vy = uy := ⟨_, rfl⟩
  have HTx : ∀ W, Hid (Calls Tryz.prog 86 #[.int .i64 h.a, vx] W fun e w' => e = .returned ux ∧ w' = W) := fun W => hux ▸ HT h.a vx W
  have HTy : ∀ W, Hid (Calls Tryz.prog 86 #[.int .i64 h.b, vy] W fun e w' => e = .returned uy ∧ w' = W) := fun W => huy ▸ HT h.b vy W
  rw [hux, huy] at HF
  clear hux huy HT
  obtain ⟨Ax, cx, rfl, -⟩ := hh.x.at_
  obtain ⟨Ay, cy, rfl, -⟩ := hh.y.at_
  have hk := Lib.hid (fun W (hW : Below w.heap.size w W) => hm.past hW)
  have hqH := Lib.hid hq
  clear hq
  have c6 := hm0.c6
  have c8 := hm0.c8
  have c4 := hm0.c4
  have q : (((m.sl : Nat) : Int) == ((m.i : Nat) : Int)) = false := by rw [beq_eq_false_iff_ne]; omega
  have ho := hh.o
  have hN := Lib.hid hN
  have hsl8 : m.sl < 8 := by omega
  clear hh hn hs
  obtain ⟨zi, hzi⟩ : ∃ z : Int, ((m.i : Nat) : Int) = z := ⟨_, rfl⟩
  rw [hzi] at c4 q
  clear hzi
  unfold hdV
  obtain ⟨zs, hzs⟩ : ∃ z : Int, ((m.st : Nat) : Int) = z := ⟨_, rfl⟩
  rw [hzs] at c6
  have z0 : (zs == 0) = false := by rw [beq_eq_false_iff_ne]; omega
  have z5 : (zs == 5) = false := by rw [beq_eq_false_iff_ne]; omega
  have z1 : (zs == 1) = false := by rw [beq_eq_false_iff_ne]; omega
  clear hzs hst
  go_enter Tryz.func37, Tryz.ntmps37
  go_wp2_with fail
  clear hm hm0 c6 c8 c4
  generalize w.alloc (.cells #[.int .i64 h.a, .int .i64 h.b, .slice Ax h.x.length cx, .slice Ay h.y.length cy, .int .i64 h.o] 39) = w0 at *
  have b0 := hb0
  have HS : ∀ W, Below w0.heap.size w0 W → (W.cell? ⟨w.heap.size, 0, none⟩ = some (.int .i64 h.a) ∧ W.cell? ⟨w.heap.size, 1, none⟩ = some (.int .i64 h.b) ∧ W.cell? ⟨w.heap.size, 2, none⟩ = some (.slice Ax h.x.length cx) ∧ W.cell? ⟨w.heap.size, 3, none⟩ = some (.slice Ay h.y.length cy)) := fun W hW => by
    have h' := hX0.below hW hX0.lt
    exact ⟨h'.cell 0 rfl, h'.cell 1 rfl, h'.cell 2 rfl, h'.cell 3 rfl⟩
  have br := (Below.refl w0.heap.size w0).drew
  have S0 := Lib.hid (HS _ br)
  have HH := Lib.hid HS
  clear HS
  go_cut [6] from 50 to 64 (fun s6 wx => s6 = .bool false ∧ Below w0.heap.size w0 wx)
  case first =>
    refine wp_region_held_drew (S := fun W => W.cell? ⟨w.heap.size, 0, none⟩ = some (.int .i64 h.a) ∧ W.cell? ⟨w.heap.size, 1, none⟩ = some (.int .i64 h.b) ∧ W.cell? ⟨w.heap.size, 2, none⟩ = some (.slice Ax h.x.length cx) ∧ W.cell? ⟨w.heap.size, 3, none⟩ = some (.slice Ay h.y.length cy)) (by kernel_rfl) S0.out (fun hHeld => ?_)
    refine wTk 0 51 ?_ rfl (fun _ _ _ h => h) (by rfl) ?_ ?_
    rotate_left 1
    · (intro wz hSw; go_simp; try with_reducible rfl)
    try simp only [Act.put, qZa, qZb, qZc]
    refine wTk 1 52 ?_ rfl (fun _ _ _ h => h) (by rfl) ?_ ?_
    rotate_left 1
    · (intro wz hSw; go_simp; try with_reducible rfl)
    try simp only [Act.put, qZa, qZb, qZc]
    refine wTk 2 53 ?_ rfl (fun _ _ _ h => h) (by rfl) ?_ ?_
    rotate_left 1
    · (intro wz hSw; go_simp; try with_reducible rfl)
    try simp only [Act.put, qZa, qZb, qZc]
    refine wTk 3 54 ?_ rfl (fun _ _ _ h => h) (by rfl) ?_ ?_
    rotate_left 1
    · (intro wz hSw; go_simp; try with_reducible rfl)
    try simp only [Act.put, qZa, qZb, qZc]
    refine wTk 4 55 ?_ rfl (fun _ _ _ h => h) (by rfl) ?_ ?_
    rotate_left 1
    · (intro wz hSw; go_simp; try with_reducible rfl)
    try simp only [Act.put, qZa, qZb, qZc]
    refine wTk 6 57 ?_ rfl (fun _ _ _ h => h) (by rfl) ?_ ?_
    rotate_left 1
    · (intro wz hSw; go_simp; try with_reducible rfl)
    try simp only [Act.put, qZa, qZb, qZc]
    refine wTk 7 58 ?_ rfl (fun _ _ _ h => h) (by rfl) ?_ ?_
    rotate_left 1
    · (intro wz hSw; go_simp; try with_reducible rfl)
    try simp only [Act.put, qZa, qZb, qZc]
    refine wTk 8 59 ?_ rfl (fun _ _ _ h => h) (by rfl) ?_ ?_
    rotate_left 1
    · (intro wz hSw; go_simp; try with_reducible rfl)
    try simp only [Act.put, qZa, qZb, qZc]
    refine wTk 9 60 ?_ rfl (fun _ _ _ h => h) (by rfl) ?_ ?_
    rotate_left 1
    · (intro wz hSw; go_simp; try with_reducible rfl)
    try simp only [Act.put, qZa, qZb, qZc]
    refine wpAnyH_ready (rs := [5,15]) (by kernel_rfl) (by simp) ?_
    refine (AllReadyH.cons rfl (fun K hK => ?_) (AllReadyH.cons rfl (fun K hK => ?_) AllReadyH.nil))
    · skip
      go_simp
      refine (HTx _).out.mono ?_
      rintro _ _ ⟨rfl, rfl⟩
      refine hK.out _ _ (HH.out _ br) (fun hHeld => ?_)
      clear hK K
      try simp only [Act.put, qZa, qZb, qZc]
      refine wpAnyH_ready (rs := [10,15]) (by kernel_rfl) (by simp) ?_
      refine (AllReadyH.cons rfl (fun K hK => ?_) (AllReadyH.cons rfl (fun K hK => ?_) AllReadyH.nil))
      · skip
        go_simp
        refine (HTy _).out.mono ?_
        rintro _ _ ⟨rfl, rfl⟩
        refine hK.out _ _ (HH.out _ br) (fun hHeld => ?_)
        clear hK K
        try simp only [Act.put, qZa, qZb, qZc]
        refine wpAnyH_ready (rs := [11,15]) (by kernel_rfl) (by simp) ?_
        refine (AllReadyH.cons rfl (fun K hK => ?_) (AllReadyH.cons rfl (fun K hK => ?_) AllReadyH.nil))
        · skip
          go_simp
          refine (HF _ (b0.trans (br.mono b0.size))).out.mono ?_
          rintro _ w13 ⟨rfl, d13⟩
          have b13 := br.trans (d13.mono br.size)
          refine hK.out _ _ (HH.out _ b13) (fun hHeld => ?_)
          clear hK K
          try simp only [Act.put, qZa, qZb, qZc]
          refine wTk 12 50 ?_ rfl (fun _ _ _ h => h) (by rfl) ?_ ?_
          rotate_left 1
          · (intro wz hSw; go_simp; try with_reducible rfl)
          try simp only [Act.put, qZa, qZb, qZc]
          refine wTk 13 63 ?_ rfl (fun _ _ _ h => h) (by rfl) ?_ ?_
          rotate_left 1
          · (intro wz hSw; go_simp; try with_reducible rfl)
          try simp only [Act.put, qZa, qZb, qZc]
          refine wTk 14 64 ?_ rfl (fun _ _ _ h => h) (by rfl) ?_ ?_
          rotate_left 1
          · (intro wz hSw; go_simp; try with_reducible rfl)
          try simp only [Act.put, qZa, qZb, qZc]
          refine wpAnyH_ready (rs := [15]) (by kernel_rfl) (by simp) ?_
          refine (AllReadyH.cons rfl (fun K hK => ?_) AllReadyH.nil)
          go_simp
          have b14 := b13.alloc b13.size (.cells #[.int .i64 0, .int .i64 0, .int .i64 0, .int .i64 0, .slice none 0 0] 137)
          have X14 := Blk.new w13 (w13).heap.size rfl #[.int .i64 0, .int .i64 0, .int .i64 0, .int .i64 0, .slice none 0 0] 137
          refine hK.out _ _ (HH.out _ b14) (fun hHeld => ?_)
          clear hK K
          try simp only [Act.put, qZa, qZb, qZc]
          refine wpAnyH_ready (rs := [16]) (by kernel_rfl) (by simp) ?_
          refine (AllReadyH.cons rfl (fun K hK => ?_) AllReadyH.nil)
          have y0 := X14.cell 0 (x := .int .i64 0) rfl
          have z0 := X14.frozen 0
          have y1 := X14.cell 1 (x := .int .i64 0) rfl
          have z1 := X14.frozen 1
          have y2 := X14.cell 2 (x := .int .i64 0) rfl
          have z2 := X14.frozen 2
          have y3 := X14.cell 3 (x := .int .i64 0) rfl
          have z3 := X14.frozen 3
          have y4 := X14.cell 4 (x := .slice none 0 0) rfl
          have z4 := X14.frozen 4
          go_simp
          have XF := Blk.new w13 (w13).heap.size rfl #[.int .i64 0, .int .i64 0, .int .i64 0, .int .i64 0, .slice none 0 0] 137
          have bF := b13.alloc b13.size (.cells #[.int .i64 0, .int .i64 0, .int .i64 0, .int .i64 0, .slice none 0 0] 137)
          have le : w0.heap.size ≤ (w13).heap.size := b13.size
          refine hK.out _ _ (HH.out _ bF) (fun hHeld => ?_)
          clear y0 z0 y1 z1 y2 z2 y3 z3 y4 z4
          clear hK K
          try simp only [Act.put, qZa, qZb, qZc]
          refine wTk 17 6 ?_ rfl (fun _ _ _ h => h) (by rfl) ?_ ?_
          rotate_left 1
          · (intro wz hSw; go_simp; try with_reducible rfl)
          try simp only [Act.put, qZa, qZb, qZc]
          refine wpAnyH_done (by kernel_rfl) ?_ _
          go_wp2_with fail
          go_meet
          exact ⟨rfl, bF⟩
        · skip
          go_simp
          have b16 := br.alloc br.size (.cells #[.int .i64 0, .int .i64 0, .int .i64 0, .int .i64 0, .slice none 0 0] 137)
          have X16 := Blk.new w0.drew w0.heap.size rfl #[.int .i64 0, .int .i64 0, .int .i64 0, .int .i64 0, .slice none 0 0] 137
          refine hK.out _ _ (HH.out _ b16) (fun hHeld => ?_)
          clear hK K
          try simp only [Act.put, qZa, qZb, qZc]
          refine wpAnyH_ready (rs := [11]) (by kernel_rfl) (by simp) ?_
          refine (AllReadyH.cons rfl (fun K hK => ?_) AllReadyH.nil)
          go_simp
          refine (HF _ (b0.trans (b16.mono b0.size))).out.mono ?_
          rintro _ w17 ⟨rfl, d17⟩
          have b17 := b16.trans (d17.mono b16.size)
          have X16x := X16.below d17 X16.lt
          refine hK.out _ _ (HH.out _ b17) (fun hHeld => ?_)
          clear hK K
          try simp only [Act.put, qZa, qZb, qZc]
          refine wTk 12 50 ?_ rfl (fun _ _ _ h => h) (by rfl) ?_ ?_
          rotate_left 1
          · (intro wz hSw; go_simp; try with_reducible rfl)
          try simp only [Act.put, qZa, qZb, qZc]
          refine wTk 13 63 ?_ rfl (fun _ _ _ h => h) (by rfl) ?_ ?_
          rotate_left 1
          · (intro wz hSw; go_simp; try with_reducible rfl)
          try simp only [Act.put, qZa, qZb, qZc]
          refine wTk 14 64 ?_ rfl (fun _ _ _ h => h) (by rfl) ?_ ?_
          rotate_left 1
          · (intro wz hSw; go_simp; try with_reducible rfl)
          try simp only [Act.put, qZa, qZb, qZc]
          refine wpAnyH_ready (rs := [16]) (by kernel_rfl) (by simp) ?_
          refine (AllReadyH.cons rfl (fun K hK => ?_) AllReadyH.nil)
          have y0 := X16x.cell 0 (x := .int .i64 0) rfl
          have z0 := X16x.frozen 0
          have y1 := X16x.cell 1 (x := .int .i64 0) rfl
          have z1 := X16x.frozen 1
          have y2 := X16x.cell 2 (x := .int .i64 0) rfl
          have z2 := X16x.frozen 2
          have y3 := X16x.cell 3 (x := .int .i64 0) rfl
          have z3 := X16x.frozen 3
          have y4 := X16x.cell 4 (x := .slice none 0 0) rfl
          have z4 := X16x.frozen 4
          go_simp
          have le : w0.heap.size ≤ w0.heap.size := br.size
          have XF : Blk _ w0.heap.size #[.int .i64 0, .int .i64 0, .int .i64 0, .int .i64 0, .slice none 0 0] 137 := (((((X16x.set 0 (.int .i64 0)).set 1 (.int .i64 0)).set 2 (.int .i64 0)).set 3 (.int .i64 0)).set 4 (.slice none 0 0)).eq (by simp)
          have bF := (((((b17.setCell (p := ⟨w0.heap.size, 0, none⟩) le (.int .i64 0)).setCell (p := ⟨w0.heap.size, 1, none⟩) le (.int .i64 0)).setCell (p := ⟨w0.heap.size, 2, none⟩) le (.int .i64 0)).setCell (p := ⟨w0.heap.size, 3, none⟩) le (.int .i64 0)).setCell (p := ⟨w0.heap.size, 4, none⟩) le (.slice none 0 0))
          refine hK.out _ _ (HH.out _ bF) (fun hHeld => ?_)
          clear y0 z0 y1 z1 y2 z2 y3 z3 y4 z4
          clear hK K
          try simp only [Act.put, qZa, qZb, qZc]
          refine wTk 17 6 ?_ rfl (fun _ _ _ h => h) (by rfl) ?_ ?_
          rotate_left 1
          · (intro wz hSw; go_simp; try with_reducible rfl)
          try simp only [Act.put, qZa, qZb, qZc]
          refine wpAnyH_done (by kernel_rfl) ?_ _
          go_wp2_with fail
          go_meet
          exact ⟨rfl, bF⟩
      · skip
        go_simp
        have b19 := br.alloc br.size (.cells #[.int .i64 0, .int .i64 0, .int .i64 0, .int .i64 0, .slice none 0 0] 137)
        have X19 := Blk.new w0.drew w0.heap.size rfl #[.int .i64 0, .int .i64 0, .int .i64 0, .int .i64 0, .slice none 0 0] 137
        refine hK.out _ _ (HH.out _ b19) (fun hHeld => ?_)
        clear hK K
        try simp only [Act.put, qZa, qZb, qZc]
        refine wpAnyH_ready (rs := [10]) (by kernel_rfl) (by simp) ?_
        refine (AllReadyH.cons rfl (fun K hK => ?_) AllReadyH.nil)
        go_simp
        refine (HTy _).out.mono ?_
        rintro _ _ ⟨rfl, rfl⟩
        refine hK.out _ _ (HH.out _ b19) (fun hHeld => ?_)
        clear hK K
        try simp only [Act.put, qZa, qZb, qZc]
        refine wpAnyH_ready (rs := [11]) (by kernel_rfl) (by simp) ?_
        refine (AllReadyH.cons rfl (fun K hK => ?_) AllReadyH.nil)
        go_simp
        refine (HF _ (b0.trans (b19.mono b0.size))).out.mono ?_
        rintro _ w21 ⟨rfl, d21⟩
        have b21 := b19.trans (d21.mono b19.size)
        have X19x := X19.below d21 X19.lt
        refine hK.out _ _ (HH.out _ b21) (fun hHeld => ?_)
        clear hK K
        try simp only [Act.put, qZa, qZb, qZc]
        refine wTk 12 50 ?_ rfl (fun _ _ _ h => h) (by rfl) ?_ ?_
        rotate_left 1
        · (intro wz hSw; go_simp; try with_reducible rfl)
        try simp only [Act.put, qZa, qZb, qZc]
        refine wTk 13 63 ?_ rfl (fun _ _ _ h => h) (by rfl) ?_ ?_
        rotate_left 1
        · (intro wz hSw; go_simp; try with_reducible rfl)
        try simp only [Act.put, qZa, qZb, qZc]
        refine wTk 14 64 ?_ rfl (fun _ _ _ h => h) (by rfl) ?_ ?_
        rotate_left 1
        · (intro wz hSw; go_simp; try with_reducible rfl)
        try simp only [Act.put, qZa, qZb, qZc]
        refine wpAnyH_ready (rs := [16]) (by kernel_rfl) (by simp) ?_
        refine (AllReadyH.cons rfl (fun K hK => ?_) AllReadyH.nil)
        have y0 := X19x.cell 0 (x := .int .i64 0) rfl
        have z0 := X19x.frozen 0
        have y1 := X19x.cell 1 (x := .int .i64 0) rfl
        have z1 := X19x.frozen 1
        have y2 := X19x.cell 2 (x := .int .i64 0) rfl
        have z2 := X19x.frozen 2
        have y3 := X19x.cell 3 (x := .int .i64 0) rfl
        have z3 := X19x.frozen 3
        have y4 := X19x.cell 4 (x := .slice none 0 0) rfl
        have z4 := X19x.frozen 4
        go_simp
        have le : w0.heap.size ≤ w0.heap.size := br.size
        have XF : Blk _ w0.heap.size #[.int .i64 0, .int .i64 0, .int .i64 0, .int .i64 0, .slice none 0 0] 137 := (((((X19x.set 0 (.int .i64 0)).set 1 (.int .i64 0)).set 2 (.int .i64 0)).set 3 (.int .i64 0)).set 4 (.slice none 0 0)).eq (by simp)
        have bF := (((((b21.setCell (p := ⟨w0.heap.size, 0, none⟩) le (.int .i64 0)).setCell (p := ⟨w0.heap.size, 1, none⟩) le (.int .i64 0)).setCell (p := ⟨w0.heap.size, 2, none⟩) le (.int .i64 0)).setCell (p := ⟨w0.heap.size, 3, none⟩) le (.int .i64 0)).setCell (p := ⟨w0.heap.size, 4, none⟩) le (.slice none 0 0))
        refine hK.out _ _ (HH.out _ bF) (fun hHeld => ?_)
        clear y0 z0 y1 z1 y2 z2 y3 z3 y4 z4
        clear hK K
        try simp only [Act.put, qZa, qZb, qZc]
        refine wTk 17 6 ?_ rfl (fun _ _ _ h => h) (by rfl) ?_ ?_
        rotate_left 1
        · (intro wz hSw; go_simp; try with_reducible rfl)
        try simp only [Act.put, qZa, qZb, qZc]
        refine wpAnyH_done (by kernel_rfl) ?_ _
        go_wp2_with fail
        go_meet
        exact ⟨rfl, bF⟩
    · skip
      go_simp
      have b23 := br.alloc br.size (.cells #[.int .i64 0, .int .i64 0, .int .i64 0, .int .i64 0, .slice none 0 0] 137)
      have X23 := Blk.new w0.drew w0.heap.size rfl #[.int .i64 0, .int .i64 0, .int .i64 0, .int .i64 0, .slice none 0 0] 137
      refine hK.out _ _ (HH.out _ b23) (fun hHeld => ?_)
      clear hK K
      try simp only [Act.put, qZa, qZb, qZc]
      refine wpAnyH_ready (rs := [5]) (by kernel_rfl) (by simp) ?_
      refine (AllReadyH.cons rfl (fun K hK => ?_) AllReadyH.nil)
      go_simp
      refine (HTx _).out.mono ?_
      rintro _ _ ⟨rfl, rfl⟩
      refine hK.out _ _ (HH.out _ b23) (fun hHeld => ?_)
      clear hK K
      try simp only [Act.put, qZa, qZb, qZc]
      refine wpAnyH_ready (rs := [10]) (by kernel_rfl) (by simp) ?_
      refine (AllReadyH.cons rfl (fun K hK => ?_) AllReadyH.nil)
      go_simp
      refine (HTy _).out.mono ?_
      rintro _ _ ⟨rfl, rfl⟩
      refine hK.out _ _ (HH.out _ b23) (fun hHeld => ?_)
      clear hK K
      try simp only [Act.put, qZa, qZb, qZc]
      refine wpAnyH_ready (rs := [11]) (by kernel_rfl) (by simp) ?_
      refine (AllReadyH.cons rfl (fun K hK => ?_) AllReadyH.nil)
      go_simp
      refine (HF _ (b0.trans (b23.mono b0.size))).out.mono ?_
      rintro _ w26 ⟨rfl, d26⟩
      have b26 := b23.trans (d26.mono b23.size)
      have X23x := X23.below d26 X23.lt
      refine hK.out _ _ (HH.out _ b26) (fun hHeld => ?_)
      clear hK K
      try simp only [Act.put, qZa, qZb, qZc]
      refine wTk 12 50 ?_ rfl (fun _ _ _ h => h) (by rfl) ?_ ?_
      rotate_left 1
      · (intro wz hSw; go_simp; try with_reducible rfl)
      try simp only [Act.put, qZa, qZb, qZc]
      refine wTk 13 63 ?_ rfl (fun _ _ _ h => h) (by rfl) ?_ ?_
      rotate_left 1
      · (intro wz hSw; go_simp; try with_reducible rfl)
      try simp only [Act.put, qZa, qZb, qZc]
      refine wTk 14 64 ?_ rfl (fun _ _ _ h => h) (by rfl) ?_ ?_
      rotate_left 1
      · (intro wz hSw; go_simp; try with_reducible rfl)
      try simp only [Act.put, qZa, qZb, qZc]
      refine wpAnyH_ready (rs := [16]) (by kernel_rfl) (by simp) ?_
      refine (AllReadyH.cons rfl (fun K hK => ?_) AllReadyH.nil)
      have y0 := X23x.cell 0 (x := .int .i64 0) rfl
      have z0 := X23x.frozen 0
      have y1 := X23x.cell 1 (x := .int .i64 0) rfl
      have z1 := X23x.frozen 1
      have y2 := X23x.cell 2 (x := .int .i64 0) rfl
      have z2 := X23x.frozen 2
      have y3 := X23x.cell 3 (x := .int .i64 0) rfl
      have z3 := X23x.frozen 3
      have y4 := X23x.cell 4 (x := .slice none 0 0) rfl
      have z4 := X23x.frozen 4
      go_simp
      have le : w0.heap.size ≤ w0.heap.size := br.size
      have XF : Blk _ w0.heap.size #[.int .i64 0, .int .i64 0, .int .i64 0, .int .i64 0, .slice none 0 0] 137 := (((((X23x.set 0 (.int .i64 0)).set 1 (.int .i64 0)).set 2 (.int .i64 0)).set 3 (.int .i64 0)).set 4 (.slice none 0 0)).eq (by simp)
      have bF := (((((b26.setCell (p := ⟨w0.heap.size, 0, none⟩) le (.int .i64 0)).setCell (p := ⟨w0.heap.size, 1, none⟩) le (.int .i64 0)).setCell (p := ⟨w0.heap.size, 2, none⟩) le (.int .i64 0)).setCell (p := ⟨w0.heap.size, 3, none⟩) le (.int .i64 0)).setCell (p := ⟨w0.heap.size, 4, none⟩) le (.slice none 0 0))
      refine hK.out _ _ (HH.out _ bF) (fun hHeld => ?_)
      clear y0 z0 y1 z1 y2 z2 y3 z3 y4 z4
      clear hK K
      try simp only [Act.put, qZa, qZb, qZc]
      refine wTk 17 6 ?_ rfl (fun _ _ _ h => h) (by rfl) ?_ ?_
      rotate_left 1
      · (intro wz hSw; go_simp; try with_reducible rfl)
      try simp only [Act.put, qZa, qZb, qZc]
      refine wpAnyH_done (by kernel_rfl) ?_ _
      go_wp2_with fail
      go_meet
      exact ⟨rfl, bF⟩
  case rest =>
    obtain ⟨rfl, bc⟩ := hcut
    have hXc := hX0.below bc hX0.lt
    have bw := b0.trans (bc.mono b0.size)
    have hmc := hk.out _ bw
    have kc := Lib.hid (kg_below (G := G) bw)
    have hGc := Gp.gn hG bw.size
    have hK : Hid (∀ W, KG (Gp G w wc) wc W → Blk W w.heap.size #[.int .i64 h.a, .int .i64 h.b, .slice Ax h.x.length cx, .slice Ay h.y.length cy, .int .i64 h.o] 39 ∧ GN (Gp G w wc) W) := Lib.hid fun W k => ⟨k.blk (Nat.le_refl _) hXc, hGc.up k.size⟩
    have hgm := hmc.gs x.m (by simp [RX.own])
    have c9 := hmc.c9
    have a0 := hXc.cell 0 (x := .int .i64 h.a) rfl
    have a1 := hXc.cell 1 (x := .int .i64 h.b) rfl
    have hW := Lib.hid (wrong_rt x.m m.ty (m.sl : Nat) wc hmc.ty hta.2)
    have hmc := Lib.hid hmc
    clear S0 HH HTx HTy HF hXc hk hX0 bw hGc br
    by_cases qa : h.a = 0
    · have qb : (h.b == 0) = false := by rw [beq_eq_false_iff_ne]; exact fun e => hqH.out ⟨qa, e⟩
      rw [qa] at a0
      go_wp2_with fail
      refine hW.out.mono ?_
      rintro _ w5 ⟨rfl, hT5, o5⟩
      have h5 := Lib.hid (hmc.out.upM hT5 o5)
      have k5 := Lib.hid (o5.kg (G := Gp G w wc) hgm)
      clear hW hmc hT5 o5 c9 a0 a1
      have hd9 := h5.out.drew
      have HS : ∀ W (m' : NM), RA b (Gp G w wc) W g m' x → (W.cell? ⟨g, 13, none⟩ = some (.pointer (some ⟨x.s, 0, none⟩)) ∧ W.cell? ⟨g, 9, none⟩ = some (.pointer (some ⟨x.m, 0, none⟩))) := fun W m' h => ⟨h.c13, h.c9⟩
      have S0 := Lib.hid (HS _ _ hd9)
      have hgs := hd9.gs x.s (by simp [RX.own])
      have hI := Lib.hid (is_rt x.m (m.ty.wrong (m.sl : Nat)) (m.sl : Nat) w5.drew hd9.ty)
      have hM := Lib.hid (fun n => member_rs (Gp G w wc) (x.own g) x.s (m.so) (m.sl : Nat) (isB (m.ty.wrong (m.sl : Nat)).m (m.sl : Nat)) (w5.drewN n) (h5.out.drewN n).so (by simp [RX.own]))
      have hUp := Lib.hid (fun n w8 so (hT : SRt (Gp G w wc) (x.own g) w8 x.s so) (o : Only x.s (w5.drewN n) w8) => (h5.out.drewN n).upS hT o)
      have S1 := Lib.hid (fun n => HS _ _ (h5.out.drewN n))
      have HSH := Lib.hid HS
      clear h5 hd9 HS
      go_wp2_with fail
      go_region_held3 (fun W => W.cell? ⟨g, 13, none⟩ = some (.pointer (some ⟨x.s, 0, none⟩)) ∧ W.cell? ⟨g, 9, none⟩ = some (.pointer (some ⟨x.m, 0, none⟩))) ((first | exact S0.out | exact S1.out _ | exact S2.out))
        (first
          | (go_at_call 92; refine hI.out.mono ?_; rintro _ _ ⟨rfl, n, rfl⟩)
          | (go_at_call 91; refine (hM.out (1 + n)).mono ?_; rintro _ w8 ⟨rfl, hT8, o8⟩; (have h8 := hUp.out (1 + n) w8 _ hT8 o8); (have k10 := Lib.hid ((k5.out.trans (kg_below (below_drewN (Below.refl _ w5) (1 + n)))).trans (o8.kg hgs))); (have S2 := Lib.hid (HSH.out w8 _ h8)))
          | fail)
      have h8 : RA b (Gp G w wc) w8 g (m.took (m.ty.wrong (m.sl : Nat)) m.so m.ck : NM) x := h8
      obtain ⟨-, hG8⟩ := hK.out w8 k10.out
      have hO := Lib.hid (on_c b (Gp G w wc) g _ x w8 h8 hG8 hN.out)
      unfold OnC at hO
      clear S0 S1 S2 HSH hI hM hUp hT8 o8 k5 h8
      go_wp2_with fail
      refine hO.out.mono ?_
      rintro _ w9 ⟨rfl, h10, k11⟩
      have hfin := Lib.hid (h10.up)
      have kfin := Lib.hid (kc.out.trans ((k10.out.trans k11).up))
      clear hO h10 k11 k10
      go_wp2
      exact bodyPost_end (results_none (by rfl) _ _ _) rfl ⟨rfl, ⟨_, hfin.out⟩, kfin.out⟩
    · have qa' : (h.a == 0) = false := by rw [beq_eq_false_iff_ne]; exact qa
      go_wp2_with fail
      refine hW.out.mono ?_
      rintro _ w5 ⟨rfl, hT5, o5⟩
      have h5 := Lib.hid (hmc.out.upM hT5 o5)
      have k5 := Lib.hid (o5.kg (G := Gp G w wc) hgm)
      clear hW hmc hT5 o5 c9 a0 a1
      have hd9 := h5.out.drew
      have HS : ∀ W (m' : NM), RA b (Gp G w wc) W g m' x → (W.cell? ⟨g, 13, none⟩ = some (.pointer (some ⟨x.s, 0, none⟩)) ∧ W.cell? ⟨g, 9, none⟩ = some (.pointer (some ⟨x.m, 0, none⟩))) := fun W m' h => ⟨h.c13, h.c9⟩
      have S0 := Lib.hid (HS _ _ hd9)
      have hgs := hd9.gs x.s (by simp [RX.own])
      have hI := Lib.hid (is_rt x.m (m.ty.wrong (m.sl : Nat)) (m.sl : Nat) w5.drew hd9.ty)
      have hM := Lib.hid (fun n => member_rs (Gp G w wc) (x.own g) x.s (m.so) (m.sl : Nat) (isB (m.ty.wrong (m.sl : Nat)).m (m.sl : Nat)) (w5.drewN n) (h5.out.drewN n).so (by simp [RX.own]))
      have hUp := Lib.hid (fun n w8 so (hT : SRt (Gp G w wc) (x.own g) w8 x.s so) (o : Only x.s (w5.drewN n) w8) => (h5.out.drewN n).upS hT o)
      have S1 := Lib.hid (fun n => HS _ _ (h5.out.drewN n))
      have HSH := Lib.hid HS
      clear h5 hd9 HS
      go_wp2_with fail
      go_region_held3 (fun W => W.cell? ⟨g, 13, none⟩ = some (.pointer (some ⟨x.s, 0, none⟩)) ∧ W.cell? ⟨g, 9, none⟩ = some (.pointer (some ⟨x.m, 0, none⟩))) ((first | exact S0.out | exact S1.out _ | exact S2.out))
        (first
          | (go_at_call 92; refine hI.out.mono ?_; rintro _ _ ⟨rfl, n, rfl⟩)
          | (go_at_call 91; refine (hM.out (1 + n)).mono ?_; rintro _ w8 ⟨rfl, hT8, o8⟩; (have h8 := hUp.out (1 + n) w8 _ hT8 o8); (have k10 := Lib.hid ((k5.out.trans (kg_below (below_drewN (Below.refl _ w5) (1 + n)))).trans (o8.kg hgs))); (have S2 := Lib.hid (HSH.out w8 _ h8)))
          | fail)
      have h8 : RA b (Gp G w wc) w8 g (m.took (m.ty.wrong (m.sl : Nat)) m.so m.ck : NM) x := h8
      obtain ⟨-, hG8⟩ := hK.out w8 k10.out
      have hO := Lib.hid (on_c b (Gp G w wc) g _ x w8 h8 hG8 hN.out)
      unfold OnC at hO
      clear S0 S1 S2 HSH hI hM hUp hT8 o8 k5 h8
      go_wp2_with fail
      refine hO.out.mono ?_
      rintro _ w9 ⟨rfl, h10, k11⟩
      have hfin := Lib.hid (h10.up)
      have kfin := Lib.hid (kc.out.trans ((k10.out.trans k11).up))
      clear hO h10 k11 k10
      go_wp2
      exact bodyPost_end (results_none (by rfl) _ _ _) rfl ⟨rfl, ⟨_, hfin.out⟩, kfin.out⟩
end Go.Proofs.YtpdenmcacaajkaaGreat
