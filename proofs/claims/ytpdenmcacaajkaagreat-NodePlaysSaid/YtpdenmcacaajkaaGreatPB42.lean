/- Texts RaT in one. For what each says in front of its theorems. -/
import Derived.Deep.CutRange
import Derived.Test.YtpdenmcacaajkaaGreatPB38
import Derived.Test.YtpdenmcacaajkaaGreatPB41
/-! ### RaT -/
namespace Go.Proofs.YtpdenmcacaajkaaGreat
open Go.RowKit
open Fr (St F)
theorem wTk {P : Program} {ops : Array Oper} {Q : Exit → Act → World → Prop} {md : Region.Mode} {S : World → Prop} (i : Nat) (d : Tmp) (v : Value) {op : Op} {type : TypeId} {pos : String} {after : Array Edge} {fuel : Nat} {listed : Array Bool} {a : Act} {w : World} (hi : ops[i]? = some { dst := some d, op := op, type := type, pos := pos, after := after, guard := none })
    (hQ : ∀ c a w, Q (.panic c) (a.put (some d) v) w → Q (.panic c) a w) (hw : Region.wanted { dst := some d, op := op, type := type, pos := pos, after := after, guard := none } (yielded ops a.tmps) = true) (hy : ∀ w, S w → (execOp a.eval { dst := some d, op := op, type := type, pos := pos, after := after, guard := none }).run P w = .ok (.value v) w)
    (h : wpAnyH P md ops Q S fuel (listed.setIfInBounds i true) (a.put (some d) v) w) (hs : Region.noSelect ops = true := by kernel_rfl) (hf : Region.free md ops listed i = true := by kernel_rfl) (hr : (Region.ready md ops listed).contains i = true := by kernel_rfl) (hS : S w := by assumption) : wpAnyH P md ops Q S (fuel + 1) listed a w :=
  wpAnyH_take hi hs hf hr hQ (Or.inl ⟨hw, hy⟩) hS h
theorem qZa {α : Type} (l : List α) (i : Nat) (a : α) : l.toArray.setIfInBounds i a = (l.set i a).toArray := List.setIfInBounds_toArray l i a
theorem qZb {α : Type} {x : α} {xs : List α} {a : α} : (x :: xs).set 0 a = a :: xs := rfl
theorem qZc {α : Type} {x : α} {xs : List α} {i : Nat} {a : α} : (x :: xs).set (i + 1) a = x :: xs.set i a := rfl
def rowV (a : Int) (v : Value) : Value := if a = 2 then v else .slice none 0 0
def rowL (a : Int) (l : List Int) : List Int := if a = 2 then l else []
theorem row_sees {a : Int} {v : Value} {l : List Int} {W : World} (h : SeesL W W.heap.size v l) : SeesL W W.heap.size (rowV a v) (rowL a l) := by
  unfold rowV rowL
  split
  · exact h
  · exact SeesL.nil
theorem row_bytes {a : Int} {l : List Int} (h : bytesL l) : bytesL (rowL a l) := by
  unfold rowL
  split
  · exact h
  · exact fun x hx => by simp at hx
theorem first_h (b : Bool) (G : Nat → Prop) (g : Nat) (m : NM) (xx : RX) (h : Hn) (vx vy : Value) (W : World) (hh : HOk W h vx vy) (hm : RA b G W g m xx) :
    Calls Tryz.prog 131 #[.pointer (some ⟨g, 0, none⟩), rowV h.a vx, rowV h.b vy] W (Fst W NM.z3 (fun f => decide (m.mayJ f)) h) :=
  (first_ra b G g m xx _ _ _ _ W (row_sees hh.x) (row_bytes hh.bx) (row_sees hh.y) (row_bytes hh.by_) hm).mono fun _ _ h => fst_two h
theorem first_none (b : Bool) (G : Nat → Prop) (g : Nat) (m : NM) (xx : RX) (h : Hn) (vx vy : Value) (W : World) (hh : HOk W h vx vy) (hm : RA b G W g m xx) (hn : m.firstL h = none) :
    Calls Tryz.prog 131 #[.pointer (some ⟨g, 0, none⟩), rowV h.a vx, rowV h.b vy] W fun e w' => e = .returned (.tuple #[.agg #[.int .i64 0, .int .i64 0, .int .i64 0, .int .i64 0, .slice none 0 0], .bool false]) ∧ Below W.heap.size W w' :=
  (first_h b G g m xx h vx vy W hh hm).mono fun e w' hF => by
    unfold Fst at hF
    rw [firstL_eq, hn] at hF
    exact hF
theorem first_some (b : Bool) (G : Nat → Prop) (g : Nat) (m : NM) (xx : RX) (h : Hn) (vx vy : Value) (l : List Int) (W : World) (hh : HOk W h vx vy) (hm : RA b G W g m xx) (hn : m.firstL h = some l) :
    Calls Tryz.prog 131 #[.pointer (some ⟨g, 0, none⟩), rowV h.a vx, rowV h.b vy] W fun e w' => ∃ v, e = .returned (.tuple #[frV (Fr.res l NM.z3) v, .bool true]) ∧ OwnsL w' W.heap.size v (Fr.res l NM.z3).d ∧ Below W.heap.size W w' :=
  (first_h b G g m xx h vx vy W hh hm).mono fun e w' hF => by
    unfold Fst at hF
    rw [firstL_eq, hn] at hF
    exact hF
theorem HOk.below {W W' : World} {h : Hn} {vx vy : Value} (hh : HOk W h vx vy) (b : Below W.heap.size W W') : HOk W' h vx vy := ⟨(hh.x.below b).more b.size, hh.bx, (hh.y.below b).more b.size, hh.by_, hh.o⟩
theorem tells_row (a : Int) (v : Value) (w : World) : Calls Tryz.prog 86 #[.int .i64 a, v] w fun e w' => e = .returned (rowV a v) ∧ w' = w := tells_ra a v w
set_option maxRecDepth 100000 in
set_option maxHeartbeats 4000000 in
theorem tk_none (b : Bool) (G : Nat → Prop) (g : Nat) (m : NM) (x : RX) (h : Hn) (vx vy : Value) (w : World) (hm : RA b G w g m x) (hh : HOk w h vx vy) (hn : m.firstL h = none) :
    Calls Tryz.prog 82 #[.pointer (some ⟨g, 0, none⟩), hdV h vx vy] w fun e w' => e = .returned (.tuple #[]) ∧ RS b G w' g (if h.a ≠ 0 ∨ h.b ≠ 0 then { m with wt := 0 } else m) ∧ KG G w w' := by
  have hb0 := (Below.refl w.heap.size w).alloc (Nat.le_refl _) (.cells #[.int .i64 h.a, .int .i64 h.b, vx, vy, .int .i64 h.o] 39)
  have hX0 := Blk.new w w.heap.size rfl #[.int .i64 h.a, .int .i64 h.b, vx, vy, .int .i64 h.o] 39
  have hm0 := hm.below hb0
  have HT := fun a v W => Lib.hid (tells_row a v W)
  have HF := fun W (hW : Below w.heap.size w W) => Lib.hid (first_none b G g m x h vx vy W (hh.below hW) (hm.below hW) hn)
  obtain ⟨ux, hux⟩ : ∃ ux, rowV h.a vx = ux := ⟨_, rfl⟩
  obtain ⟨uy, huy⟩ : ∃ uy, rowV h.b vy = uy := ⟨_, rfl⟩
  have HTx : ∀ W, Hid (Calls Tryz.prog 86 #[.int .i64 h.a, vx] W fun e w' => e = .returned ux ∧ w' = W) := fun W => hux ▸ HT h.a vx W
  have HTy : ∀ W, Hid (Calls Tryz.prog 86 #[.int .i64 h.b, vy] W fun e w' => e = .returned uy ∧ w' = W) := fun W => huy ▸ HT h.b vy W
  rw [hux, huy] at HF
  clear hux huy HT
  obtain ⟨Ax, cx, rfl, -⟩ := hh.x.at_
  obtain ⟨Ay, cy, rfl, -⟩ := hh.y.at_
  have hk := Lib.hid (fun W (hW : Below w.heap.size w W) => hm.below hW)
  clear hh hn
  obtain ⟨mq, hmq⟩ : ∃ mq, (if h.a ≠ 0 ∨ h.b ≠ 0 then ({ m with wt := 0 } : NM) else m) = mq := ⟨_, rfl⟩
  rw [hmq]
  have HQ := Lib.hid hmq
  clear hmq
  unfold hdV
  go_enter Tryz.func82, Tryz.ntmps82
  go_wp2_with fail
  clear hm hm0
  generalize w.alloc (.cells #[.int .i64 h.a, .int .i64 h.b, .slice Ax h.x.length cx, .slice Ay h.y.length cy, .int .i64 h.o] 39) = w0 at *
  have b0 := hb0
  have HS : ∀ W, Below w0.heap.size w0 W → (W.cell? ⟨w.heap.size, 0, none⟩ = some (.int .i64 h.a) ∧ W.cell? ⟨w.heap.size, 1, none⟩ = some (.int .i64 h.b) ∧ W.cell? ⟨w.heap.size, 2, none⟩ = some (.slice Ax h.x.length cx) ∧ W.cell? ⟨w.heap.size, 3, none⟩ = some (.slice Ay h.y.length cy)) := fun W hW => by
    have h' := hX0.below hW hX0.lt
    exact ⟨h'.cell 0 rfl, h'.cell 1 rfl, h'.cell 2 rfl, h'.cell 3 rfl⟩
  have br := (Below.refl w0.heap.size w0).drew
  have S0 := Lib.hid (HS _ br)
  have HH := Lib.hid HS
  clear HS
  go_cut [5] from 7 to 21 (fun s5 wx => s5 = .bool false ∧ Below w0.heap.size w0 wx)
  case first =>
    refine wp_region_held_drew (S := fun W => W.cell? ⟨w.heap.size, 0, none⟩ = some (.int .i64 h.a) ∧ W.cell? ⟨w.heap.size, 1, none⟩ = some (.int .i64 h.b) ∧ W.cell? ⟨w.heap.size, 2, none⟩ = some (.slice Ax h.x.length cx) ∧ W.cell? ⟨w.heap.size, 3, none⟩ = some (.slice Ay h.y.length cy)) (by kernel_rfl) S0.out (fun hHeld => ?_)
    refine wTk 0 8 ?_ rfl (fun _ _ _ h => h) (by rfl) ?_ ?_
    rotate_left 1
    · (intro wz hSw; go_simp; try with_reducible rfl)
    try simp only [Act.put, qZa, qZb, qZc]
    refine wTk 1 9 ?_ rfl (fun _ _ _ h => h) (by rfl) ?_ ?_
    rotate_left 1
    · (intro wz hSw; go_simp; try with_reducible rfl)
    try simp only [Act.put, qZa, qZb, qZc]
    refine wTk 2 10 ?_ rfl (fun _ _ _ h => h) (by rfl) ?_ ?_
    rotate_left 1
    · (intro wz hSw; go_simp; try with_reducible rfl)
    try simp only [Act.put, qZa, qZb, qZc]
    refine wTk 3 11 ?_ rfl (fun _ _ _ h => h) (by rfl) ?_ ?_
    rotate_left 1
    · (intro wz hSw; go_simp; try with_reducible rfl)
    try simp only [Act.put, qZa, qZb, qZc]
    refine wTk 4 12 ?_ rfl (fun _ _ _ h => h) (by rfl) ?_ ?_
    rotate_left 1
    · (intro wz hSw; go_simp; try with_reducible rfl)
    try simp only [Act.put, qZa, qZb, qZc]
    refine wTk 6 14 ?_ rfl (fun _ _ _ h => h) (by rfl) ?_ ?_
    rotate_left 1
    · (intro wz hSw; go_simp; try with_reducible rfl)
    try simp only [Act.put, qZa, qZb, qZc]
    refine wTk 7 15 ?_ rfl (fun _ _ _ h => h) (by rfl) ?_ ?_
    rotate_left 1
    · (intro wz hSw; go_simp; try with_reducible rfl)
    try simp only [Act.put, qZa, qZb, qZc]
    refine wTk 8 16 ?_ rfl (fun _ _ _ h => h) (by rfl) ?_ ?_
    rotate_left 1
    · (intro wz hSw; go_simp; try with_reducible rfl)
    try simp only [Act.put, qZa, qZb, qZc]
    refine wTk 9 17 ?_ rfl (fun _ _ _ h => h) (by rfl) ?_ ?_
    rotate_left 1
    · (intro wz hSw; go_simp; try with_reducible rfl)
    try simp only [Act.put, qZa, qZb, qZc]
    refine wpAnyH_ready (rs := [5,15]) (by kernel_rfl) (by simp) ?_
    refine (AllReadyH.cons rfl (fun K hK => ?_) (AllReadyH.cons rfl (fun K hK => ?_) AllReadyH.nil))
    · skip
      go_simp
      refine (HTx _).out.mono ?_
      rintro _ _ ⟨rfl, rfl⟩
      refine hK.out _ _ (HH.out _ br) (fun hHeld => ?_)
      clear hK K
      try simp only [Act.put, qZa, qZb, qZc]
      refine wpAnyH_ready (rs := [10,15]) (by kernel_rfl) (by simp) ?_
      refine (AllReadyH.cons rfl (fun K hK => ?_) (AllReadyH.cons rfl (fun K hK => ?_) AllReadyH.nil))
      · skip
        go_simp
        refine (HTy _).out.mono ?_
        rintro _ _ ⟨rfl, rfl⟩
        refine hK.out _ _ (HH.out _ br) (fun hHeld => ?_)
        clear hK K
        try simp only [Act.put, qZa, qZb, qZc]
        refine wpAnyH_ready (rs := [11,15]) (by kernel_rfl) (by simp) ?_
        refine (AllReadyH.cons rfl (fun K hK => ?_) (AllReadyH.cons rfl (fun K hK => ?_) AllReadyH.nil))
        · skip
          go_simp
          refine (HF _ (b0.trans (br.mono b0.size))).out.mono ?_
          rintro _ w13 ⟨rfl, d13⟩
          have b13 := br.trans (d13.mono br.size)
          refine hK.out _ _ (HH.out _ b13) (fun hHeld => ?_)
          clear hK K
          try simp only [Act.put, qZa, qZb, qZc]
          refine wTk 12 7 ?_ rfl (fun _ _ _ h => h) (by rfl) ?_ ?_
          rotate_left 1
          · (intro wz hSw; go_simp; try with_reducible rfl)
          try simp only [Act.put, qZa, qZb, qZc]
          refine wTk 13 20 ?_ rfl (fun _ _ _ h => h) (by rfl) ?_ ?_
          rotate_left 1
          · (intro wz hSw; go_simp; try with_reducible rfl)
          try simp only [Act.put, qZa, qZb, qZc]
          refine wTk 14 21 ?_ rfl (fun _ _ _ h => h) (by rfl) ?_ ?_
          rotate_left 1
          · (intro wz hSw; go_simp; try with_reducible rfl)
          try simp only [Act.put, qZa, qZb, qZc]
          refine wpAnyH_ready (rs := [15]) (by kernel_rfl) (by simp) ?_
          refine (AllReadyH.cons rfl (fun K hK => ?_) AllReadyH.nil)
          go_simp
          have b14 := b13.alloc b13.size (.cells #[.int .i64 0, .int .i64 0, .int .i64 0, .int .i64 0, .slice none 0 0] 137)
          have X14 := Blk.new w13 (w13).heap.size rfl #[.int .i64 0, .int .i64 0, .int .i64 0, .int .i64 0, .slice none 0 0] 137
          refine hK.out _ _ (HH.out _ b14) (fun hHeld => ?_)
          clear hK K
          try simp only [Act.put, qZa, qZb, qZc]
          refine wpAnyH_ready (rs := [16]) (by kernel_rfl) (by simp) ?_
          refine (AllReadyH.cons rfl (fun K hK => ?_) AllReadyH.nil)
          have y0 := X14.cell 0 (x := .int .i64 0) rfl
          have z0 := X14.frozen 0
          have y1 := X14.cell 1 (x := .int .i64 0) rfl
          have z1 := X14.frozen 1
          have y2 := X14.cell 2 (x := .int .i64 0) rfl
          have z2 := X14.frozen 2
          have y3 := X14.cell 3 (x := .int .i64 0) rfl
          have z3 := X14.frozen 3
          have y4 := X14.cell 4 (x := .slice none 0 0) rfl
          have z4 := X14.frozen 4
          go_simp
          have XF := Blk.new w13 (w13).heap.size rfl #[.int .i64 0, .int .i64 0, .int .i64 0, .int .i64 0, .slice none 0 0] 137
          have bF := b13.alloc b13.size (.cells #[.int .i64 0, .int .i64 0, .int .i64 0, .int .i64 0, .slice none 0 0] 137)
          have le : w0.heap.size ≤ (w13).heap.size := b13.size
          refine hK.out _ _ (HH.out _ bF) (fun hHeld => ?_)
          clear y0 z0 y1 z1 y2 z2 y3 z3 y4 z4
          clear hK K
          try simp only [Act.put, qZa, qZb, qZc]
          refine wTk 17 5 ?_ rfl (fun _ _ _ h => h) (by rfl) ?_ ?_
          rotate_left 1
          · (intro wz hSw; go_simp; try with_reducible rfl)
          try simp only [Act.put, qZa, qZb, qZc]
          refine wpAnyH_done (by kernel_rfl) ?_ _
          go_wp2_with fail
          go_meet
          exact ⟨rfl, bF⟩
        · skip
          go_simp
          have b16 := br.alloc br.size (.cells #[.int .i64 0, .int .i64 0, .int .i64 0, .int .i64 0, .slice none 0 0] 137)
          have X16 := Blk.new w0.drew w0.heap.size rfl #[.int .i64 0, .int .i64 0, .int .i64 0, .int .i64 0, .slice none 0 0] 137
          refine hK.out _ _ (HH.out _ b16) (fun hHeld => ?_)
          clear hK K
          try simp only [Act.put, qZa, qZb, qZc]
          refine wpAnyH_ready (rs := [11]) (by kernel_rfl) (by simp) ?_
          refine (AllReadyH.cons rfl (fun K hK => ?_) AllReadyH.nil)
          go_simp
          refine (HF _ (b0.trans (b16.mono b0.size))).out.mono ?_
          rintro _ w17 ⟨rfl, d17⟩
          have b17 := b16.trans (d17.mono b16.size)
          have X16x := X16.below d17 X16.lt
          refine hK.out _ _ (HH.out _ b17) (fun hHeld => ?_)
          clear hK K
          try simp only [Act.put, qZa, qZb, qZc]
          refine wTk 12 7 ?_ rfl (fun _ _ _ h => h) (by rfl) ?_ ?_
          rotate_left 1
          · (intro wz hSw; go_simp; try with_reducible rfl)
          try simp only [Act.put, qZa, qZb, qZc]
          refine wTk 13 20 ?_ rfl (fun _ _ _ h => h) (by rfl) ?_ ?_
          rotate_left 1
          · (intro wz hSw; go_simp; try with_reducible rfl)
          try simp only [Act.put, qZa, qZb, qZc]
          refine wTk 14 21 ?_ rfl (fun _ _ _ h => h) (by rfl) ?_ ?_
          rotate_left 1
          · (intro wz hSw; go_simp; try with_reducible rfl)
          try simp only [Act.put, qZa, qZb, qZc]
          refine wpAnyH_ready (rs := [16]) (by kernel_rfl) (by simp) ?_
          refine (AllReadyH.cons rfl (fun K hK => ?_) AllReadyH.nil)
          have y0 := X16x.cell 0 (x := .int .i64 0) rfl
          have z0 := X16x.frozen 0
          have y1 := X16x.cell 1 (x := .int .i64 0) rfl
          have z1 := X16x.frozen 1
          have y2 := X16x.cell 2 (x := .int .i64 0) rfl
          have z2 := X16x.frozen 2
          have y3 := X16x.cell 3 (x := .int .i64 0) rfl
          have z3 := X16x.frozen 3
          have y4 := X16x.cell 4 (x := .slice none 0 0) rfl
          have z4 := X16x.frozen 4
          go_simp
          have le : w0.heap.size ≤ w0.heap.size := br.size
          have XF : Blk _ w0.heap.size #[.int .i64 0, .int .i64 0, .int .i64 0, .int .i64 0, .slice none 0 0] 137 := (((((X16x.set 0 (.int .i64 0)).set 1 (.int .i64 0)).set 2 (.int .i64 0)).set 3 (.int .i64 0)).set 4 (.slice none 0 0)).eq (by simp)
          have bF := (((((b17.setCell (p := ⟨w0.heap.size, 0, none⟩) le (.int .i64 0)).setCell (p := ⟨w0.heap.size, 1, none⟩) le (.int .i64 0)).setCell (p := ⟨w0.heap.size, 2, none⟩) le (.int .i64 0)).setCell (p := ⟨w0.heap.size, 3, none⟩) le (.int .i64 0)).setCell (p := ⟨w0.heap.size, 4, none⟩) le (.slice none 0 0))
          refine hK.out _ _ (HH.out _ bF) (fun hHeld => ?_)
          clear y0 z0 y1 z1 y2 z2 y3 z3 y4 z4
          clear hK K
          try simp only [Act.put, qZa, qZb, qZc]
          refine wTk 17 5 ?_ rfl (fun _ _ _ h => h) (by rfl) ?_ ?_
          rotate_left 1
          · (intro wz hSw; go_simp; try with_reducible rfl)
          try simp only [Act.put, qZa, qZb, qZc]
          refine wpAnyH_done (by kernel_rfl) ?_ _
          go_wp2_with fail
          go_meet
          exact ⟨rfl, bF⟩
      · skip
        go_simp
        have b19 := br.alloc br.size (.cells #[.int .i64 0, .int .i64 0, .int .i64 0, .int .i64 0, .slice none 0 0] 137)
        have X19 := Blk.new w0.drew w0.heap.size rfl #[.int .i64 0, .int .i64 0, .int .i64 0, .int .i64 0, .slice none 0 0] 137
        refine hK.out _ _ (HH.out _ b19) (fun hHeld => ?_)
        clear hK K
        try simp only [Act.put, qZa, qZb, qZc]
        refine wpAnyH_ready (rs := [10]) (by kernel_rfl) (by simp) ?_
        refine (AllReadyH.cons rfl (fun K hK => ?_) AllReadyH.nil)
        go_simp
        refine (HTy _).out.mono ?_
        rintro _ _ ⟨rfl, rfl⟩
        refine hK.out _ _ (HH.out _ b19) (fun hHeld => ?_)
        clear hK K
        try simp only [Act.put, qZa, qZb, qZc]
        refine wpAnyH_ready (rs := [11]) (by kernel_rfl) (by simp) ?_
        refine (AllReadyH.cons rfl (fun K hK => ?_) AllReadyH.nil)
        go_simp
        refine (HF _ (b0.trans (b19.mono b0.size))).out.mono ?_
        rintro _ w21 ⟨rfl, d21⟩
        have b21 := b19.trans (d21.mono b19.size)
        have X19x := X19.below d21 X19.lt
        refine hK.out _ _ (HH.out _ b21) (fun hHeld => ?_)
        clear hK K
        try simp only [Act.put, qZa, qZb, qZc]
        refine wTk 12 7 ?_ rfl (fun _ _ _ h => h) (by rfl) ?_ ?_
        rotate_left 1
        · (intro wz hSw; go_simp; try with_reducible rfl)
        try simp only [Act.put, qZa, qZb, qZc]
        refine wTk 13 20 ?_ rfl (fun _ _ _ h => h) (by rfl) ?_ ?_
        rotate_left 1
        · (intro wz hSw; go_simp; try with_reducible rfl)
        try simp only [Act.put, qZa, qZb, qZc]
        refine wTk 14 21 ?_ rfl (fun _ _ _ h => h) (by rfl) ?_ ?_
        rotate_left 1
        · (intro wz hSw; go_simp; try with_reducible rfl)
        try simp only [Act.put, qZa, qZb, qZc]
        refine wpAnyH_ready (rs := [16]) (by kernel_rfl) (by simp) ?_
        refine (AllReadyH.cons rfl (fun K hK => ?_) AllReadyH.nil)
        have y0 := X19x.cell 0 (x := .int .i64 0) rfl
        have z0 := X19x.frozen 0
        have y1 := X19x.cell 1 (x := .int .i64 0) rfl
        have z1 := X19x.frozen 1
        have y2 := X19x.cell 2 (x := .int .i64 0) rfl
        have z2 := X19x.frozen 2
        have y3 := X19x.cell 3 (x := .int .i64 0) rfl
        have z3 := X19x.frozen 3
        have y4 := X19x.cell 4 (x := .slice none 0 0) rfl
        have z4 := X19x.frozen 4
        go_simp
        have le : w0.heap.size ≤ w0.heap.size := br.size
        have XF : Blk _ w0.heap.size #[.int .i64 0, .int .i64 0, .int .i64 0, .int .i64 0, .slice none 0 0] 137 := (((((X19x.set 0 (.int .i64 0)).set 1 (.int .i64 0)).set 2 (.int .i64 0)).set 3 (.int .i64 0)).set 4 (.slice none 0 0)).eq (by simp)
        have bF := (((((b21.setCell (p := ⟨w0.heap.size, 0, none⟩) le (.int .i64 0)).setCell (p := ⟨w0.heap.size, 1, none⟩) le (.int .i64 0)).setCell (p := ⟨w0.heap.size, 2, none⟩) le (.int .i64 0)).setCell (p := ⟨w0.heap.size, 3, none⟩) le (.int .i64 0)).setCell (p := ⟨w0.heap.size, 4, none⟩) le (.slice none 0 0))
        refine hK.out _ _ (HH.out _ bF) (fun hHeld => ?_)
        clear y0 z0 y1 z1 y2 z2 y3 z3 y4 z4
        clear hK K
        try simp only [Act.put, qZa, qZb, qZc]
        refine wTk 17 5 ?_ rfl (fun _ _ _ h => h) (by rfl) ?_ ?_
        rotate_left 1
        · (intro wz hSw; go_simp; try with_reducible rfl)
        try simp only [Act.put, qZa, qZb, qZc]
        refine wpAnyH_done (by kernel_rfl) ?_ _
        go_wp2_with fail
        go_meet
        exact ⟨rfl, bF⟩
    · skip
      go_simp
      have b23 := br.alloc br.size (.cells #[.int .i64 0, .int .i64 0, .int .i64 0, .int .i64 0, .slice none 0 0] 137)
      have X23 := Blk.new w0.drew w0.heap.size rfl #[.int .i64 0, .int .i64 0, .int .i64 0, .int .i64 0, .slice none 0 0] 137
      refine hK.out _ _ (HH.out _ b23) (fun hHeld => ?_)
      clear hK K
      try simp only [Act.put, qZa, qZb, qZc]
      refine wpAnyH_ready (rs := [5]) (by kernel_rfl) (by simp) ?_
      refine (AllReadyH.cons rfl (fun K hK => ?_) AllReadyH.nil)
      go_simp
      refine (HTx _).out.mono ?_
      rintro _ _ ⟨rfl, rfl⟩
      refine hK.out _ _ (HH.out _ b23) (fun hHeld => ?_)
      clear hK K
      try simp only [Act.put, qZa, qZb, qZc]
      refine wpAnyH_ready (rs := [10]) (by kernel_rfl) (by simp) ?_
      refine (AllReadyH.cons rfl (fun K hK => ?_) AllReadyH.nil)
      go_simp
      refine (HTy _).out.mono ?_
      rintro _ _ ⟨rfl, rfl⟩
      refine hK.out _ _ (HH.out _ b23) (fun hHeld => ?_)
      clear hK K
      try simp only [Act.put, qZa, qZb, qZc]
      refine wpAnyH_ready (rs := [11]) (by kernel_rfl) (by simp) ?_
      refine (AllReadyH.cons rfl (fun K hK => ?_) AllReadyH.nil)
      go_simp
      refine (HF _ (b0.trans (b23.mono b0.size))).out.mono ?_
      rintro _ w26 ⟨rfl, d26⟩
      have b26 := b23.trans (d26.mono b23.size)
      have X23x := X23.below d26 X23.lt
      refine hK.out _ _ (HH.out _ b26) (fun hHeld => ?_)
      clear hK K
      try simp only [Act.put, qZa, qZb, qZc]
      refine wTk 12 7 ?_ rfl (fun _ _ _ h => h) (by rfl) ?_ ?_
      rotate_left 1
      · (intro wz hSw; go_simp; try with_reducible rfl)
      try simp only [Act.put, qZa, qZb, qZc]
      refine wTk 13 20 ?_ rfl (fun _ _ _ h => h) (by rfl) ?_ ?_
      rotate_left 1
      · (intro wz hSw; go_simp; try with_reducible rfl)
      try simp only [Act.put, qZa, qZb, qZc]
      refine wTk 14 21 ?_ rfl (fun _ _ _ h => h) (by rfl) ?_ ?_
      rotate_left 1
      · (intro wz hSw; go_simp; try with_reducible rfl)
      try simp only [Act.put, qZa, qZb, qZc]
      refine wpAnyH_ready (rs := [16]) (by kernel_rfl) (by simp) ?_
      refine (AllReadyH.cons rfl (fun K hK => ?_) AllReadyH.nil)
      have y0 := X23x.cell 0 (x := .int .i64 0) rfl
      have z0 := X23x.frozen 0
      have y1 := X23x.cell 1 (x := .int .i64 0) rfl
      have z1 := X23x.frozen 1
      have y2 := X23x.cell 2 (x := .int .i64 0) rfl
      have z2 := X23x.frozen 2
      have y3 := X23x.cell 3 (x := .int .i64 0) rfl
      have z3 := X23x.frozen 3
      have y4 := X23x.cell 4 (x := .slice none 0 0) rfl
      have z4 := X23x.frozen 4
      go_simp
      have le : w0.heap.size ≤ w0.heap.size := br.size
      have XF : Blk _ w0.heap.size #[.int .i64 0, .int .i64 0, .int .i64 0, .int .i64 0, .slice none 0 0] 137 := (((((X23x.set 0 (.int .i64 0)).set 1 (.int .i64 0)).set 2 (.int .i64 0)).set 3 (.int .i64 0)).set 4 (.slice none 0 0)).eq (by simp)
      have bF := (((((b26.setCell (p := ⟨w0.heap.size, 0, none⟩) le (.int .i64 0)).setCell (p := ⟨w0.heap.size, 1, none⟩) le (.int .i64 0)).setCell (p := ⟨w0.heap.size, 2, none⟩) le (.int .i64 0)).setCell (p := ⟨w0.heap.size, 3, none⟩) le (.int .i64 0)).setCell (p := ⟨w0.heap.size, 4, none⟩) le (.slice none 0 0))
      refine hK.out _ _ (HH.out _ bF) (fun hHeld => ?_)
      clear y0 z0 y1 z1 y2 z2 y3 z3 y4 z4
      clear hK K
      try simp only [Act.put, qZa, qZb, qZc]
      refine wTk 17 5 ?_ rfl (fun _ _ _ h => h) (by rfl) ?_ ?_
      rotate_left 1
      · (intro wz hSw; go_simp; try with_reducible rfl)
      try simp only [Act.put, qZa, qZb, qZc]
      refine wpAnyH_done (by kernel_rfl) ?_ _
      go_wp2_with fail
      go_meet
      exact ⟨rfl, bF⟩
  case rest =>
    obtain ⟨rfl, bc⟩ := hcut
    have hXc := hX0.below bc hX0.lt
    have x0 := hXc.cell 0 (x := .int .i64 h.a) rfl
    have x1 := hXc.cell 1 (x := .int .i64 h.b) rfl
    have bw := b0.trans (bc.mono b0.size)
    have hmc := hk.out _ bw
    have c16 := hmc.c16
    have f16 := hmc.frozen 16
    have hg := hmc.G_
    have h16 := Lib.hid (hmc.sWt 0)
    have hmc := Lib.hid hmc
    have kc := Lib.hid (kg_below (G := G) bw)
    have k16 := Lib.hid (kc.out.trans (((Only.refl g wc).set 16 (.int .i64 (0 : Nat))).kg hg))
    clear S0 HH HTx HTy HF hXc hk hX0 bw
    by_cases qa : h.a = 0
    · by_cases qb : h.b = 0
      · have e : m = mq := by rw [← HQ.out, if_neg (by omega)]
        rw [qa] at x0
        rw [qb] at x1
        go_wp2
        refine bodyPost_ret (v := .tuple #[]) (results_none (by rfl) _ _ _) rfl ⟨rfl, ?_, kc.out⟩
        rw [← e]
        exact ⟨x, hmc.out⟩
      · have e : ({ m with wt := 0 } : NM) = mq := by rw [← HQ.out, if_pos (by omega)]
        rw [qa] at x0
        have q : (h.b != 0) = true := by rw [bne_iff_ne]; exact qb
        have he := Lib.hid e
        clear e
        go_wp2
        refine bodyPost_ret (v := .tuple #[]) (results_none (by rfl) _ _ _) rfl ⟨rfl, ?_, k16.out⟩
        rw [← he.out]
        exact ⟨x, h16.out⟩
    · have e : ({ m with wt := 0 } : NM) = mq := by rw [← HQ.out, if_pos (by omega)]
      have q : (h.a != 0) = true := by rw [bne_iff_ne]; exact qa
      have he := Lib.hid e
      clear e
      go_wp2
      refine bodyPost_ret (v := .tuple #[]) (results_none (by rfl) _ _ _) rfl ⟨rfl, ?_, k16.out⟩
      rw [← he.out]
      exact ⟨x, h16.out⟩
end Go.Proofs.YtpdenmcacaajkaaGreat
