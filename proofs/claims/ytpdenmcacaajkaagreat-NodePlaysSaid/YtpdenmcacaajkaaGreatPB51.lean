/- Texts NpE, NpF, NpS, StA, StL, NpK, NpBase2 in one. For what each says in front of its theorems. -/
import Derived.Deep.RegionHeld3
import Derived.Deep.CutRange
import Derived.Test.YtpdenmcacaajkaaGreatPB1
import Derived.Test.YtpdenmcacaajkaaGreatPB16
import Derived.Test.YtpdenmcacaajkaaGreatPB32
import Derived.Test.YtpdenmcacaajkaaGreatPB33
import Derived.Test.YtpdenmcacaajkaaGreatPB34
import Derived.Test.YtpdenmcacaajkaaGreatPB49
import Derived.Test.YtpdenmcacaajkaaGreatPB50
/-! ### NpE -/
namespace Go.Proofs.YtpdenmcacaajkaaGreat
open Go.RowKit
theorem bw_sees {B : Nat} {P : List Nat} {w w' : World} {v : Value} {l : List Int} (h : Bw B P w w') (hs : SeesL w w.heap.size v l) (hj : l ≠ [] → ∀ j, v.ownBlock = some j → j ∈ P ∨ j < B) : SeesL w' w'.heap.size v l := ⟨by
  obtain ⟨A, c, rfl, h1, h2, h3, h4⟩ := hs.at_
  refine ⟨A, c, rfl, h1, h2, fun h0 => ?_, h4⟩
  obtain ⟨b, off, rfl, hb, hc⟩ := h3 h0
  have e : w'.heap[b]? = w.heap[b]? := by
    rcases hj (List.length_pos_iff.1 h0) b rfl with hj | hj
    · exact h.k b hj
    · exact h.b.block b hj
  refine ⟨b, off, rfl, Nat.lt_of_lt_of_le hb h.b.size, fun j hj => ?_⟩
  rw [← hc j hj]
  simp only [World.cell?, e]⟩
theorem sees_own {w : World} {B : Nat} {v : Value} {l : List Int} (h : SeesL w B v l) (h0 : l ≠ []) {j : Nat} (e : v.ownBlock = some j) : j < B := by
  obtain ⟨A, c, rfl, -, -, h3, -⟩ := h.at_
  obtain ⟨b, off, rfl, hb, -⟩ := h3 (List.length_pos_iff.2 h0)
  have : b = j := by simpa [Value.ownBlock] using e
  omega
theorem heard_any (B : Nat) (P : List Nat) (q : Bool → Prop) (g1 g2 : Nat) (m1 m : NM) (a : Aq) (vd vx vy : Value) (w : World) (h : Two B P q w g1 g2 m1 m) (hk : AqOk w a vd vx vy) (hx : SeesL w B vx a.h.x) (hy : SeesL w B vy a.h.y) :
    Calls Tryz.prog 35 #[aqV a vd vx vy, .pointer (some ⟨g2, 0, none⟩)] w fun e w' => ∃ (hd : Hn) (ux uy : Value), e = .returned (hdV hd ux uy) ∧ HOk w' hd ux uy ∧ (-1073741824 ≤ hd.o ∧ hd.o ≤ 1073741824) ∧ (hd.x ≠ [] → ∀ j, ux.ownBlock = some j → (w.heap.size ≤ j ∧ j < w'.heap.size) ∨ j < B) ∧ (hd.y ≠ [] → ∀ j, uy.ownBlock = some j → (w.heap.size ≤ j ∧ j < w'.heap.size) ∨ j < B) ∧ Below w.heap.size w w' := by
  have ho := hk.o
  by_cases h5 : a.k = 5
  · refine (heard_5 g2 a vd vx vy w hk h5).mono ?_
    rintro _ w' ⟨rfl, b⟩
    have hk' := hk.below b
    exact ⟨a.h, vx, vy, rfl, ⟨hk'.x, hk.by_.2.1, hk'.y, hk.by_.2.2, by omega⟩, ho, fun h0 j e => .inr (sees_own hx h0 e), fun h0 j e => .inr (sees_own hy h0 e), b⟩
  · refine (heard_n B P q g1 g2 m1 m a vd vx vy w h hk h5).mono ?_
    rintro _ w' ⟨hd, ux, uy, rfl, hox, hoy, bx, by_, eo, b⟩
    exact ⟨hd, ux, uy, rfl, ⟨hox.sees, bx, hoy.sees, by_, by rw [eo]; omega⟩, by rw [eo]; exact ho, fun h0 j e => .inl (hox.lt j e), fun h0 j e => .inl (hoy.lt j e), b⟩
set_option maxRecDepth 100000 in
set_option maxHeartbeats 4000000 in
theorem do_slot (B : Nat) (g1 g2 : Nat) (m : NM) (k : Nat) (a : Aq) (vd vx vy : Value) (w : World) (h : Two B [] anyB w g1 g2 m m) (hd : Bd m k) (hk : k ≤ 200) (hq : AqOk w a vd vx vy) (hqB : SeesL w B vd a.d ∧ SeesL w B vx a.h.x ∧ SeesL w B vy a.h.y) (hka : a.k ≠ 1 ∧ a.k ≠ 2 ∧ a.k ≠ 3 ∧ a.k ≠ 4) : DoC B g1 g2 k a vd vx vy w := by
  unfold DoC
  have hbx := (Below.refl w.heap.size w).alloc (Nat.le_refl _) (.cells (BX a vd vx vy) 41)
  have hX := Blk.new w w.heap.size rfl (BX a vd vx vy) 41
  have hT := h.add hbx [w.heap.size] (fun f hf => by simp at hf; subst hf; simp)
  have hlo := h.lo
  have hBw : Below B w (w.alloc (.cells (BX a vd vx vy) 41)) := hbx.mono hlo
  clear h
  have hqx := hq.below hbx
  have hqo := hq.o
  have hqb := hq.by_
  have hda := hd.a
  have hdf := hd.f
  have hdt := hd.t
  have hj := hT.nj1
  have q1 : (a.k == 1) = false := by rw [beq_eq_false_iff_ne]; exact hka.1
  have q2 : (a.k == 2) = false := by rw [beq_eq_false_iff_ne]; exact hka.2.1
  have q3 : (a.k == 3) = false := by rw [beq_eq_false_iff_ne]; exact hka.2.2.1
  have q4 : (a.k == 4) = false := by rw [beq_eq_false_iff_ne]; exact hka.2.2.2
  obtain ⟨Ad, cd, rfl, -⟩ := hq.d.at_
  obtain ⟨Ax, cx, rfl, -⟩ := hq.x.at_
  obtain ⟨Ay, cy, rfl, -⟩ := hq.y.at_
  clear hq hka
  unfold BX at hX hT hBw hbx hqx
  unfold aqV
  have hX := Lib.hid hX
  have c0 := hX.out.cell 0 (x := .int .i64 a.k) rfl
  go_enter Tryz.func10, Tryz.ntmps10
  go_wp2_with fail
  clear c0
  generalize w.alloc (.cells #[.int .i64 a.k, .int .i64 a.n, .slice Ad a.d.length cd, .int .i64 a.h.a, .int .i64 a.h.b, .slice Ax a.h.x.length cx, .slice Ay a.h.y.length cy, .int .i64 a.h.o, .int .i64 a.f, .int .i64 a.u] 41) = w0 at *
  go_cut [60] from 54 to 59 (fun s60 wx => s60 = .bool false ∧ Two B ([w.heap.size] ++ []) (isS m.sendS.se) wx g1 g2 m.sendS m.sendS ∧ Bw B ([w.heap.size] ++ []) w0 wx)
  case first =>
    have b0 := (Below.refl w0.heap.size w0).drew
    have bw0 : Bw B ([w.heap.size] ++ []) w0 w0.drew := Bw.below b0 hT.lo hT.p
    have hS := Lib.hid (two_send (hT.below b0) (by omega))
    have eS : (Value.string (textL m.sent)) = Value.string (textL m.sent) := rfl
    refine wp_region_held_drew (S := fun _ => True) (by kernel_rfl) trivial (fun hHeld => ?_)
    refine wpAnyH_take (i := 0) (oi := { dst := some 54, op := _, type := _, pos := _, after := _, guard := none }) (v := ?_) rfl (by kernel_rfl) (by kernel_rfl) (by kernel_rfl) (fun _ _ _ h => h) (Or.inl ⟨by rfl, ?_⟩) (by assumption) ?_
    rotate_left 1
    · (intro wz hSw; go_simp; try with_reducible rfl)
    try simp only [Act.put, List.setIfInBounds_toArray, List.set_cons_zero, List.set_cons_succ]
    refine wpAnyH_take (i := 3) (oi := { dst := some 57, op := _, type := _, pos := _, after := _, guard := none }) (v := ?_) rfl (by kernel_rfl) (by kernel_rfl) (by kernel_rfl) (fun _ _ _ h => h) (Or.inl ⟨by rfl, ?_⟩) (by assumption) ?_
    rotate_left 1
    · (intro wz hSw; go_simp; try with_reducible rfl)
    try simp only [Act.put, List.setIfInBounds_toArray, List.set_cons_zero, List.set_cons_succ]
    refine wpAnyH_ready (rs := [1]) (by kernel_rfl) (by simp) ?_
    refine (AllReadyH.cons rfl (fun K hK => ?_) AllReadyH.nil)
    go_simp
    refine hS.out.mono ?_
    rintro _ w1 ⟨v1, rfl, hv1, bw1, hX2⟩
    have hX2 := Lib.hid hX2
    refine hK.out _ _ trivial (fun hHeld => ?_)
    clear hK K
    try simp only [Act.put, List.setIfInBounds_toArray, List.set_cons_zero, List.set_cons_succ]
    refine wpAnyH_ready (rs := [2,4]) (by kernel_rfl) (by simp) ?_
    refine (AllReadyH.cons rfl (fun K hK => ?_) (AllReadyH.cons rfl (fun K hK => ?_) AllReadyH.nil))
    · skip
      have R1 := run_textL hv1
      go_simp
      refine hK.out _ _ trivial (fun hHeld => ?_)
      clear hK K
      try simp only [Act.put, List.setIfInBounds_toArray, List.set_cons_zero, List.set_cons_succ]
      refine wpAnyH_ready (rs := [4]) (by kernel_rfl) (by simp) ?_
      refine (AllReadyH.cons rfl (fun K hK => ?_) AllReadyH.nil)
      go_simp
      refine hX2.out.mono ?_
      rintro _ w2 ⟨v2, rfl, hv2, hv1', hT2, bw2⟩
      refine hK.out _ _ trivial (fun hHeld => ?_)
      clear hK K
      try simp only [Act.put, List.setIfInBounds_toArray, List.set_cons_zero, List.set_cons_succ]
      refine wpAnyH_ready (rs := [5]) (by kernel_rfl) (by simp) ?_
      refine (AllReadyH.cons rfl (fun K hK => ?_) AllReadyH.nil)
      have R2 := run_textL hv2
      go_simp
      refine hK.out _ _ trivial (fun hHeld => ?_)
      clear hK K
      try simp only [Act.put, List.setIfInBounds_toArray, List.set_cons_zero, List.set_cons_succ]
      refine wpAnyH_take (i := 6) (oi := { dst := some 60, op := _, type := _, pos := _, after := _, guard := none }) (v := ?_) rfl (by kernel_rfl) (by kernel_rfl) (by kernel_rfl) (fun _ _ _ h => h) (Or.inl ⟨by rfl, ?_⟩) (by assumption) ?_
      rotate_left 1
      · (intro wz hSw; go_simp; try with_reducible rfl)
      try simp only [Act.put, List.setIfInBounds_toArray, List.set_cons_zero, List.set_cons_succ]
      refine wpAnyH_done (by kernel_rfl) ?_ _
      go_wp2_with fail
      go_meet
      exact ⟨rfl, hT2, (bw0.trans bw1).trans bw2⟩
    · skip
      go_simp
      refine hX2.out.mono ?_
      rintro _ w2 ⟨v2, rfl, hv2, hv1', hT2, bw2⟩
      refine hK.out _ _ trivial (fun hHeld => ?_)
      clear hK K
      try simp only [Act.put, List.setIfInBounds_toArray, List.set_cons_zero, List.set_cons_succ]
      refine wpAnyH_ready (rs := [2,5]) (by kernel_rfl) (by simp) ?_
      refine (AllReadyH.cons rfl (fun K hK => ?_) (AllReadyH.cons rfl (fun K hK => ?_) AllReadyH.nil))
      · skip
        have R1 := run_textL hv1'
        go_simp
        refine hK.out _ _ trivial (fun hHeld => ?_)
        clear hK K
        try simp only [Act.put, List.setIfInBounds_toArray, List.set_cons_zero, List.set_cons_succ]
        refine wpAnyH_ready (rs := [5]) (by kernel_rfl) (by simp) ?_
        refine (AllReadyH.cons rfl (fun K hK => ?_) AllReadyH.nil)
        have R2 := run_textL hv2
        go_simp
        refine hK.out _ _ trivial (fun hHeld => ?_)
        clear hK K
        try simp only [Act.put, List.setIfInBounds_toArray, List.set_cons_zero, List.set_cons_succ]
        refine wpAnyH_take (i := 6) (oi := { dst := some 60, op := _, type := _, pos := _, after := _, guard := none }) (v := ?_) rfl (by kernel_rfl) (by kernel_rfl) (by kernel_rfl) (fun _ _ _ h => h) (Or.inl ⟨by rfl, ?_⟩) (by assumption) ?_
        rotate_left 1
        · (intro wz hSw; go_simp; try with_reducible rfl)
        try simp only [Act.put, List.setIfInBounds_toArray, List.set_cons_zero, List.set_cons_succ]
        refine wpAnyH_done (by kernel_rfl) ?_ _
        go_wp2_with fail
        go_meet
        exact ⟨rfl, hT2, (bw0.trans bw1).trans bw2⟩
      · skip
        have R2 := run_textL hv2
        go_simp
        refine hK.out _ _ trivial (fun hHeld => ?_)
        clear hK K
        try simp only [Act.put, List.setIfInBounds_toArray, List.set_cons_zero, List.set_cons_succ]
        refine wpAnyH_ready (rs := [2]) (by kernel_rfl) (by simp) ?_
        refine (AllReadyH.cons rfl (fun K hK => ?_) AllReadyH.nil)
        have R1 := run_textL hv1'
        go_simp
        refine hK.out _ _ trivial (fun hHeld => ?_)
        clear hK K
        try simp only [Act.put, List.setIfInBounds_toArray, List.set_cons_zero, List.set_cons_succ]
        refine wpAnyH_take (i := 6) (oi := { dst := some 60, op := _, type := _, pos := _, after := _, guard := none }) (v := ?_) rfl (by kernel_rfl) (by kernel_rfl) (by kernel_rfl) (fun _ _ _ h => h) (Or.inl ⟨by rfl, ?_⟩) (by assumption) ?_
        rotate_left 1
        · (intro wz hSw; go_simp; try with_reducible rfl)
        try simp only [Act.put, List.setIfInBounds_toArray, List.set_cons_zero, List.set_cons_succ]
        refine wpAnyH_done (by kernel_rfl) ?_ _
        go_wp2_with fail
        go_meet
        exact ⟨rfl, hT2, (bw0.trans bw1).trans bw2⟩
  case rest =>
    obtain ⟨rfl, hT2, bw2⟩ := hcut
    have hX2 := bw2.blk (by simp) hX.out
    have bB2 := hBw.trans bw2.b
    have hqk : AqOk wc a (.slice Ad a.d.length cd) (.slice Ax a.h.x.length cx) (.slice Ay a.h.y.length cy) := ⟨(hqB.1.below bB2).more hT2.lo, (hqB.2.1.below bB2).more hT2.lo, (hqB.2.2.below bB2).more hT2.lo, hqb, hqo⟩
    have hHe := Lib.hid (heard_any B _ _ g1 g2 m.sendS m.sendS a _ _ _ wc hT2 hqk (hqB.2.1.below bB2) (hqB.2.2.below bB2))
    have hd2 := hd.sendS
    unfold aqV at hHe
    have c0 := hX2.cell 0 (x := .int .i64 a.k) rfl
    have c1 := hX2.cell 1 (x := .int .i64 a.n) rfl
    have c2 := hX2.cell 2 (x := .slice Ad a.d.length cd) rfl
    have c3 := hX2.cell 3 (x := .int .i64 a.h.a) rfl
    have c4 := hX2.cell 4 (x := .int .i64 a.h.b) rfl
    have c5 := hX2.cell 5 (x := .slice Ax a.h.x.length cx) rfl
    have c6 := hX2.cell 6 (x := .slice Ay a.h.y.length cy) rfl
    have c7 := hX2.cell 7 (x := .int .i64 a.h.o) rfl
    have c8 := hX2.cell 8 (x := .int .i64 a.f) rfl
    have c9 := hX2.cell 9 (x := .int .i64 a.u) rfl
    clear hT hX hX2 hqk hbx hqx
    go_wp2_with fail
    refine hHe.out.mono ?_
    rintro _ w3 ⟨h, ux, uy, rfl, hok, hho, hux, huy, b3⟩
    obtain ⟨A1, k1, rfl, -⟩ := hok.x.at_
    obtain ⟨A2, k2, rfl, -⟩ := hok.y.at_
    unfold hdV
    have b4 := b3.alloc b3.size (.cells #[.int .i64 h.a, .int .i64 h.b, .slice A1 h.x.length k1, .slice A2 h.y.length k2, .int .i64 h.o] 39)
    have hY := Blk.new w3 w3.heap.size rfl #[.int .i64 h.a, .int .i64 h.b, .slice A1 h.x.length k1, .slice A2 h.y.length k2, .int .i64 h.o] 39
    have hok4 := hok.below ((Below.refl w3.heap.size w3).alloc (Nat.le_refl _) (.cells #[.int .i64 h.a, .int .i64 h.b, .slice A1 h.x.length k1, .slice A2 h.y.length k2, .int .i64 h.o] 39))
    have hz3 : (w3.alloc (.cells #[.int .i64 h.a, .int .i64 h.b, .slice A1 h.x.length k1, .slice A2 h.y.length k2, .int .i64 h.o] 39)).heap.size = w3.heap.size + 1 := by simp
    have hs3 := b3.size
    have hT4 := hT2.add b4 (List.range' wc.heap.size (w3.heap.size + 1 - wc.heap.size)) (fun f hf => by rw [List.mem_range'_1] at hf; omega)
    have y0 := hY.cell 0 (x := .int .i64 h.a) rfl
    have y1 := hY.cell 1 (x := .int .i64 h.b) rfl
    have y2 := hY.cell 2 (x := .slice A1 h.x.length k1) rfl
    have y3 := hY.cell 3 (x := .slice A2 h.y.length k2) rfl
    have y4 := hY.cell 4 (x := .int .i64 h.o) rfl
    have bB4 := bB2.trans (b4.mono hT2.lo)
    have hbda := hd2.a
    have hbdf := hd2.f
    have hbdt := hd2.t
    have hTk := Lib.hid (two_take1 h hT4 hok4 (by omega) (by omega) (by omega))
    unfold hdV at hTk
    have hYm : w3.heap.size ∈ List.range' wc.heap.size (w3.heap.size + 1 - wc.heap.size) ++ ([w.heap.size] ++ []) := List.mem_append_left _ (by rw [List.mem_range'_1]; omega)
    have hxm : h.x ≠ [] → ∀ j, (Value.slice A1 h.x.length k1).ownBlock = some j → j ∈ List.range' wc.heap.size (w3.heap.size + 1 - wc.heap.size) ++ ([w.heap.size] ++ []) ∨ j < B := fun h0 j e => (hux h0 j e).imp (fun q => List.mem_append_left _ (by rw [List.mem_range'_1]; omega)) id
    have hym : h.y ≠ [] → ∀ j, (Value.slice A2 h.y.length k2).ownBlock = some j → j ∈ List.range' wc.heap.size (w3.heap.size + 1 - wc.heap.size) ++ ([w.heap.size] ++ []) ∨ j < B := fun h0 j e => (huy h0 j e).imp (fun q => List.mem_append_left _ (by rw [List.mem_range'_1]; omega)) id
    clear hHe hT2 hqB hux huy b3 b4 c0 c1 c2 c3 c4 c5 c6 c7 c8 c9 hok
    go_wp2_with fail
    generalize w3.alloc (.cells #[.int .i64 h.a, .int .i64 h.b, .slice A1 h.x.length k1, .slice A2 h.y.length k2, .int .i64 h.o] 39) = w4 at *
    refine hTk.out.mono ?_
    rintro _ w5 ⟨rfl, hT5, bw5⟩
    have hY5 := bw5.blk hYm hY
    have hok5 : HOk w5 h (.slice A1 h.x.length k1) (.slice A2 h.y.length k2) := ⟨bw_sees bw5 hok4.x hxm, hok4.bx, bw_sees bw5 hok4.y hym, hok4.by_, hok4.o⟩
    have hTk2 := Lib.hid (two_take2 h hT5 hok5 (by omega) (by omega) (by omega))
    unfold hdV at hTk2
    clear hTk y0 y1 y2 y3 y4 hT4 hok4 hok5 hY
    have y0 := hY5.cell 0 (x := .int .i64 h.a) rfl
    have y1 := hY5.cell 1 (x := .int .i64 h.b) rfl
    have y2 := hY5.cell 2 (x := .slice A1 h.x.length k1) rfl
    have y3 := hY5.cell 3 (x := .slice A2 h.y.length k2) rfl
    have y4 := hY5.cell 4 (x := .int .i64 h.o) rfl
    have hjs := hT5.nj2
    go_wp2_with fail
    refine hTk2.out.mono ?_
    rintro _ w6 ⟨rfl, hT6, bw6⟩
    have hTf := Lib.hid (show Two B [] anyB w6 g1 g2 (m.sendS.take h) (m.sendS.take h) from (hT6.less).less)
    have hbf := Lib.hid ((bB4.trans bw5.b).trans bw6.b)
    have hfin := hd2.take h hjs hho
    clear hTk2 hT5 hT6 bw5 bw6 y0 y1 y2 y3 y4 hY5
    go_wp2
    go_ret
    exact ⟨rfl, ⟨_, hTf.out, hfin⟩, hbf.out⟩
end Go.Proofs.YtpdenmcacaajkaaGreat

/-! ### NpF -/
namespace Go.Proofs.YtpdenmcacaajkaaGreat
open Go.RowKit
theorem do_np (B : Nat) (g1 g2 : Nat) (m : NM) (k : Nat) (a : Aq) (vd vx vy : Value) (w : World) (h : Two B [] anyB w g1 g2 m m) (hd : Bd m k) (hk : k ≤ 200) (hq : AqOk w a vd vx vy) (hqB : SeesL w B vd a.d ∧ SeesL w B vx a.h.x ∧ SeesL w B vy a.h.y) (h50 : a.d.length ≤ 50) : DoC B g1 g2 k a vd vx vy w := by
  by_cases h1 : a.k = 1
  · exact do_on B g1 g2 m k a vd vx vy w h hd hq hqB.1 h50 h1
  by_cases h2 : a.k = 2
  · exact do_off B g1 g2 m k a vd vx vy w h hd hq hqB.1 h50 h2
  by_cases h3 : a.k = 3
  · exact do_write B g1 g2 m k a vd vx vy w h hd hq hqB.1 h50 h3
  by_cases h4 : a.k = 4
  · exact do_ack B g1 g2 m k a vd vx vy w h hd hq hqB.1 h50 h4
  exact do_slot B g1 g2 m k a vd vx vy w h hd hk hq hqB ⟨h1, h2, h3, h4⟩
/-- An act within bounds. -/
structure MayQ (a : Aq) : Prop where
  d : a.d.length ≤ 50
  x : a.h.x.length ≤ 60
  y : a.h.y.length ≤ 60
  lo : -1073741824 ≤ a.h.o
  hi : a.h.o ≤ 1073741824
def MayE (a : Aq) (e : Ending) : Prop := ∃ b : Bool, e = .returned (.bool b) ∧ (b = true → MayQ a)
set_option maxRecDepth 100000 in
set_option maxHeartbeats 4000000 in
theorem may_np (a : Aq) (vd vx vy : Value) (w : World) (hd : SeesL w w.heap.size vd a.d) (hx : SeesL w w.heap.size vx a.h.x) (hy : SeesL w w.heap.size vy a.h.y) :
    Calls Tryz.prog 9 #[aqV a vd vx vy] w fun e w' => MayE a e ∧ Below w.heap.size w w' := by
  have hb0 := fun o => (Below.refl w.heap.size w).alloc (Nat.le_refl _) o
  obtain ⟨Ad, cd, rfl, d1, d2, -, -⟩ := hd.at_
  obtain ⟨Ax, cx, rfl, x1, x2, -, -⟩ := hx.at_
  obtain ⟨Ay, cy, rfl, y1, y2, -, -⟩ := hy.at_
  clear hd hx hy
  unfold maxLen at d2 x2 y2
  obtain ⟨ak, an, ad, ⟨ha, hb, lx, ly, ho⟩, af, au⟩ := a
  unfold aqV
  simp only at *
  by_cases c0 : 50 < ad.length
  · have q0 : decide (((ad.length : Nat) : Int) ≤ (50 : Int)) = false := decide_eq_false (by omega)
    go_enter Tryz.func9, Tryz.ntmps9
    go_wp2
    go_ret
    exact ⟨⟨false, rfl, fun h => Bool.noConfusion h⟩, hb0 _⟩
  have q0 : decide (((ad.length : Nat) : Int) ≤ (50 : Int)) = true := decide_eq_true (by omega)
  by_cases c1 : 60 < lx.length
  · have q1 : decide (((lx.length : Nat) : Int) ≤ (60 : Int)) = false := decide_eq_false (by omega)
    go_enter Tryz.func9, Tryz.ntmps9
    go_wp2
    go_ret
    exact ⟨⟨false, rfl, fun h => Bool.noConfusion h⟩, hb0 _⟩
  have q1 : decide (((lx.length : Nat) : Int) ≤ (60 : Int)) = true := decide_eq_true (by omega)
  by_cases c2 : 60 < ly.length
  · have q2 : decide (((ly.length : Nat) : Int) ≤ (60 : Int)) = false := decide_eq_false (by omega)
    go_enter Tryz.func9, Tryz.ntmps9
    go_wp2
    go_ret
    exact ⟨⟨false, rfl, fun h => Bool.noConfusion h⟩, hb0 _⟩
  have q2 : decide (((ly.length : Nat) : Int) ≤ (60 : Int)) = true := decide_eq_true (by omega)
  by_cases c4 : ho < -1073741824
  · have q4 : decide (-1073741824 ≤ ho) = false := decide_eq_false (by omega)
    go_enter Tryz.func9, Tryz.ntmps9
    go_wp2
    go_ret
    exact ⟨⟨false, rfl, fun h => Bool.noConfusion h⟩, hb0 _⟩
  have q4 : decide (-1073741824 ≤ ho) = true := decide_eq_true (by omega)
  by_cases c5 : 1073741824 < ho
  · have q5 : decide (ho ≤ 1073741824) = false := decide_eq_false (by omega)
    go_enter Tryz.func9, Tryz.ntmps9
    go_wp2
    go_ret
    exact ⟨⟨false, rfl, fun h => Bool.noConfusion h⟩, hb0 _⟩
  have q5 : decide (ho ≤ 1073741824) = true := decide_eq_true (by omega)
  go_enter Tryz.func9, Tryz.ntmps9
  go_wp2
  go_ret
  exact ⟨⟨true, rfl, fun _ => ⟨by simp only; omega, by simp only; omega, by simp only; omega, by simp only; omega, by simp only; omega⟩⟩, hb0 _⟩
end Go.Proofs.YtpdenmcacaajkaaGreat

/-! ### NpS -/
namespace Go.Proofs.YtpdenmcacaajkaaGreat
open Go.RowKit
def rlQ : List R4 := [⟨1, 10, 90, 1⟩, ⟨2, 0, 200, 0⟩]
theorem rlQ_may : rlQ.length ≤ 8 ∧ ∀ k, k < rlQ.length → (rlQ.getD k default).may := ⟨by decide, by decide⟩
set_option maxRecDepth 100000 in
set_option maxHeartbeats 2000000 in
theorem rules_np (w : World) :
    Calls Tryz.prog 7 #[] w fun e w' => ∃ v, e = .returned v ∧ SeesRs w' w'.heap.size v rlQ ∧ (∀ k, v.ownBlock = some k → w.heap.size ≤ k) ∧ Below w.heap.size w w' := by
  go_enter Tryz.func7, Tryz.ntmps7
  go_wp2
  go_ret
  refine ⟨_, rfl, ⟨_, 2, rfl, by decide, by unfold maxLen; omega, fun _ => ⟨w.heap.size, 0, rfl, by simp, fun k hk => ?_⟩, fun h => by cases h⟩, fun k e => ?_, (Below.refl w.heap.size w).alloc (Nat.le_refl _) _⟩
  · have hk : k < 2 := hk
    rcases (by omega : k = 0 ∨ k = 1) with rfl | rfl <;> exact ⟨by rw [World.cell?_alloc_at _ _ _ _ rfl]; rfl, by rw [World.cell?_alloc_at _ _ _ _ rfl]; rfl, by rw [World.cell?_alloc_at _ _ _ _ rfl]; rfl, by rw [World.cell?_alloc_at _ _ _ _ rfl]; rfl⟩
  · have : w.heap.size = k := by simpa [Value.ownBlock] using e
    omega
theorem two_start {B : Nat} {F1 : List Nat} {w1 w2 : World} {g1 g2 : Nat} {m : NM} (h1 : NAt F1 w1 g1 m) (hF : ∀ f, f ∈ F1 → B ≤ f) (hB : B ≤ w1.heap.size) (b : Below w1.heap.size w1 w2) (h2 : RS false (fun k => w1.heap.size ≤ k) w2 g2 m) : Two B [] anyB w2 g1 g2 m m := by
  have hs := b.size
  have hlt := h1.lt
  have h1' := h1.keep hs fun f hf => b.block f (h1.lt f hf)
  obtain ⟨b1, -, hi⟩ := h1'.a
  obtain ⟨x, hx⟩ := h2
  have hc := hx.cut (G' := fun k => k ∈ List.range' w1.heap.size (w2.heap.size - w1.heap.size)) fun k hk hl => List.mem_range'_1.2 ⟨hk, by omega⟩
  refine ⟨⟨F1, List.range' w1.heap.size (w2.heap.size - w1.heap.size), h1', ⟨⟨false, x, trivial, hc⟩, hi.j⟩, fun f hf => ⟨hF f hf, List.not_mem_nil⟩, fun f hf => ?_, fun f hf hm => ?_⟩, Nat.le_trans hB hs, fun p hp => absurd hp List.not_mem_nil⟩
  · obtain ⟨h3, h4⟩ := List.mem_range'_1.1 hf
    exact ⟨by omega, List.not_mem_nil, by omega⟩
  · have h3 := (List.mem_range'_1.1 hm).1
    have h4 := hlt f hf
    omega
theorem bd_start (t : Tb.T) (i : Nat) (dr : Int) (l : List R4) : Bd (NM.new t i dr l) 0 := ⟨Nat.le_refl _, Nat.le_refl _, by show -(2147483648 * (((0 : Nat) : Int) + 1)) ≤ (0 : Int) ∧ (0 : Int) ≤ 2147483648 * (((0 : Nat) : Int) + 1); omega⟩
/-- An act out of memory. -/
theorem SeesAq.act {w : World} {A : Option Addr} {c : Nat} {l : List Aq} (h : SeesAq w w.heap.size (.slice A l.length c) l) (k : Nat) (hk : k < l.length) :
    ∃ b off vd vx vy, A = some ⟨b, off, none⟩ ∧ SeesL w w.heap.size vd (l.getD k default).d ∧ SeesL w w.heap.size vx (l.getD k default).h.x ∧ SeesL w w.heap.size vy (l.getD k default).h.y ∧ (l.getD k default).by ∧
      ∀ W, Below w.heap.size w W → W.cell? ⟨b, off + k * 10, none⟩ = some (.int .i64 (l.getD k default).k) ∧ W.cell? ⟨b, off + k * 10 + 1, none⟩ = some (.int .i64 (l.getD k default).n) ∧ W.cell? ⟨b, off + k * 10 + 2, none⟩ = some vd ∧ W.cell? ⟨b, off + k * 10 + 3, none⟩ = some (.int .i64 (l.getD k default).h.a) ∧ W.cell? ⟨b, off + k * 10 + 4, none⟩ = some (.int .i64 (l.getD k default).h.b) ∧ W.cell? ⟨b, off + k * 10 + 5, none⟩ = some vx ∧ W.cell? ⟨b, off + k * 10 + 6, none⟩ = some vy ∧ W.cell? ⟨b, off + k * 10 + 7, none⟩ = some (.int .i64 (l.getD k default).h.o) ∧ W.cell? ⟨b, off + k * 10 + 8, none⟩ = some (.int .i64 (l.getD k default).f) ∧ W.cell? ⟨b, off + k * 10 + 9, none⟩ = some (.int .i64 (l.getD k default).u) := by
  obtain ⟨A', c', e, -, -, h3⟩ := h.at_
  cases e
  obtain ⟨b, off, rfl, hb, hc⟩ := h3 (by omega)
  obtain ⟨p0, p1, ⟨vd, p2, s2⟩, p3, p4, ⟨vx, p5, s5⟩, ⟨vy, p6, s6⟩, p7, p8, p9⟩ := hc k hk
  refine ⟨b, off, vd, vx, vy, rfl, s2, s5, s6, h.by_ _ (aqAt l k hk), fun W hW => ?_⟩
  have e : ∀ o v, w.cell? ⟨b, o, none⟩ = some v → W.cell? ⟨b, o, none⟩ = some v := fun o v q => (hW.cell (p := ⟨b, o, none⟩) hb).trans q
  exact ⟨e _ _ p0, e _ _ p1, e _ _ p2, e _ _ p3, e _ _ p4, e _ _ p5, e _ _ p6, e _ _ p7, e _ _ p8, e _ _ p9⟩
end Go.Proofs.YtpdenmcacaajkaaGreat

/-! ### StA -/
namespace Go.Proofs.YtpdenmcacaajkaaGreat
open Go.RowKit

end Go.Proofs.YtpdenmcacaajkaaGreat

/-! ### StL -/
namespace Go.Proofs.YtpdenmcacaajkaaGreat
open Go.RowKit

section
variable {F : List Nat} {g : Nat} {s : MS} {W : World} {v : Value} {l : List Int} {B : Nat}
end

theorem same1 {u v : Value} {l : List Int} {a : Int} {x : Bool} {B C : Nat} {w : World} (hu : SeesL w B u l) (hv : SeesL w C v l) (hl : bytesL l) :
    Calls Tryz.prog 42 #[.agg #[u, .int .i64 a, .bool x], .agg #[v, .int .i64 a, .bool x]] w fun e w' => e = .returned (.bool true) ∧ Below w.heap.size w w' := by
  have := same_rf u v l l a a x x B C w hu hv hl hl
  simpa using this
theorem OwnsL.only {W W' : World} {B g : Nat} {v : Value} {l : List Int} (h : OwnsL W B v l) (k : Only g W W') (hne : v.ownBlock ≠ some g) : OwnsL W' B v l :=
  World.ownsRow.kept (row := some g) h k (.inr hne)
/-- A list with something in it lies in a block of its own. -/
theorem OwnsL.blk {W : World} {B : Nat} {v : Value} {l : List Int} (h : OwnsL W B v l) (hl : l ≠ []) : ∃ b c, v = .slice (some ⟨b, 0, none⟩) l.length c ∧ B ≤ b ∧ b < W.heap.size ∧ l.length ≤ c ∧ c ≤ maxLen ∧ W.cell? ⟨b, 0, none⟩ = some (.int .u8 (l.getD 0 0)) ∧ W.frozen? ⟨b, 0, none⟩ = false := by
  have h0 := List.length_pos_iff.2 hl
  rcases h.2 with ⟨-, e⟩ | ⟨b, c, cur, rfl, hb, hg, hn, hc, -, -⟩
  · rw [e] at h0
    exact absurd h0 (Nat.lt_irrefl _)
  · refine ⟨b, c, rfl, hb, (Array.getElem?_eq_some_iff.1 hg).1, hn, hc, ?_, Owns.frozen h 0⟩
    exact Owns.cell h h0
end Go.Proofs.YtpdenmcacaajkaaGreat

/-! ### NpK -/
namespace Go.Proofs.YtpdenmcacaajkaaGreat
open Go.RowKit
set_option maxRecDepth 100000 in
set_option maxHeartbeats 4000000 in
theorem alike_np (B : Nat) (P : List Nat) (q : Bool → Prop) (g1 g2 : Nat) (m : NM) (w : World) (h : Two B P q w g1 g2 m m) :
    Calls Tryz.prog 11 #[.pointer (some ⟨g1, 0, none⟩), .pointer (some ⟨g2, 0, none⟩)] w fun e w' => e = .returned (.bool true) ∧ Below w.heap.size w w' := by
  obtain ⟨F1, F2, h1, h2, -, h4, -⟩ := h.ex
  have K1 := fun W (hW : Below w.heap.size w W) => h1.keep hW.size fun f hf => hW.block f (h1.lt f hf)
  have K2 := fun W (hW : Below w.heap.size w W) => h2.keep hW.size fun f hf => hW.block f (h4 f hf).2.2
  have HSt := fun W hW => Lib.hid (nodeApi.state (K1 W hW))
  have HVw := fun W hW => Lib.hid (show Calls Tryz.prog 39 #[.pointer (some ⟨g1, 0, none⟩)] W fun e w' => e = .returned (.agg #[.int .i64 m.rd, .int .i64 (m.sl : Nat), .int .i64 (m.ty.m : Nat)]) ∧ Below W.heap.size W w' from nodeApi.view (K1 W hW))
  have HCl := fun W hW => Lib.hid (nodeApi.clock (K1 W hW))
  have HV2 := fun W hW => Lib.hid (show Calls Tryz.prog 40 #[.pointer (some ⟨g2, 0, none⟩)] W fun e w' => e = .returned (.agg #[.int .i64 m.rd, .int .i64 (m.sl : Nat), .int .i64 (m.ty.m : Nat)]) ∧ Below W.heap.size W w' from rn_view (K2 W hW))
  have HRd := fun n W hW => Lib.hid (nodeMore.read n (K1 W hW))
  have HRi := fun n W hW => Lib.hid (nodeMore.rings n (K1 W hW))
  obtain ⟨gs, ga, ⟨c13, c14⟩, hGet, hRing⟩ := rn_parts h2
  have HGt := fun n W hW => Lib.hid (hGet W hW n)
  have HR2 := fun n W hW => Lib.hid (hRing W hW n)
  have hgl := h2.lt
  obtain ⟨c6, c10⟩ := rn_cells h2
  have HS : ∀ W, Below w.heap.size w W → (W.cell? ⟨g2, 6, none⟩ = some (.int .i64 (m.st : Nat)) ∧ W.cell? ⟨g2, 10, none⟩ = some (.int .i64 m.tm)) := fun W hW => ⟨(hW.cell (p := ⟨g2, 6, none⟩) hgl).trans c6, (hW.cell (p := ⟨g2, 10, none⟩) hgl).trans c10⟩
  have HT := Lib.hid (fun W (hW : Below w.heap.size w W) => (show W.cell? ⟨g2, 13, none⟩ = some (.pointer (some ⟨gs, 0, none⟩)) ∧ W.cell? ⟨g2, 14, none⟩ = some (.pointer (some ⟨ga, 0, none⟩)) from ⟨(hW.cell (p := ⟨g2, 13, none⟩) hgl).trans c13, (hW.cell (p := ⟨g2, 14, none⟩) hgl).trans c14⟩))
  have b0 := (Below.refl w.heap.size w).drew
  have S0 := Lib.hid (HS _ b0)
  have HH := Lib.hid HS
  have e1 : (((m.st : Nat) : Int) != ((m.st : Nat) : Int)) = false := by simp
  have e2 : (m.tm != m.tm) = false := by simp
  clear K1 K2 h1 h2 h4 h hGet hRing c13 c14 c6 c10 HS
  go_enter Tryz.func11, Tryz.ntmps11
  go_wp2_with fail
  go_region_held3 (fun W => W.cell? ⟨g2, 6, none⟩ = some (.int .i64 (m.st : Nat)) ∧ W.cell? ⟨g2, 10, none⟩ = some (.int .i64 m.tm)) ((first | exact S0.out | exact S1.out | exact S2.out | exact S3.out | exact S4.out))
    (first
      | (go_at_call 38; refine (HSt _ b0).out.mono ?_; rintro _ w1 ⟨rfl, d1⟩; (have b1 := b0.trans (d1.mono b0.size)); (have S1 := Lib.hid (HH.out w1 b1)))
      | (go_at_call 39; refine (HVw _ b1).out.mono ?_; rintro _ w2 ⟨rfl, d2⟩; (have b2 := b1.trans (d2.mono b1.size)); (have S2 := Lib.hid (HH.out w2 b2)))
      | (go_at_call 40; refine (HV2 _ b2).out.mono ?_; rintro _ w3 ⟨rfl, d3⟩; (have b3 := b2.trans (d3.mono b2.size)); (have S3 := Lib.hid (HH.out w3 b3)))
      | (go_at_call 41; refine (HCl _ b3).out.mono ?_; rintro _ w4 ⟨rfl, d4⟩; (have b4 := b3.trans (d4.mono b3.size)); (have S4 := Lib.hid (HH.out w4 b4)))
      | fail)
  have hb4 := Lib.hid b4
  clear S0 S1 S2 S3 S4 b0 b1 b2 b3 b4 d1 d2 d3 d4 HSt HVw HCl HV2 HH e1 e2
  go_wp2_with fail
  go_loopw [5] (fun i wr => ∃ k : Nat, k ≤ 8 ∧ i = .int .i64 k ∧ Below w.heap.size w wr) (fun i _ => 8 - (intOf i).toNat)
  case atStart => exact ⟨0, by omega, rfl, hb4.out⟩
  case round =>
    clear hb4
    obtain ⟨k, hk8, rfl, b⟩ := hrel
    by_cases hlt : k < 8
    · have r1 : decide ((k : Int) < 8) = true := decide_eq_true (by omega)
      have b0 := b.drew
      have S0 := Lib.hid (HT.out _ b0)
      have hRd := fun W hW => HRd (k : Nat) W hW
      have hGt := fun W hW => HGt (k : Nat) W hW
      have hRi := fun W hW => HRi (k : Nat) W hW
      have hR2 := fun W hW => HR2 (k : Nat) W hW
      obtain ⟨rv, hrv⟩ : ∃ rv : Int, ((if isR m.al (k : Nat) then m.ar ((k : Nat) : Int).toNat else 0 : Nat) : Int) = rv := ⟨_, rfl⟩
      rw [hrv] at hRi hR2
      obtain ⟨da, hda⟩ : ∃ da, m.so.gd (k : Nat) = da := ⟨_, rfl⟩
      rw [hda] at hRd hGt
      generalize m.so.ga (k : Nat) = aa at *
      generalize m.so.gg (k : Nat) = gg at *
      clear hrv hda HRd HGt HRi HR2
      have e3 : (rv != rv) = false := by simp
      go_wp2_with fail
      go_region_held3 (fun W => W.cell? ⟨g2, 13, none⟩ = some (.pointer (some ⟨gs, 0, none⟩)) ∧ W.cell? ⟨g2, 14, none⟩ = some (.pointer (some ⟨ga, 0, none⟩))) ((first | exact S0.out | exact S1.out | exact S2.out | exact S3.out | exact S4.out | exact S5.out))
        (first
          | (go_at_call 43; refine (hRd _ b0).out.mono ?_; rintro _ w1 ⟨v1, rfl, hv1, hbl, d1⟩; (have b1 := b0.trans (d1.mono b0.size)); (have S1 := Lib.hid (HT.out w1 b1)))
          | (go_at_call 44; refine (hGt _ b1).out.mono ?_; rintro _ w2 ⟨v2, rfl, hv2, d2⟩; (have b2 := b1.trans (d2.mono b1.size)); (have S2 := Lib.hid (HT.out w2 b2)))
          | (go_at_call 42; refine (same1 (hv1.below d2) hv2 hbl).mono ?_; rintro _ w3 ⟨rfl, d3⟩; (have b3 := b2.trans (d3.mono b2.size)); (have S3 := Lib.hid (HT.out w3 b3)))
          | (go_at_call 45; refine (hRi _ b3).out.mono ?_; rintro _ w4 ⟨rfl, d4⟩; (have b4 := b3.trans (d4.mono b3.size)); (have S4 := Lib.hid (HT.out w4 b4)))
          | (go_at_call 46; refine (hR2 _ b4).out.mono ?_; rintro _ _ ⟨rfl, rfl⟩)
          | fail)
      have hb := Lib.hid b4
      clear S0 S1 S2 S3 S4 b0 b1 b2 b3 b4 d1 d2 d3 d4 hv1 hv2
      go_wp2
      go_roundw
      case rel => exact ⟨k + 1, by omega, by go_num, hb.out⟩
      case measure => simp [intOf]; omega
    · obtain rfl : k = 8 := by omega
      go_wp2
      go_ret
      exact ⟨rfl, b⟩
end Go.Proofs.YtpdenmcacaajkaaGreat

/-! ### NpBase2 -/
