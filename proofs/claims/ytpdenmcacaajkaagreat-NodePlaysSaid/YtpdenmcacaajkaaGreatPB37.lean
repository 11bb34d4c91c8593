/- Texts RaO in one. For what each says in front of its theorems. -/
import Derived.BigRegion
import Derived.Deep.CutRange
import Derived.Deep.RegionHeld3
import Derived.Test.YtpdenmcacaajkaaGreatPB7
import Derived.Test.YtpdenmcacaajkaaGreatPB30
import Derived.Test.YtpdenmcacaajkaaGreatPB33
import Derived.Test.YtpdenmcacaajkaaGreatPB35
import Derived.Test.YtpdenmcacaajkaaGreatPB36
/-! ### RaO -/
namespace Go.Proofs.YtpdenmcacaajkaaGreat
open Go.RowKit
open Clk (avg)
def OnC (b : Bool) (G : Nat → Prop) (g : Nat) (_m m' : NM) (w : World) : Prop := Calls Tryz.prog 84 #[.pointer (some ⟨g, 0, none⟩)] w fun e w' => e = .returned (.tuple #[]) ∧ RS b G w' g m' ∧ KG G w w'
set_option maxRecDepth 100000 in
set_option maxHeartbeats 4000000 in
theorem on_far (b : Bool) (G : Nat → Prop) (g : Nat) (m : NM) (x : RX) (w : World) (h : RA b G w g m x) (_hG : GN G w) (hN : NG m) (hk : nxS m.t.ns.length m.sl ≠ 0) : OnC b G g m m.nxt w := by
  unfold OnC
  obtain ⟨hE, ⟨n4, n8⟩, hsl, hrd⟩ := hN
  obtain ⟨A, c, c0, -⟩ := h.c0
  obtain ⟨N, hNe⟩ : ∃ N, m.t.ns.length = N := ⟨_, rfl⟩
  rw [hNe] at n4 n8 hsl c0 hk
  have hg := h.G_
  have HV := fun W (hW : Below w.heap.size w W) => Lib.hid (show Calls Tryz.prog 40 #[.pointer (some ⟨g, 0, none⟩)] W fun e w' => e = .returned (.agg #[.int .i64 m.rd, .int .i64 (m.sl : Nat), .int .i64 (m.ty.m : Nat)]) ∧ Below W.heap.size W w' from view_ra b G g m x W (h.below hW))
  have HX := fun W => Lib.hid (show Calls Tryz.prog 132 #[.agg #[.slice A N c, .int .i64 m.t.dr, .int .i64 m.t.wi, .int .i64 m.t.lm], .agg #[.int .i64 m.rd, .int .i64 (m.sl : Nat), .int .i64 (m.ty.m : Nat)]] W fun e w' => e = .returned (.agg #[.int .i64 (nxR N m.rd m.sl), .int .i64 (nxS N m.sl), .int .i64 (m.ty.m : Nat)]) ∧ Below W.heap.size W w' from next_rf A N c m.t.dr m.t.wi m.t.lm m.rd (m.sl : Nat) (m.ty.m : Nat) W (by omega) (by omega) hrd)
  have HS : ∀ W, Below w.heap.size w W → (W.cell? ⟨g, 0, none⟩ = some (.slice A N c) ∧ W.cell? ⟨g, 1, none⟩ = some (.int .i64 m.t.dr) ∧ W.cell? ⟨g, 2, none⟩ = some (.int .i64 m.t.wi) ∧ W.cell? ⟨g, 3, none⟩ = some (.int .i64 m.t.lm)) := fun W hW => by
    have h' := h.below hW
    exact ⟨(hW.cell (p := ⟨g, 0, none⟩) h.lt).trans c0, h'.c1, h'.c2, h'.c3⟩
  have hB := fun W (hW : Below w.heap.size w W) => h.below hW
  have hgl := h.lt
  have b0 := (Below.refl w.heap.size w).drew
  have S0 := Lib.hid (HS _ b0)
  have HH := Lib.hid HS
  have hBH := Lib.hid hB
  have hnx : (nxS N m.sl).toNat = nxS N m.sl := by unfold nxS; split <;> omega
  have hmn : m.nxt = { m with rd := nxR N m.rd m.sl, sl := (nxS N m.sl).toNat, se := false } := by unfold NM.nxt; rw [hNe]
  clear HS hB h c0 hsl hrd
  generalize hRn : nxR N m.rd m.sl = Rn at *
  generalize hSn : nxS N m.sl = Sn at *
  clear hRn hSn
  have hK := Lib.hid hk
  clear hk
  go_enter Tryz.func84, Tryz.ntmps84
  go_wp2_with fail
  go_cut [2] from 5 to 11 (fun s2 wx => ∃ a, s2 = .pointer (some ⟨a, 0, none⟩) ∧ Blk wx a #[.int .i64 Rn, .int .i64 Sn, .int .i64 (m.ty.m : Nat)] 101 ∧ Below w.heap.size w wx ∧ w.heap.size ≤ a)
  case first =>
    refine wp_region_held_drew (S := fun W => W.cell? ⟨g, 0, none⟩ = some (.slice A N c) ∧ W.cell? ⟨g, 1, none⟩ = some (.int .i64 m.t.dr) ∧ W.cell? ⟨g, 2, none⟩ = some (.int .i64 m.t.wi) ∧ W.cell? ⟨g, 3, none⟩ = some (.int .i64 m.t.lm)) (by kernel_rfl) S0.out (fun hHeld => ?_)
    refine wpAnyH_take (i := 0) (oi := { dst := some 5, op := _, type := _, pos := _, after := _, guard := none }) (v := ?_) rfl (by kernel_rfl) (by kernel_rfl) (by kernel_rfl) (fun _ _ _ h => h) (Or.inl ⟨by rfl, ?_⟩) (by assumption) ?_
    rotate_left 1
    · (intro wz hSw; go_simp; try with_reducible rfl)
    try simp only [Act.put, List.setIfInBounds_toArray, List.set_cons_zero, List.set_cons_succ]
    refine wpAnyH_take (i := 1) (oi := { dst := some 6, op := _, type := _, pos := _, after := _, guard := none }) (v := ?_) rfl (by kernel_rfl) (by kernel_rfl) (by kernel_rfl) (fun _ _ _ h => h) (Or.inl ⟨by rfl, ?_⟩) (by assumption) ?_
    rotate_left 1
    · (intro wz hSw; go_simp; try with_reducible rfl)
    try simp only [Act.put, List.setIfInBounds_toArray, List.set_cons_zero, List.set_cons_succ]
    refine wpAnyH_take (i := 2) (oi := { dst := some 7, op := _, type := _, pos := _, after := _, guard := none }) (v := ?_) rfl (by kernel_rfl) (by kernel_rfl) (by kernel_rfl) (fun _ _ _ h => h) (Or.inl ⟨by rfl, ?_⟩) (by assumption) ?_
    rotate_left 1
    · (intro wz hSw; go_simp; try with_reducible rfl)
    try simp only [Act.put, List.setIfInBounds_toArray, List.set_cons_zero, List.set_cons_succ]
    refine wpAnyH_take (i := 3) (oi := { dst := some 8, op := _, type := _, pos := _, after := _, guard := none }) (v := ?_) rfl (by kernel_rfl) (by kernel_rfl) (by kernel_rfl) (fun _ _ _ h => h) (Or.inl ⟨by rfl, ?_⟩) (by assumption) ?_
    rotate_left 1
    · (intro wz hSw; go_simp; try with_reducible rfl)
    try simp only [Act.put, List.setIfInBounds_toArray, List.set_cons_zero, List.set_cons_succ]
    refine wpAnyH_take (i := 4) (oi := { dst := some 9, op := _, type := _, pos := _, after := _, guard := none }) (v := ?_) rfl (by kernel_rfl) (by kernel_rfl) (by kernel_rfl) (fun _ _ _ h => h) (Or.inl ⟨by rfl, ?_⟩) (by assumption) ?_
    rotate_left 1
    · (intro wz hSw; go_simp; try with_reducible rfl)
    try simp only [Act.put, List.setIfInBounds_toArray, List.set_cons_zero, List.set_cons_succ]
    refine wpAnyH_ready (rs := [5,7]) (by kernel_rfl) (by simp) ?_
    refine (AllReadyH.cons rfl (fun K hK => ?_) (AllReadyH.cons rfl (fun K hK => ?_) AllReadyH.nil))
    · skip
      go_simp
      refine (HV _ b0).out.mono ?_
      rintro _ w2 ⟨rfl, b2⟩
      have b3 := b0.trans (b2.mono b0.size)
      refine hK.out _ _ (HH.out _ b3) (fun hHeld => ?_)
      clear hK K
      try simp only [Act.put, List.setIfInBounds_toArray, List.set_cons_zero, List.set_cons_succ]
      refine wpAnyH_ready (rs := [6,7]) (by kernel_rfl) (by simp) ?_
      refine (AllReadyH.cons rfl (fun K hK => ?_) (AllReadyH.cons rfl (fun K hK => ?_) AllReadyH.nil))
      · skip
        go_simp
        refine (HX _).out.mono ?_
        rintro _ w4 ⟨rfl, b4⟩
        have b5 := b3.trans (b4.mono b3.size)
        refine hK.out _ _ (HH.out _ b5) (fun hHeld => ?_)
        clear hK K
        try simp only [Act.put, List.setIfInBounds_toArray, List.set_cons_zero, List.set_cons_succ]
        refine wpAnyH_ready (rs := [7]) (by kernel_rfl) (by simp) ?_
        refine (AllReadyH.cons rfl (fun K hK => ?_) AllReadyH.nil)
        go_simp
        have b6 := b5.alloc b5.size (.cells #[.int .i64 0, .int .i64 0, .int .i64 0] 101)
        refine hK.out _ _ (HH.out _ b6) (fun hHeld => ?_)
        clear hK K
        try simp only [Act.put, List.setIfInBounds_toArray, List.set_cons_zero, List.set_cons_succ]
        refine wpAnyH_ready (rs := [8]) (by kernel_rfl) (by simp) ?_
        refine (AllReadyH.cons rfl (fun K hK => ?_) AllReadyH.nil)
        have X := Blk.new w4 w4.heap.size rfl #[.int .i64 0, .int .i64 0, .int .i64 0] 101
        have y0 := X.cell 0 (x := .int .i64 0) rfl
        have y1 := X.cell 1 (x := .int .i64 0) rfl
        have y2 := X.cell 2 (x := .int .i64 0) rfl
        have z0 := X.frozen 0
        have z1 := X.frozen 1
        have z2 := X.frozen 2
        go_simp
        have XF := Blk.new w4 w4.heap.size rfl #[.int .i64 Rn, .int .i64 Sn, .int .i64 (m.ty.m : Nat)] 101
        have bF := b5.alloc b5.size (.cells #[.int .i64 Rn, .int .i64 Sn, .int .i64 (m.ty.m : Nat)] 101)
        have le : w.heap.size ≤ w4.heap.size := b5.size
        refine hK.out _ _ (HH.out _ bF) (fun hHeld => ?_)
        clear hK K y0 y1 y2 z0 z1 z2
        try simp only [Act.put, List.setIfInBounds_toArray, List.set_cons_zero, List.set_cons_succ]
        refine wpAnyH_done (by kernel_rfl) ?_ _
        go_wp2_with fail
        go_meet
        exact ⟨_, rfl, XF, bF, le⟩
      · skip
        go_simp
        have b3x := b3.alloc b3.size (.cells #[.int .i64 0, .int .i64 0, .int .i64 0] 101)
        refine hK.out _ _ (HH.out _ b3x) (fun hHeld => ?_)
        clear hK K
        try simp only [Act.put, List.setIfInBounds_toArray, List.set_cons_zero, List.set_cons_succ]
        refine wpAnyH_ready (rs := [6]) (by kernel_rfl) (by simp) ?_
        refine (AllReadyH.cons rfl (fun K hK => ?_) AllReadyH.nil)
        go_simp
        refine (HX _).out.mono ?_
        rintro _ w4 ⟨rfl, b4⟩
        have b5 := b3x.trans (b4.mono b3x.size)
        refine hK.out _ _ (HH.out _ b5) (fun hHeld => ?_)
        clear hK K
        try simp only [Act.put, List.setIfInBounds_toArray, List.set_cons_zero, List.set_cons_succ]
        refine wpAnyH_ready (rs := [8]) (by kernel_rfl) (by simp) ?_
        refine (AllReadyH.cons rfl (fun K hK => ?_) AllReadyH.nil)
        have X := (Blk.new w2 w2.heap.size rfl #[.int .i64 0, .int .i64 0, .int .i64 0] 101).below b4 (by simp)
        have y0 := X.cell 0 (x := .int .i64 0) rfl
        have y1 := X.cell 1 (x := .int .i64 0) rfl
        have y2 := X.cell 2 (x := .int .i64 0) rfl
        have z0 := X.frozen 0
        have z1 := X.frozen 1
        have z2 := X.frozen 2
        go_simp
        have le : w.heap.size ≤ w2.heap.size := b3.size
        have XF : Blk _ w2.heap.size #[.int .i64 Rn, .int .i64 Sn, .int .i64 (m.ty.m : Nat)] 101 := (((X.set 0 (.int .i64 Rn)).set 1 (.int .i64 Sn)).set 2 (.int .i64 (m.ty.m : Nat))).eq (by simp)
        have bF := ((b5.setCell (p := ⟨w2.heap.size, 0, none⟩) le (.int .i64 Rn)).setCell (p := ⟨w2.heap.size, 1, none⟩) le (.int .i64 Sn)).setCell (p := ⟨w2.heap.size, 2, none⟩) le (.int .i64 (m.ty.m : Nat))
        refine hK.out _ _ (HH.out _ bF) (fun hHeld => ?_)
        clear hK K y0 y1 y2 z0 z1 z2
        try simp only [Act.put, List.setIfInBounds_toArray, List.set_cons_zero, List.set_cons_succ]
        refine wpAnyH_done (by kernel_rfl) ?_ _
        go_wp2_with fail
        go_meet
        exact ⟨_, rfl, XF, bF, le⟩
    · skip
      go_simp
      have b0x := b0.alloc b0.size (.cells #[.int .i64 0, .int .i64 0, .int .i64 0] 101)
      refine hK.out _ _ (HH.out _ b0x) (fun hHeld => ?_)
      clear hK K
      try simp only [Act.put, List.setIfInBounds_toArray, List.set_cons_zero, List.set_cons_succ]
      refine wpAnyH_ready (rs := [5]) (by kernel_rfl) (by simp) ?_
      refine (AllReadyH.cons rfl (fun K hK => ?_) AllReadyH.nil)
      go_simp
      refine (HV _ b0x).out.mono ?_
      rintro _ w2 ⟨rfl, b2⟩
      have b3 := b0x.trans (b2.mono b0x.size)
      refine hK.out _ _ (HH.out _ b3) (fun hHeld => ?_)
      clear hK K
      try simp only [Act.put, List.setIfInBounds_toArray, List.set_cons_zero, List.set_cons_succ]
      refine wpAnyH_ready (rs := [6]) (by kernel_rfl) (by simp) ?_
      refine (AllReadyH.cons rfl (fun K hK => ?_) AllReadyH.nil)
      go_simp
      refine (HX _).out.mono ?_
      rintro _ w4 ⟨rfl, b4⟩
      have b5 := b3.trans (b4.mono b3.size)
      refine hK.out _ _ (HH.out _ b5) (fun hHeld => ?_)
      clear hK K
      try simp only [Act.put, List.setIfInBounds_toArray, List.set_cons_zero, List.set_cons_succ]
      refine wpAnyH_ready (rs := [8]) (by kernel_rfl) (by simp) ?_
      refine (AllReadyH.cons rfl (fun K hK => ?_) AllReadyH.nil)
      have X := ((Blk.new w.drew w.heap.size rfl #[.int .i64 0, .int .i64 0, .int .i64 0] 101).below b2 (by simp)).below b4 (by have := b2.size; simp at this; omega)
      have y0 := X.cell 0 (x := .int .i64 0) rfl
      have y1 := X.cell 1 (x := .int .i64 0) rfl
      have y2 := X.cell 2 (x := .int .i64 0) rfl
      have z0 := X.frozen 0
      have z1 := X.frozen 1
      have z2 := X.frozen 2
      go_simp
      have le : w.heap.size ≤ w.heap.size := Nat.le_refl _
      have XF : Blk _ w.heap.size #[.int .i64 Rn, .int .i64 Sn, .int .i64 (m.ty.m : Nat)] 101 := (((X.set 0 (.int .i64 Rn)).set 1 (.int .i64 Sn)).set 2 (.int .i64 (m.ty.m : Nat))).eq (by simp)
      have bF := ((b5.setCell (p := ⟨w.heap.size, 0, none⟩) le (.int .i64 Rn)).setCell (p := ⟨w.heap.size, 1, none⟩) le (.int .i64 Sn)).setCell (p := ⟨w.heap.size, 2, none⟩) le (.int .i64 (m.ty.m : Nat))
      refine hK.out _ _ (HH.out _ bF) (fun hHeld => ?_)
      clear hK K y0 y1 y2 z0 z1 z2
      try simp only [Act.put, List.setIfInBounds_toArray, List.set_cons_zero, List.set_cons_succ]
      refine wpAnyH_done (by kernel_rfl) ?_ _
      go_wp2_with fail
      go_meet
      exact ⟨_, rfl, XF, bF, le⟩
  case rest =>
    clear S0 HH HV HX
    obtain ⟨a, rfl, hX, b5, hal⟩ := hcut
    have h5 := hBH.out wc b5
    have y0 := hX.cell 0 (x := .int .i64 Rn) rfl
    have y1 := hX.cell 1 (x := .int .i64 Sn) rfl
    have c7 := h5.c7
    have c8 := h5.c8
    have f7 := h5.frozen 7
    have f8 := h5.frozen 8
    have h7 : RA b G ((wc.setCell ⟨g, 7, none⟩ (.int .i64 Rn)).setCell ⟨g, 8, none⟩ (.int .i64 Sn)) g m.nxt x := by
      have := ((h5.sRd Rn).sSl Sn.toNat).se_ false
      rw [hnx] at this
      rw [hmn]
      exact this
    have k7 := Lib.hid ((kg_below (G := G) b5).trans (((((Only.refl g wc).set 7 (.int .i64 Rn)).set 8 (.int .i64 Sn))).kg hg))
    have h7 := Lib.hid h7.drew
    have k7 := Lib.hid (k7.out.trans (kg_below (Below.refl _ _).drew))
    clear h5 hBH hX b5 hmn hnx hNe
    have qs : (Sn != 0) = true := by rw [bne_iff_ne]; exact hK.out
    go_wp2_with fail
    go_region
    all_goals
      go_wp2
      exact bodyPost_ret (v := .tuple #[]) (results_none (by rfl) _ _ _) rfl ⟨rfl, ⟨x, h7.out⟩, k7.out⟩
set_option maxRecDepth 100000 in
set_option maxHeartbeats 4000000 in
theorem on_ok (b : Bool) (G : Nat → Prop) (g : Nat) (m : NM) (x : RX) (w : World) (h : RA b G w g m x) (hG : GN G w) (hN : NG m) (hk : nxS m.t.ns.length m.sl = 0) (hw : wiB m.t.lm (avg m.ck) = true) : OnC b G g m m.nxt.endR w := by
  unfold OnC
  obtain ⟨hE, ⟨n4, n8⟩, hsl, hrd⟩ := hN
  obtain ⟨A, c, c0, -⟩ := h.c0
  obtain ⟨N, hNe⟩ : ∃ N, m.t.ns.length = N := ⟨_, rfl⟩
  rw [hNe] at n4 n8 hsl c0 hk
  have hg := h.G_
  have HV := fun W (hW : Below w.heap.size w W) => Lib.hid (show Calls Tryz.prog 40 #[.pointer (some ⟨g, 0, none⟩)] W fun e w' => e = .returned (.agg #[.int .i64 m.rd, .int .i64 (m.sl : Nat), .int .i64 (m.ty.m : Nat)]) ∧ Below W.heap.size W w' from view_ra b G g m x W (h.below hW))
  have HX := fun W => Lib.hid (show Calls Tryz.prog 132 #[.agg #[.slice A N c, .int .i64 m.t.dr, .int .i64 m.t.wi, .int .i64 m.t.lm], .agg #[.int .i64 m.rd, .int .i64 (m.sl : Nat), .int .i64 (m.ty.m : Nat)]] W fun e w' => e = .returned (.agg #[.int .i64 (nxR N m.rd m.sl), .int .i64 (nxS N m.sl), .int .i64 (m.ty.m : Nat)]) ∧ Below W.heap.size W w' from next_rf A N c m.t.dr m.t.wi m.t.lm m.rd (m.sl : Nat) (m.ty.m : Nat) W (by omega) (by omega) hrd)
  have HS : ∀ W, Below w.heap.size w W → (W.cell? ⟨g, 0, none⟩ = some (.slice A N c) ∧ W.cell? ⟨g, 1, none⟩ = some (.int .i64 m.t.dr) ∧ W.cell? ⟨g, 2, none⟩ = some (.int .i64 m.t.wi) ∧ W.cell? ⟨g, 3, none⟩ = some (.int .i64 m.t.lm)) := fun W hW => by
    have h' := h.below hW
    exact ⟨(hW.cell (p := ⟨g, 0, none⟩) h.lt).trans c0, h'.c1, h'.c2, h'.c3⟩
  have hB := fun W (hW : Below w.heap.size w W) => h.below hW
  have hgl := h.lt
  have b0 := (Below.refl w.heap.size w).drew
  have S0 := Lib.hid (HS _ b0)
  have HH := Lib.hid HS
  have hBH := Lib.hid hB
  have hnx : (nxS N m.sl).toNat = nxS N m.sl := by unfold nxS; split <;> omega
  have hmn : m.nxt = { m with rd := nxR N m.rd m.sl, sl := (nxS N m.sl).toNat, se := false } := by unfold NM.nxt; rw [hNe]
  clear HS hB h c0 hsl hrd
  generalize hRn : nxR N m.rd m.sl = Rn at *
  generalize hSn : nxS N m.sl = Sn at *
  clear hRn hSn
  have hK := Lib.hid hk
  clear hk
  go_enter Tryz.func84, Tryz.ntmps84
  go_wp2_with fail
  go_cut [2] from 5 to 11 (fun s2 wx => ∃ a, s2 = .pointer (some ⟨a, 0, none⟩) ∧ Blk wx a #[.int .i64 Rn, .int .i64 Sn, .int .i64 (m.ty.m : Nat)] 101 ∧ Below w.heap.size w wx ∧ w.heap.size ≤ a)
  case first =>
    refine wp_region_held_drew (S := fun W => W.cell? ⟨g, 0, none⟩ = some (.slice A N c) ∧ W.cell? ⟨g, 1, none⟩ = some (.int .i64 m.t.dr) ∧ W.cell? ⟨g, 2, none⟩ = some (.int .i64 m.t.wi) ∧ W.cell? ⟨g, 3, none⟩ = some (.int .i64 m.t.lm)) (by kernel_rfl) S0.out (fun hHeld => ?_)
    refine wpAnyH_take (i := 0) (oi := { dst := some 5, op := _, type := _, pos := _, after := _, guard := none }) (v := ?_) rfl (by kernel_rfl) (by kernel_rfl) (by kernel_rfl) (fun _ _ _ h => h) (Or.inl ⟨by rfl, ?_⟩) (by assumption) ?_
    rotate_left 1
    · (intro wz hSw; go_simp; try with_reducible rfl)
    try simp only [Act.put, List.setIfInBounds_toArray, List.set_cons_zero, List.set_cons_succ]
    refine wpAnyH_take (i := 1) (oi := { dst := some 6, op := _, type := _, pos := _, after := _, guard := none }) (v := ?_) rfl (by kernel_rfl) (by kernel_rfl) (by kernel_rfl) (fun _ _ _ h => h) (Or.inl ⟨by rfl, ?_⟩) (by assumption) ?_
    rotate_left 1
    · (intro wz hSw; go_simp; try with_reducible rfl)
    try simp only [Act.put, List.setIfInBounds_toArray, List.set_cons_zero, List.set_cons_succ]
    refine wpAnyH_take (i := 2) (oi := { dst := some 7, op := _, type := _, pos := _, after := _, guard := none }) (v := ?_) rfl (by kernel_rfl) (by kernel_rfl) (by kernel_rfl) (fun _ _ _ h => h) (Or.inl ⟨by rfl, ?_⟩) (by assumption) ?_
    rotate_left 1
    · (intro wz hSw; go_simp; try with_reducible rfl)
    try simp only [Act.put, List.setIfInBounds_toArray, List.set_cons_zero, List.set_cons_succ]
    refine wpAnyH_take (i := 3) (oi := { dst := some 8, op := _, type := _, pos := _, after := _, guard := none }) (v := ?_) rfl (by kernel_rfl) (by kernel_rfl) (by kernel_rfl) (fun _ _ _ h => h) (Or.inl ⟨by rfl, ?_⟩) (by assumption) ?_
    rotate_left 1
    · (intro wz hSw; go_simp; try with_reducible rfl)
    try simp only [Act.put, List.setIfInBounds_toArray, List.set_cons_zero, List.set_cons_succ]
    refine wpAnyH_take (i := 4) (oi := { dst := some 9, op := _, type := _, pos := _, after := _, guard := none }) (v := ?_) rfl (by kernel_rfl) (by kernel_rfl) (by kernel_rfl) (fun _ _ _ h => h) (Or.inl ⟨by rfl, ?_⟩) (by assumption) ?_
    rotate_left 1
    · (intro wz hSw; go_simp; try with_reducible rfl)
    try simp only [Act.put, List.setIfInBounds_toArray, List.set_cons_zero, List.set_cons_succ]
    refine wpAnyH_ready (rs := [5,7]) (by kernel_rfl) (by simp) ?_
    refine (AllReadyH.cons rfl (fun K hK => ?_) (AllReadyH.cons rfl (fun K hK => ?_) AllReadyH.nil))
    · skip
      go_simp
      refine (HV _ b0).out.mono ?_
      rintro _ w2 ⟨rfl, b2⟩
      have b3 := b0.trans (b2.mono b0.size)
      refine hK.out _ _ (HH.out _ b3) (fun hHeld => ?_)
      clear hK K
      try simp only [Act.put, List.setIfInBounds_toArray, List.set_cons_zero, List.set_cons_succ]
      refine wpAnyH_ready (rs := [6,7]) (by kernel_rfl) (by simp) ?_
      refine (AllReadyH.cons rfl (fun K hK => ?_) (AllReadyH.cons rfl (fun K hK => ?_) AllReadyH.nil))
      · skip
        go_simp
        refine (HX _).out.mono ?_
        rintro _ w4 ⟨rfl, b4⟩
        have b5 := b3.trans (b4.mono b3.size)
        refine hK.out _ _ (HH.out _ b5) (fun hHeld => ?_)
        clear hK K
        try simp only [Act.put, List.setIfInBounds_toArray, List.set_cons_zero, List.set_cons_succ]
        refine wpAnyH_ready (rs := [7]) (by kernel_rfl) (by simp) ?_
        refine (AllReadyH.cons rfl (fun K hK => ?_) AllReadyH.nil)
        go_simp
        have b6 := b5.alloc b5.size (.cells #[.int .i64 0, .int .i64 0, .int .i64 0] 101)
        refine hK.out _ _ (HH.out _ b6) (fun hHeld => ?_)
        clear hK K
        try simp only [Act.put, List.setIfInBounds_toArray, List.set_cons_zero, List.set_cons_succ]
        refine wpAnyH_ready (rs := [8]) (by kernel_rfl) (by simp) ?_
        refine (AllReadyH.cons rfl (fun K hK => ?_) AllReadyH.nil)
        have X := Blk.new w4 w4.heap.size rfl #[.int .i64 0, .int .i64 0, .int .i64 0] 101
        have y0 := X.cell 0 (x := .int .i64 0) rfl
        have y1 := X.cell 1 (x := .int .i64 0) rfl
        have y2 := X.cell 2 (x := .int .i64 0) rfl
        have z0 := X.frozen 0
        have z1 := X.frozen 1
        have z2 := X.frozen 2
        go_simp
        have XF := Blk.new w4 w4.heap.size rfl #[.int .i64 Rn, .int .i64 Sn, .int .i64 (m.ty.m : Nat)] 101
        have bF := b5.alloc b5.size (.cells #[.int .i64 Rn, .int .i64 Sn, .int .i64 (m.ty.m : Nat)] 101)
        have le : w.heap.size ≤ w4.heap.size := b5.size
        refine hK.out _ _ (HH.out _ bF) (fun hHeld => ?_)
        clear hK K y0 y1 y2 z0 z1 z2
        try simp only [Act.put, List.setIfInBounds_toArray, List.set_cons_zero, List.set_cons_succ]
        refine wpAnyH_done (by kernel_rfl) ?_ _
        go_wp2_with fail
        go_meet
        exact ⟨_, rfl, XF, bF, le⟩
      · skip
        go_simp
        have b3x := b3.alloc b3.size (.cells #[.int .i64 0, .int .i64 0, .int .i64 0] 101)
        refine hK.out _ _ (HH.out _ b3x) (fun hHeld => ?_)
        clear hK K
        try simp only [Act.put, List.setIfInBounds_toArray, List.set_cons_zero, List.set_cons_succ]
        refine wpAnyH_ready (rs := [6]) (by kernel_rfl) (by simp) ?_
        refine (AllReadyH.cons rfl (fun K hK => ?_) AllReadyH.nil)
        go_simp
        refine (HX _).out.mono ?_
        rintro _ w4 ⟨rfl, b4⟩
        have b5 := b3x.trans (b4.mono b3x.size)
        refine hK.out _ _ (HH.out _ b5) (fun hHeld => ?_)
        clear hK K
        try simp only [Act.put, List.setIfInBounds_toArray, List.set_cons_zero, List.set_cons_succ]
        refine wpAnyH_ready (rs := [8]) (by kernel_rfl) (by simp) ?_
        refine (AllReadyH.cons rfl (fun K hK => ?_) AllReadyH.nil)
        have X := (Blk.new w2 w2.heap.size rfl #[.int .i64 0, .int .i64 0, .int .i64 0] 101).below b4 (by simp)
        have y0 := X.cell 0 (x := .int .i64 0) rfl
        have y1 := X.cell 1 (x := .int .i64 0) rfl
        have y2 := X.cell 2 (x := .int .i64 0) rfl
        have z0 := X.frozen 0
        have z1 := X.frozen 1
        have z2 := X.frozen 2
        go_simp
        have le : w.heap.size ≤ w2.heap.size := b3.size
        have XF : Blk _ w2.heap.size #[.int .i64 Rn, .int .i64 Sn, .int .i64 (m.ty.m : Nat)] 101 := (((X.set 0 (.int .i64 Rn)).set 1 (.int .i64 Sn)).set 2 (.int .i64 (m.ty.m : Nat))).eq (by simp)
        have bF := ((b5.setCell (p := ⟨w2.heap.size, 0, none⟩) le (.int .i64 Rn)).setCell (p := ⟨w2.heap.size, 1, none⟩) le (.int .i64 Sn)).setCell (p := ⟨w2.heap.size, 2, none⟩) le (.int .i64 (m.ty.m : Nat))
        refine hK.out _ _ (HH.out _ bF) (fun hHeld => ?_)
        clear hK K y0 y1 y2 z0 z1 z2
        try simp only [Act.put, List.setIfInBounds_toArray, List.set_cons_zero, List.set_cons_succ]
        refine wpAnyH_done (by kernel_rfl) ?_ _
        go_wp2_with fail
        go_meet
        exact ⟨_, rfl, XF, bF, le⟩
    · skip
      go_simp
      have b0x := b0.alloc b0.size (.cells #[.int .i64 0, .int .i64 0, .int .i64 0] 101)
      refine hK.out _ _ (HH.out _ b0x) (fun hHeld => ?_)
      clear hK K
      try simp only [Act.put, List.setIfInBounds_toArray, List.set_cons_zero, List.set_cons_succ]
      refine wpAnyH_ready (rs := [5]) (by kernel_rfl) (by simp) ?_
      refine (AllReadyH.cons rfl (fun K hK => ?_) AllReadyH.nil)
      go_simp
      refine (HV _ b0x).out.mono ?_
      rintro _ w2 ⟨rfl, b2⟩
      have b3 := b0x.trans (b2.mono b0x.size)
      refine hK.out _ _ (HH.out _ b3) (fun hHeld => ?_)
      clear hK K
      try simp only [Act.put, List.setIfInBounds_toArray, List.set_cons_zero, List.set_cons_succ]
      refine wpAnyH_ready (rs := [6]) (by kernel_rfl) (by simp) ?_
      refine (AllReadyH.cons rfl (fun K hK => ?_) AllReadyH.nil)
      go_simp
      refine (HX _).out.mono ?_
      rintro _ w4 ⟨rfl, b4⟩
      have b5 := b3.trans (b4.mono b3.size)
      refine hK.out _ _ (HH.out _ b5) (fun hHeld => ?_)
      clear hK K
      try simp only [Act.put, List.setIfInBounds_toArray, List.set_cons_zero, List.set_cons_succ]
      refine wpAnyH_ready (rs := [8]) (by kernel_rfl) (by simp) ?_
      refine (AllReadyH.cons rfl (fun K hK => ?_) AllReadyH.nil)
      have X := ((Blk.new w.drew w.heap.size rfl #[.int .i64 0, .int .i64 0, .int .i64 0] 101).below b2 (by simp)).below b4 (by have := b2.size; simp at this; omega)
      have y0 := X.cell 0 (x := .int .i64 0) rfl
      have y1 := X.cell 1 (x := .int .i64 0) rfl
      have y2 := X.cell 2 (x := .int .i64 0) rfl
      have z0 := X.frozen 0
      have z1 := X.frozen 1
      have z2 := X.frozen 2
      go_simp
      have le : w.heap.size ≤ w.heap.size := Nat.le_refl _
      have XF : Blk _ w.heap.size #[.int .i64 Rn, .int .i64 Sn, .int .i64 (m.ty.m : Nat)] 101 := (((X.set 0 (.int .i64 Rn)).set 1 (.int .i64 Sn)).set 2 (.int .i64 (m.ty.m : Nat))).eq (by simp)
      have bF := ((b5.setCell (p := ⟨w.heap.size, 0, none⟩) le (.int .i64 Rn)).setCell (p := ⟨w.heap.size, 1, none⟩) le (.int .i64 Sn)).setCell (p := ⟨w.heap.size, 2, none⟩) le (.int .i64 (m.ty.m : Nat))
      refine hK.out _ _ (HH.out _ bF) (fun hHeld => ?_)
      clear hK K y0 y1 y2 z0 z1 z2
      try simp only [Act.put, List.setIfInBounds_toArray, List.set_cons_zero, List.set_cons_succ]
      refine wpAnyH_done (by kernel_rfl) ?_ _
      go_wp2_with fail
      go_meet
      exact ⟨_, rfl, XF, bF, le⟩
  case rest =>
    clear S0 HH HV HX
    obtain ⟨a, rfl, hX, b5, hal⟩ := hcut
    have hk := hK.out
    have hsl0 : m.nxt.sl = 0 := by rw [hmn]; show Sn.toNat = 0; rw [hk]; rfl
    have htl : m.nxt.t.lm = m.t.lm := rfl
    have hck : small m.nxt.ck := hE.ck
    obtain ⟨hl1, hl2⟩ := hE.lm
    obtain ⟨ht1, ht2⟩ := hE.tm
    obtain ⟨hd1, hd2⟩ := hE.dr
    have hfin := Lib.hid (show m.nxt.endR = { ({ m.nxt with tm := m.nxt.tm + termV m.nxt.t.lm m.nxt.ck + m.nxt.dr } : NM) with ck := [], so := m.nxt.so.age, an := nowM m.nxt.al m.nxt.so.age, ar := fun i => m.nxt.ar i ||| nowM m.nxt.al m.nxt.so.age i } from by
      unfold NM.endR
      rw [if_pos (show wiB m.nxt.t.lm (avg m.nxt.ck) = true from hw)])
    have hwb : wiB m.nxt.t.lm (avg m.nxt.ck) = true := hw
    have ht1' : -4611687117939015680 ≤ m.nxt.tm := ht1
    have ht2' : m.nxt.tm ≤ 4611687117939015680 := ht2
    have hd1' : -1000 ≤ m.nxt.dr := hd1
    have hd2' : m.nxt.dr ≤ 1000 := hd2
    have hb := termV_in m.nxt.t.lm m.nxt.ck hl1
    have hb1 : -1000 ≤ termV m.nxt.t.lm m.nxt.ck := by rw [htl] at *; omega
    have hb2 : termV m.nxt.t.lm m.nxt.ck ≤ 1000 := by rw [htl] at *; omega
    clear hb hw hk
    have h5 := hBH.out wc b5
    have y0 := hX.cell 0 (x := .int .i64 Rn) rfl
    have y1 := hX.cell 1 (x := .int .i64 Sn) rfl
    have c7 := h5.c7
    have c8 := h5.c8
    have f7 := h5.frozen 7
    have f8 := h5.frozen 8
    have h7 : RA b G ((wc.setCell ⟨g, 7, none⟩ (.int .i64 Rn)).setCell ⟨g, 8, none⟩ (.int .i64 Sn)) g m.nxt x := by
      have := ((h5.sRd Rn).sSl Sn.toNat).se_ false
      rw [hnx] at this
      rw [hmn]
      exact this
    have k7 := Lib.hid ((kg_below (G := G) b5).trans (((((Only.refl g wc).set 7 (.int .i64 Rn)).set 8 (.int .i64 Sn))).kg hg))
    have h7 := Lib.hid h7.drew
    have k7 := Lib.hid (k7.out.trans (kg_below (Below.refl _ _).drew))
    clear h5 hBH hX b5 hmn hnx hNe
    have qs : (Sn != 0) = false := by rw [hK.out]; rfl
    go_wp2_with fail
    go_region
    all_goals
      clear y0 y1 c7 c8 f7 f8
      have hs0' : (0 : Int) = Sn := hK.out.symm
      subst hs0'
      generalize (World.setCell _ ⟨g, 8, none⟩ _).drew = w6 at *
      have c8 : w6.cell? ⟨g, 8, none⟩ = some (.int .i64 0) := by
        have := h7.out.c8
        rw [hsl0] at this
        exact this
      obtain ⟨cc, L, hcc, hup⟩ := h7.out.clock
      have hT := Lib.hid (rterm_kt cc g _ L _ w6 hcc hck h7.out.cko ⟨by rw [htl]; omega, by rw [htl]; omega⟩)
      clear hup hcc
      go_wp2_with fail
      refine hT.out.mono ?_
      rintro _ w7 ⟨rfl, b7⟩
      have h8 := h7.out.below b7
      have k8 := Lib.hid (k7.out.trans (kg_below b7))
      clear hT h7 k7 c8
      have c10 := h8.c10
      have c5 := h8.c5
      have f10 := h8.frozen 10
      have h9 := Lib.hid ((h8.sTm (m.nxt.tm + termV m.nxt.t.lm m.nxt.ck + m.nxt.dr)).drew)
      have k9 := Lib.hid ((k8.out.trans (((Only.refl g w7).set 10 (.int .i64 (m.nxt.tm + termV m.nxt.t.lm m.nxt.ck + m.nxt.dr))).kg hg)).trans (kg_below (Below.refl _ _).drew))
      clear h8 k8
      rw [hwb]
      generalize termV m.nxt.t.lm m.nxt.ck = tv at *
      generalize m.nxt.tm = tm at *
      generalize m.nxt.dr = dr at *
      have hw1 : IntKind.i64.wrap (tm + tv) = tm + tv := IntWalk.i64_in _ (by omega)
      have hw2 : IntKind.i64.wrap (tm + tv + dr) = tm + tv + dr := IntWalk.i64_in _ (by omega)
      go_wp2_with fail
      go_region
      all_goals
        clear c10 c5 f10
        generalize (World.setCell _ ⟨g, 10, none⟩ _).drew = w9 at *
        obtain ⟨cc2, L2, hcc2, hup2⟩ := h9.out.clock
        have hC := Lib.hid (rclear_kt cc2 g _ L2 _ w9 hcc2)
        go_wp2_with fail
        refine hC.out.mono ?_
        rintro _ w10 ⟨rfl, hc10, o10⟩
        have h10 := hup2 _ _ _ hc10 o10 (fun k e => by simp [vblk] at e) (by simp) (fun i hi => hG i (Nat.le_trans k9.out.size hi))
        have k10 := Lib.hid (k9.out.trans (o10.kg hg))
        have hgs := h10.gs x.s (by simp [RX.own])
        have c13 : w10.cell? ⟨g, 13, none⟩ = some (.pointer (some ⟨x.s, 0, none⟩)) := h10.c13
        have hA := Lib.hid (age_rs G _ x.s _ w10 h10.so (by simp [RX.own]))
        have h10 := Lib.hid h10
        clear hC hcc2 hup2 hc10 o10 h9 k9
        go_wp2_with fail
        refine hA.out.mono ?_
        rintro _ w11 ⟨rfl, h11, o11⟩
        have h12 := h10.out.upS h11 o11
        have k12 := Lib.hid (k10.out.trans (o11.kg hgs))
        have c13 : w11.cell? ⟨g, 13, none⟩ = some (.pointer (some ⟨x.s, 0, none⟩)) := h12.c13
        have c14 : w11.cell? ⟨g, 14, none⟩ = some (.pointer (some ⟨x.a, 0, none⟩)) := h12.c14
        have hL := Lib.hid (look_ra b G g _ x w11.drew h12.drew)
        clear hA h11 o11 h10 k10 h12
        go_wp2_with fail
        go_region_with (first
          | (go_at_call 135; refine hL.out.mono ?_; rintro _ w13 ⟨rfl, h13, k13⟩; (have hF := Lib.hid h13); (have kF := Lib.hid ((k12.out.trans (kg_below (Below.refl _ w11).drew)).trans k13)))
          | fail)
        all_goals
          clear c13 c14 hL h13 k13 k12
          go_wp2
          refine bodyPost_end (results_none (by rfl) _ _ _) rfl ⟨rfl, ?_, kF.out⟩
          rw [hfin.out]
          exact ⟨x, hF.out⟩
set_option maxRecDepth 100000 in
set_option maxHeartbeats 4000000 in
theorem on_bad (b : Bool) (G : Nat → Prop) (g : Nat) (m : NM) (x : RX) (w : World) (h : RA b G w g m x) (hG : GN G w) (hN : NG m) (hk : nxS m.t.ns.length m.sl = 0) (hw : wiB m.t.lm (avg m.ck) = false) : OnC b G g m m.nxt.endR w := by
  unfold OnC
  obtain ⟨hE, ⟨n4, n8⟩, hsl, hrd⟩ := hN
  obtain ⟨A, c, c0, -⟩ := h.c0
  obtain ⟨N, hNe⟩ : ∃ N, m.t.ns.length = N := ⟨_, rfl⟩
  rw [hNe] at n4 n8 hsl c0 hk
  have hg := h.G_
  have HV := fun W (hW : Below w.heap.size w W) => Lib.hid (show Calls Tryz.prog 40 #[.pointer (some ⟨g, 0, none⟩)] W fun e w' => e = .returned (.agg #[.int .i64 m.rd, .int .i64 (m.sl : Nat), .int .i64 (m.ty.m : Nat)]) ∧ Below W.heap.size W w' from view_ra b G g m x W (h.below hW))
  have HX := fun W => Lib.hid (show Calls Tryz.prog 132 #[.agg #[.slice A N c, .int .i64 m.t.dr, .int .i64 m.t.wi, .int .i64 m.t.lm], .agg #[.int .i64 m.rd, .int .i64 (m.sl : Nat), .int .i64 (m.ty.m : Nat)]] W fun e w' => e = .returned (.agg #[.int .i64 (nxR N m.rd m.sl), .int .i64 (nxS N m.sl), .int .i64 (m.ty.m : Nat)]) ∧ Below W.heap.size W w' from next_rf A N c m.t.dr m.t.wi m.t.lm m.rd (m.sl : Nat) (m.ty.m : Nat) W (by omega) (by omega) hrd)
  have HS : ∀ W, Below w.heap.size w W → (W.cell? ⟨g, 0, none⟩ = some (.slice A N c) ∧ W.cell? ⟨g, 1, none⟩ = some (.int .i64 m.t.dr) ∧ W.cell? ⟨g, 2, none⟩ = some (.int .i64 m.t.wi) ∧ W.cell? ⟨g, 3, none⟩ = some (.int .i64 m.t.lm)) := fun W hW => by
    have h' := h.below hW
    exact ⟨(hW.cell (p := ⟨g, 0, none⟩) h.lt).trans c0, h'.c1, h'.c2, h'.c3⟩
  have hB := fun W (hW : Below w.heap.size w W) => h.below hW
  have hgl := h.lt
  have b0 := (Below.refl w.heap.size w).drew
  have S0 := Lib.hid (HS _ b0)
  have HH := Lib.hid HS
  have hBH := Lib.hid hB
  have hnx : (nxS N m.sl).toNat = nxS N m.sl := by unfold nxS; split <;> omega
  have hmn : m.nxt = { m with rd := nxR N m.rd m.sl, sl := (nxS N m.sl).toNat, se := false } := by unfold NM.nxt; rw [hNe]
  clear HS hB h c0 hsl hrd
  generalize hRn : nxR N m.rd m.sl = Rn at *
  generalize hSn : nxS N m.sl = Sn at *
  clear hRn hSn
  have hK := Lib.hid hk
  clear hk
  go_enter Tryz.func84, Tryz.ntmps84
  go_wp2_with fail
  go_cut [2] from 5 to 11 (fun s2 wx => ∃ a, s2 = .pointer (some ⟨a, 0, none⟩) ∧ Blk wx a #[.int .i64 Rn, .int .i64 Sn, .int .i64 (m.ty.m : Nat)] 101 ∧ Below w.heap.size w wx ∧ w.heap.size ≤ a)
  case first =>
    refine wp_region_held_drew (S := fun W => W.cell? ⟨g, 0, none⟩ = some (.slice A N c) ∧ W.cell? ⟨g, 1, none⟩ = some (.int .i64 m.t.dr) ∧ W.cell? ⟨g, 2, none⟩ = some (.int .i64 m.t.wi) ∧ W.cell? ⟨g, 3, none⟩ = some (.int .i64 m.t.lm)) (by kernel_rfl) S0.out (fun hHeld => ?_)
    refine wpAnyH_take (i := 0) (oi := { dst := some 5, op := _, type := _, pos := _, after := _, guard := none }) (v := ?_) rfl (by kernel_rfl) (by kernel_rfl) (by kernel_rfl) (fun _ _ _ h => h) (Or.inl ⟨by rfl, ?_⟩) (by assumption) ?_
    rotate_left 1
    · (intro wz hSw; go_simp; try with_reducible rfl)
    try simp only [Act.put, List.setIfInBounds_toArray, List.set_cons_zero, List.set_cons_succ]
    refine wpAnyH_take (i := 1) (oi := { dst := some 6, op := _, type := _, pos := _, after := _, guard := none }) (v := ?_) rfl (by kernel_rfl) (by kernel_rfl) (by kernel_rfl) (fun _ _ _ h => h) (Or.inl ⟨by rfl, ?_⟩) (by assumption) ?_
    rotate_left 1
    · (intro wz hSw; go_simp; try with_reducible rfl)
    try simp only [Act.put, List.setIfInBounds_toArray, List.set_cons_zero, List.set_cons_succ]
    refine wpAnyH_take (i := 2) (oi := { dst := some 7, op := _, type := _, pos := _, after := _, guard := none }) (v := ?_) rfl (by kernel_rfl) (by kernel_rfl) (by kernel_rfl) (fun _ _ _ h => h) (Or.inl ⟨by rfl, ?_⟩) (by assumption) ?_
    rotate_left 1
    · (intro wz hSw; go_simp; try with_reducible rfl)
    try simp only [Act.put, List.setIfInBounds_toArray, List.set_cons_zero, List.set_cons_succ]
    refine wpAnyH_take (i := 3) (oi := { dst := some 8, op := _, type := _, pos := _, after := _, guard := none }) (v := ?_) rfl (by kernel_rfl) (by kernel_rfl) (by kernel_rfl) (fun _ _ _ h => h) (Or.inl ⟨by rfl, ?_⟩) (by assumption) ?_
    rotate_left 1
    · (intro wz hSw; go_simp; try with_reducible rfl)
    try simp only [Act.put, List.setIfInBounds_toArray, List.set_cons_zero, List.set_cons_succ]
    refine wpAnyH_take (i := 4) (oi := { dst := some 9, op := _, type := _, pos := _, after := _, guard := none }) (v := ?_) rfl (by kernel_rfl) (by kernel_rfl) (by kernel_rfl) (fun _ _ _ h => h) (Or.inl ⟨by rfl, ?_⟩) (by assumption) ?_
    rotate_left 1
    · (intro wz hSw; go_simp; try with_reducible rfl)
    try simp only [Act.put, List.setIfInBounds_toArray, List.set_cons_zero, List.set_cons_succ]
    refine wpAnyH_ready (rs := [5,7]) (by kernel_rfl) (by simp) ?_
    refine (AllReadyH.cons rfl (fun K hK => ?_) (AllReadyH.cons rfl (fun K hK => ?_) AllReadyH.nil))
    · skip
      go_simp
      refine (HV _ b0).out.mono ?_
      rintro _ w2 ⟨rfl, b2⟩
      have b3 := b0.trans (b2.mono b0.size)
      refine hK.out _ _ (HH.out _ b3) (fun hHeld => ?_)
      clear hK K
      try simp only [Act.put, List.setIfInBounds_toArray, List.set_cons_zero, List.set_cons_succ]
      refine wpAnyH_ready (rs := [6,7]) (by kernel_rfl) (by simp) ?_
      refine (AllReadyH.cons rfl (fun K hK => ?_) (AllReadyH.cons rfl (fun K hK => ?_) AllReadyH.nil))
      · skip
        go_simp
        refine (HX _).out.mono ?_
        rintro _ w4 ⟨rfl, b4⟩
        have b5 := b3.trans (b4.mono b3.size)
        refine hK.out _ _ (HH.out _ b5) (fun hHeld => ?_)
        clear hK K
        try simp only [Act.put, List.setIfInBounds_toArray, List.set_cons_zero, List.set_cons_succ]
        refine wpAnyH_ready (rs := [7]) (by kernel_rfl) (by simp) ?_
        refine (AllReadyH.cons rfl (fun K hK => ?_) AllReadyH.nil)
        go_simp
        have b6 := b5.alloc b5.size (.cells #[.int .i64 0, .int .i64 0, .int .i64 0] 101)
        refine hK.out _ _ (HH.out _ b6) (fun hHeld => ?_)
        clear hK K
        try simp only [Act.put, List.setIfInBounds_toArray, List.set_cons_zero, List.set_cons_succ]
        refine wpAnyH_ready (rs := [8]) (by kernel_rfl) (by simp) ?_
        refine (AllReadyH.cons rfl (fun K hK => ?_) AllReadyH.nil)
        have X := Blk.new w4 w4.heap.size rfl #[.int .i64 0, .int .i64 0, .int .i64 0] 101
        have y0 := X.cell 0 (x := .int .i64 0) rfl
        have y1 := X.cell 1 (x := .int .i64 0) rfl
        have y2 := X.cell 2 (x := .int .i64 0) rfl
        have z0 := X.frozen 0
        have z1 := X.frozen 1
        have z2 := X.frozen 2
        go_simp
        have XF := Blk.new w4 w4.heap.size rfl #[.int .i64 Rn, .int .i64 Sn, .int .i64 (m.ty.m : Nat)] 101
        have bF := b5.alloc b5.size (.cells #[.int .i64 Rn, .int .i64 Sn, .int .i64 (m.ty.m : Nat)] 101)
        have le : w.heap.size ≤ w4.heap.size := b5.size
        refine hK.out _ _ (HH.out _ bF) (fun hHeld => ?_)
        clear hK K y0 y1 y2 z0 z1 z2
        try simp only [Act.put, List.setIfInBounds_toArray, List.set_cons_zero, List.set_cons_succ]
        refine wpAnyH_done (by kernel_rfl) ?_ _
        go_wp2_with fail
        go_meet
        exact ⟨_, rfl, XF, bF, le⟩
      · skip
        go_simp
        have b3x := b3.alloc b3.size (.cells #[.int .i64 0, .int .i64 0, .int .i64 0] 101)
        refine hK.out _ _ (HH.out _ b3x) (fun hHeld => ?_)
        clear hK K
        try simp only [Act.put, List.setIfInBounds_toArray, List.set_cons_zero, List.set_cons_succ]
        refine wpAnyH_ready (rs := [6]) (by kernel_rfl) (by simp) ?_
        refine (AllReadyH.cons rfl (fun K hK => ?_) AllReadyH.nil)
        go_simp
        refine (HX _).out.mono ?_
        rintro _ w4 ⟨rfl, b4⟩
        have b5 := b3x.trans (b4.mono b3x.size)
        refine hK.out _ _ (HH.out _ b5) (fun hHeld => ?_)
        clear hK K
        try simp only [Act.put, List.setIfInBounds_toArray, List.set_cons_zero, List.set_cons_succ]
        refine wpAnyH_ready (rs := [8]) (by kernel_rfl) (by simp) ?_
        refine (AllReadyH.cons rfl (fun K hK => ?_) AllReadyH.nil)
        have X := (Blk.new w2 w2.heap.size rfl #[.int .i64 0, .int .i64 0, .int .i64 0] 101).below b4 (by simp)
        have y0 := X.cell 0 (x := .int .i64 0) rfl
        have y1 := X.cell 1 (x := .int .i64 0) rfl
        have y2 := X.cell 2 (x := .int .i64 0) rfl
        have z0 := X.frozen 0
        have z1 := X.frozen 1
        have z2 := X.frozen 2
        go_simp
        have le : w.heap.size ≤ w2.heap.size := b3.size
        have XF : Blk _ w2.heap.size #[.int .i64 Rn, .int .i64 Sn, .int .i64 (m.ty.m : Nat)] 101 := (((X.set 0 (.int .i64 Rn)).set 1 (.int .i64 Sn)).set 2 (.int .i64 (m.ty.m : Nat))).eq (by simp)
        have bF := ((b5.setCell (p := ⟨w2.heap.size, 0, none⟩) le (.int .i64 Rn)).setCell (p := ⟨w2.heap.size, 1, none⟩) le (.int .i64 Sn)).setCell (p := ⟨w2.heap.size, 2, none⟩) le (.int .i64 (m.ty.m : Nat))
        refine hK.out _ _ (HH.out _ bF) (fun hHeld => ?_)
        clear hK K y0 y1 y2 z0 z1 z2
        try simp only [Act.put, List.setIfInBounds_toArray, List.set_cons_zero, List.set_cons_succ]
        refine wpAnyH_done (by kernel_rfl) ?_ _
        go_wp2_with fail
        go_meet
        exact ⟨_, rfl, XF, bF, le⟩
    · skip
      go_simp
      have b0x := b0.alloc b0.size (.cells #[.int .i64 0, .int .i64 0, .int .i64 0] 101)
      refine hK.out _ _ (HH.out _ b0x) (fun hHeld => ?_)
      clear hK K
      try simp only [Act.put, List.setIfInBounds_toArray, List.set_cons_zero, List.set_cons_succ]
      refine wpAnyH_ready (rs := [5]) (by kernel_rfl) (by simp) ?_
      refine (AllReadyH.cons rfl (fun K hK => ?_) AllReadyH.nil)
      go_simp
      refine (HV _ b0x).out.mono ?_
      rintro _ w2 ⟨rfl, b2⟩
      have b3 := b0x.trans (b2.mono b0x.size)
      refine hK.out _ _ (HH.out _ b3) (fun hHeld => ?_)
      clear hK K
      try simp only [Act.put, List.setIfInBounds_toArray, List.set_cons_zero, List.set_cons_succ]
      refine wpAnyH_ready (rs := [6]) (by kernel_rfl) (by simp) ?_
      refine (AllReadyH.cons rfl (fun K hK => ?_) AllReadyH.nil)
      go_simp
      refine (HX _).out.mono ?_
      rintro _ w4 ⟨rfl, b4⟩
      have b5 := b3.trans (b4.mono b3.size)
      refine hK.out _ _ (HH.out _ b5) (fun hHeld => ?_)
      clear hK K
      try simp only [Act.put, List.setIfInBounds_toArray, List.set_cons_zero, List.set_cons_succ]
      refine wpAnyH_ready (rs := [8]) (by kernel_rfl) (by simp) ?_
      refine (AllReadyH.cons rfl (fun K hK => ?_) AllReadyH.nil)
      have X := ((Blk.new w.drew w.heap.size rfl #[.int .i64 0, .int .i64 0, .int .i64 0] 101).below b2 (by simp)).below b4 (by have := b2.size; simp at this; omega)
      have y0 := X.cell 0 (x := .int .i64 0) rfl
      have y1 := X.cell 1 (x := .int .i64 0) rfl
      have y2 := X.cell 2 (x := .int .i64 0) rfl
      have z0 := X.frozen 0
      have z1 := X.frozen 1
      have z2 := X.frozen 2
      go_simp
      have le : w.heap.size ≤ w.heap.size := Nat.le_refl _
      have XF : Blk _ w.heap.size #[.int .i64 Rn, .int .i64 Sn, .int .i64 (m.ty.m : Nat)] 101 := (((X.set 0 (.int .i64 Rn)).set 1 (.int .i64 Sn)).set 2 (.int .i64 (m.ty.m : Nat))).eq (by simp)
      have bF := ((b5.setCell (p := ⟨w.heap.size, 0, none⟩) le (.int .i64 Rn)).setCell (p := ⟨w.heap.size, 1, none⟩) le (.int .i64 Sn)).setCell (p := ⟨w.heap.size, 2, none⟩) le (.int .i64 (m.ty.m : Nat))
      refine hK.out _ _ (HH.out _ bF) (fun hHeld => ?_)
      clear hK K y0 y1 y2 z0 z1 z2
      try simp only [Act.put, List.setIfInBounds_toArray, List.set_cons_zero, List.set_cons_succ]
      refine wpAnyH_done (by kernel_rfl) ?_ _
      go_wp2_with fail
      go_meet
      exact ⟨_, rfl, XF, bF, le⟩
  case rest =>
    clear S0 HH HV HX
    obtain ⟨a, rfl, hX, b5, hal⟩ := hcut
    have hk := hK.out
    have hsl0 : m.nxt.sl = 0 := by rw [hmn]; show Sn.toNat = 0; rw [hk]; rfl
    have htl : m.nxt.t.lm = m.t.lm := rfl
    have hck : small m.nxt.ck := hE.ck
    obtain ⟨hl1, hl2⟩ := hE.lm
    obtain ⟨ht1, ht2⟩ := hE.tm
    obtain ⟨hd1, hd2⟩ := hE.dr
    have hfin := Lib.hid (show m.nxt.endR = { ({ m.nxt with st := 5 } : NM) with ck := [], so := m.nxt.so.age, an := nowM m.nxt.al m.nxt.so.age, ar := fun i => m.nxt.ar i ||| nowM m.nxt.al m.nxt.so.age i } from by
      unfold NM.endR
      rw [if_neg (show ¬ wiB m.nxt.t.lm (avg m.nxt.ck) = true from by rw [show wiB m.nxt.t.lm (avg m.nxt.ck) = false from hw]; decide)])
    have hwb : wiB m.nxt.t.lm (avg m.nxt.ck) = false := hw
    have ht1' : -4611687117939015680 ≤ m.nxt.tm := ht1
    have ht2' : m.nxt.tm ≤ 4611687117939015680 := ht2
    have hd1' : -1000 ≤ m.nxt.dr := hd1
    have hd2' : m.nxt.dr ≤ 1000 := hd2
    have hb := termV_in m.nxt.t.lm m.nxt.ck hl1
    have hb1 : -1000 ≤ termV m.nxt.t.lm m.nxt.ck := by rw [htl] at *; omega
    have hb2 : termV m.nxt.t.lm m.nxt.ck ≤ 1000 := by rw [htl] at *; omega
    clear hb hw hk
    have h5 := hBH.out wc b5
    have y0 := hX.cell 0 (x := .int .i64 Rn) rfl
    have y1 := hX.cell 1 (x := .int .i64 Sn) rfl
    have c7 := h5.c7
    have c8 := h5.c8
    have f7 := h5.frozen 7
    have f8 := h5.frozen 8
    have h7 : RA b G ((wc.setCell ⟨g, 7, none⟩ (.int .i64 Rn)).setCell ⟨g, 8, none⟩ (.int .i64 Sn)) g m.nxt x := by
      have := ((h5.sRd Rn).sSl Sn.toNat).se_ false
      rw [hnx] at this
      rw [hmn]
      exact this
    have k7 := Lib.hid ((kg_below (G := G) b5).trans (((((Only.refl g wc).set 7 (.int .i64 Rn)).set 8 (.int .i64 Sn))).kg hg))
    have h7 := Lib.hid h7.drew
    have k7 := Lib.hid (k7.out.trans (kg_below (Below.refl _ _).drew))
    clear h5 hBH hX b5 hmn hnx hNe
    have qs : (Sn != 0) = false := by rw [hK.out]; rfl
    go_wp2_with fail
    go_region
    all_goals
      clear y0 y1 c7 c8 f7 f8
      have hs0' : (0 : Int) = Sn := hK.out.symm
      subst hs0'
      generalize (World.setCell _ ⟨g, 8, none⟩ _).drew = w6 at *
      have c8 : w6.cell? ⟨g, 8, none⟩ = some (.int .i64 0) := by
        have := h7.out.c8
        rw [hsl0] at this
        exact this
      obtain ⟨cc, L, hcc, hup⟩ := h7.out.clock
      have hT := Lib.hid (rterm_kt cc g _ L _ w6 hcc hck h7.out.cko ⟨by rw [htl]; omega, by rw [htl]; omega⟩)
      clear hup hcc
      go_wp2_with fail
      refine hT.out.mono ?_
      rintro _ w7 ⟨rfl, b7⟩
      have h8 := h7.out.below b7
      have k8 := Lib.hid (k7.out.trans (kg_below b7))
      clear hT h7 k7 c8
      have c6 := h8.c6
      have f6 := h8.frozen 6
      have h9 := Lib.hid (h8.sSt 5)
      have k9 := Lib.hid (k8.out.trans (((Only.refl g w7).set 6 (.int .i64 (5 : Nat))).kg hg))
      clear h8 k8
      rw [hwb]
      all_goals
        go_wp2_with fail
        clear c6 f6
        generalize World.setCell _ ⟨g, 6, none⟩ _ = w9 at *
        obtain ⟨cc2, L2, hcc2, hup2⟩ := h9.out.clock
        have hC := Lib.hid (rclear_kt cc2 g _ L2 _ w9 hcc2)
        go_wp2_with fail
        refine hC.out.mono ?_
        rintro _ w10 ⟨rfl, hc10, o10⟩
        have h10 := hup2 _ _ _ hc10 o10 (fun k e => by simp [vblk] at e) (by simp) (fun i hi => hG i (Nat.le_trans k9.out.size hi))
        have k10 := Lib.hid (k9.out.trans (o10.kg hg))
        have hgs := h10.gs x.s (by simp [RX.own])
        have c13 : w10.cell? ⟨g, 13, none⟩ = some (.pointer (some ⟨x.s, 0, none⟩)) := h10.c13
        have hA := Lib.hid (age_rs G _ x.s _ w10 h10.so (by simp [RX.own]))
        have h10 := Lib.hid h10
        clear hC hcc2 hup2 hc10 o10 h9 k9
        go_wp2_with fail
        refine hA.out.mono ?_
        rintro _ w11 ⟨rfl, h11, o11⟩
        have h12 := h10.out.upS h11 o11
        have k12 := Lib.hid (k10.out.trans (o11.kg hgs))
        have c13 : w11.cell? ⟨g, 13, none⟩ = some (.pointer (some ⟨x.s, 0, none⟩)) := h12.c13
        have c14 : w11.cell? ⟨g, 14, none⟩ = some (.pointer (some ⟨x.a, 0, none⟩)) := h12.c14
        have hL := Lib.hid (look_ra b G g _ x w11.drew h12.drew)
        clear hA h11 o11 h10 k10 h12
        go_wp2_with fail
        go_region_with (first
          | (go_at_call 135; refine hL.out.mono ?_; rintro _ w13 ⟨rfl, h13, k13⟩; (have hF := Lib.hid h13); (have kF := Lib.hid ((k12.out.trans (kg_below (Below.refl _ w11).drew)).trans k13)))
          | fail)
        all_goals
          clear c13 c14 hL h13 k13 k12
          go_wp2
          refine bodyPost_end (results_none (by rfl) _ _ _) rfl ⟨rfl, ?_, kF.out⟩
          rw [hfin.out]
          exact ⟨x, hF.out⟩
theorem on_c (b : Bool) (G : Nat → Prop) (g : Nat) (m : NM) (x : RX) (w : World) (h : RA b G w g m x) (hG : GN G w) (hN : NG m) : OnC b G g m m.goOn w := by
  rw [NM.goOn_eq]
  by_cases hk : nxS m.t.ns.length m.sl = 0
  · rw [if_neg (fun h => h hk)]
    cases hw : wiB m.t.lm (avg m.ck)
    · exact on_bad b G g m x w h hG hN hk hw
    · exact on_ok b G g m x w h hG hN hk hw
  · rw [if_pos hk]
    exact on_far b G g m x w h hG hN hk
end Go.Proofs.YtpdenmcacaajkaaGreat
