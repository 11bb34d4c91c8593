/- The contract of matronref4.Unpack (under way). -/
import Derived.Test.YtmddokenjdlgfaaTbM
import Derived.Test.YtmddokenjdlgfaaTbP
import Derived.BigRegion
namespace Go.Proofs.Ytmddokenjdlgfaa
open Go.RowKit
open Tb (D T)

theorem good_wide {l : List Int} (h : 8 < Tb.nOf l) : Tb.good l = false := by
  have : (Tb.rd l).is = false := by
    rw [Bool.eq_false_iff]
    intro hi
    have := (Tb.T.may hi).n8
    simp only [Tb.rd, Tb.rdN_length] at this
    omega
  simp [Tb.good, this]
set_option maxRecDepth 100000 in
set_option maxHeartbeats 8000000 in
theorem unpack_rf (v : Value) (l : List Int) (w : World) (hv : SeesL w w.heap.size v l) (hl : bytesL l) :
    Calls Try.prog 21 #[v] w (Un w l) := by
  obtain ⟨A, c, rfl, h1, h2, h3, -⟩ := hv.at_
  unfold maxLen at h2
  unfold Un
  by_cases h11 : l.length < 11
  · have hg : Tb.good l = false := by simp [Tb.good, Tb.lenB]; omega
    have hr : Tb.res l = Tb.zero := by simp [Tb.res, hg]
    have he : Tb.err l = 2 := by simp [Tb.err, hg]
    rw [hr, he]
    unfold Tb.zero tabV
    simp only
    clear hv h3 hl
    go_enter Try.func21, Try.ntmps21
    go_wp2
    refine bodyPost_ret (v := .tuple #[.agg #[.slice none 0 0, .int .i64 0, .int .i64 0, .int .i64 0], .int .i64 2]) ?_ rfl ⟨_, rfl, OwnsD.nil, ?_⟩
    · rw [results_cell_tmp rfl]
      go_simp
    · (repeat' (first | exact Below.refl _ _ | exact Nat.le_refl _ | (with_reducible refine Below.setCell ?_ ?_ _) | (with_reducible refine Below.alloc ?_ (Nat.le_refl _) _)))
  obtain ⟨b, off, rfl, hbb, hc⟩ := h3 (by omega)
  have hc4 := hc 4 (by omega)
  have hl4 := hl.getD 4
  unfold bv at hc4 hc
  have hn4 : l.getD 4 0 = (Tb.nOf l : Nat) := by unfold Tb.nOf; omega
  rw [hn4] at hc4 hl4
  have q1 : decide ((l.length : Int) < 11) = false := by simp; omega
  by_cases h8 : 8 < Tb.nOf l
  · have hg := good_wide h8
    have hr : Tb.res l = Tb.zero := by simp [Tb.res, hg]
    have he : Tb.err l = 2 := by simp [Tb.err, hg]
    rw [hr, he]
    have q2 : decide ((8 : Int) < (Tb.nOf l : Nat)) = true := by simp; omega
    unfold Tb.zero tabV
    simp only
    go_enter Try.func21, Try.ntmps21
    go_wp2
    refine bodyPost_ret (v := .tuple #[.agg #[.slice none 0 0, .int .i64 0, .int .i64 0, .int .i64 0], .int .i64 2]) ?_ rfl ⟨_, rfl, OwnsD.nil, ?_⟩
    · rw [results_cell_tmp rfl]
      go_simp
    · (repeat' (first | exact Below.refl _ _ | exact Nat.le_refl _ | (with_reducible refine Below.setCell ?_ ?_ _) | (with_reducible refine Below.alloc ?_ (Nat.le_refl _) _)))
  have q2 : decide ((8 : Int) < (Tb.nOf l : Nat)) = false := by simp; omega
  have w1 : IntKind.i64.wrap (4 * (Tb.nOf l : Int)) = 4 * (Tb.nOf l : Int) := IntWalk.i64_in _ (by omega)
  have w2 : IntKind.i64.wrap (11 + 4 * (Tb.nOf l : Int)) = 11 + 4 * (Tb.nOf l : Int) := IntWalk.i64_in _ (by omega)
  by_cases hlen : l.length = 11 + 4 * Tb.nOf l
  rotate_left
  · have hg : Tb.good l = false := by simp [Tb.good, Tb.lenB]; omega
    have hr : Tb.res l = Tb.zero := by simp [Tb.res, hg]
    have he : Tb.err l = 2 := by simp [Tb.err, hg]
    rw [hr, he]
    have q3 : ¬ ((l.length : Nat) : Int) = 11 + 4 * (Tb.nOf l : Int) := by omega
    unfold Tb.zero tabV
    simp only
    go_enter Try.func21, Try.ntmps21
    go_wp2
    refine bodyPost_ret (v := .tuple #[.agg #[.slice none 0 0, .int .i64 0, .int .i64 0, .int .i64 0], .int .i64 2]) ?_ rfl ⟨_, rfl, OwnsD.nil, ?_⟩
    · rw [results_cell_tmp rfl]
      go_simp
    · (repeat' (first | exact Below.refl _ _ | exact Nat.le_refl _ | (with_reducible refine Below.setCell ?_ ?_ _) | (with_reducible refine Below.alloc ?_ (Nat.le_refl _) _)))
  have hbyte := Lib.hid (fun k => hl.getD k)
  have hcc := Lib.hid hc
  have hvh := Lib.hid hv
  have hlh := Lib.hid hl
  have hN8 : Tb.nOf l ≤ 8 := by omega
  have hlen2 := Lib.hid hlen
  obtain ⟨N, hNN⟩ : ∃ N, N = Tb.nOf l := ⟨_, rfl⟩
  rw [← hNN] at hc4 hl4 hn4 q2 w1 w2 hlen2 hN8
  have q3 : ((l.length : Nat) : Int) = 11 + 4 * (N : Int) := by have := hlen2.out; omega
  have q1 : decide (11 + 4 * (N : Int) < 11) = false := by simp; omega
  have hNN2 := Lib.hid hNN
  clear hNN
  have q4 : (4 : Int) < 11 + 4 * (N : Int) := by omega
  have hb0 := (Below.refl w.heap.size w).alloc (Nat.le_refl _) (.cells #[.slice none 0 0, .int .i64 0, .int .i64 0, .int .i64 0] 24)
  have hR := Blk.new w _ rfl #[.slice none 0 0, .int .i64 0, .int .i64 0, .int .i64 0] 24
  have hb1 := hb0.alloc hb0.size (.cells #[.slice none 0 0, .int .i64 0, .int .i64 0, .int .i64 0] 24)
  have hR1 := hR.alloc (.cells #[.slice none 0 0, .int .i64 0, .int .i64 0, .int .i64 0] 24)
  have hT1 := Blk.new (w.alloc (.cells #[.slice none 0 0, .int .i64 0, .int .i64 0, .int .i64 0] 24)) (w.heap.size + 1) (by simp) #[.slice none 0 0, .int .i64 0, .int .i64 0, .int .i64 0] 24
  clear hlen hl hl4 hn4 h3 hv hc h11 h8 hR hb0
  go_enter Try.func21, Try.ntmps21
  go_wp2
  have hz00 : w.heap.size + 2 ≤ ((w.alloc (.cells #[.slice none 0 0, .int .i64 0, .int .i64 0, .int .i64 0] 24)).alloc (.cells #[.slice none 0 0, .int .i64 0, .int .i64 0, .int .i64 0] 24)).heap.size := by simp
  generalize (w.alloc (.cells #[.slice none 0 0, .int .i64 0, .int .i64 0, .int .i64 0] 24)).alloc (.cells #[.slice none 0 0, .int .i64 0, .int .i64 0, .int .i64 0] 24) = w0 at *
  go_loopw [5, 6] (fun s i wr => ∃ k a : Nat, ∃ v : Value, k ≤ N ∧ Hid (a = 5 + 4 * k) ∧ s = .int .i64 a ∧ i = .int .i64 k ∧ OwnsD wr w0.heap.size v (Tb.rdN l k) ∧ Blk wr (w.heap.size + 1) #[v, .int .i64 0, .int .i64 0, .int .i64 0] 24 ∧ w0.heap.size ≤ wr.heap.size ∧ Below (w.heap.size + 1) w0 wr) (fun _ i _ => N - (intOf i).toNat)
  case atStart => exact ⟨0, 5, _, by omega, Lib.hid rfl, rfl, rfl, OwnsD.nil, hT1, Nat.le_refl _, Below.refl _ _⟩
  case round =>
    obtain ⟨k, a, v, hk, ha, rfl, rfl, hown, hblk, hz, hbk⟩ := hrel
    have hbr : Below w.heap.size w wr := hb1.trans (hbk.mono (by omega))
    have hcr := fun j (hj : j < l.length) => (bcell hbr _ _ hbb).trans (hcc.out j hj)
    have g4 : wr.cell? ⟨b, off + 4, none⟩ = some (.int .u8 (N : Nat)) := (bcell hbr _ _ hbb).trans hc4
    by_cases hlt : k < N
    · have q5 : decide ((k : Int) < (N : Nat)) = true := by simp; omega
      have r0 := hcr a (by have := ha.out; have := hlen2.out; omega)
      have r1 := hcr (a + 1) (by have := ha.out; have := hlen2.out; omega)
      have r2 := hcr (a + 2) (by have := ha.out; have := hlen2.out; omega)
      have r3 := hcr (a + 3) (by have := ha.out; have := hlen2.out; omega)
      have n1 : IntKind.i64.wrap ((a : Int) + 1) = a + 1 := IntWalk.i64_in _ (by have := ha.out; omega)
      have n2 : IntKind.i64.wrap ((a : Int) + 2) = a + 2 := IntWalk.i64_in _ (by have := ha.out; omega)
      have n3 : IntKind.i64.wrap ((a : Int) + 3) = a + 3 := IntWalk.i64_in _ (by have := ha.out; omega)
      have m0 : (0 : Int) ≤ (a : Nat) := by omega
      have m1 : ((a : Nat) : Int) + 3 < 11 + 4 * (N : Int) := by have := ha.out; omega
      have t0 := hblk.cell 0 rfl
      have hx0 := hbyte.out a
      have hx1 := hbyte.out (a + 1)
      have hx2 := hbyte.out (a + 2)
      have hx3 := hbyte.out (a + 3)
      have hor := or_pair (l.getD (a + 1) 0) (l.getD (a + 2) 0) (hbyte.out _) (hbyte.out _)
      have wx3 : IntKind.i64.wrap (l.getD (a + 3) 0) = l.getD (a + 3) 0 := IntWalk.i64_in _ (by omega)
      have hdd : Hid (Tb.rdN l (k + 1) = Tb.rdN l k ++ [⟨(bits BinOp.and IntKind.u8 (l.getD a 0) 1 == 1), (bits BinOp.and IntKind.u8 (l.getD a 0) 2 == 2), l.getD (a + 1) 0 * 256 + l.getD (a + 2) 0, l.getD (a + 3) 0⟩]) := Lib.hid (by
        rw [Tb.rdN_succ, ← ha.out, and_one _ (hbyte.out a), and_two _ (hbyte.out a)]
        unfold Tb.dAt Tb.dOf
        have e1 : (l.getD a 0 % 2 == 1) = decide (l.getD a 0 % 2 = 1) := by rw [Bool.eq_iff_iff]; simp
        have e2 : (l.getD a 0 / 2 % 2 * 2 == 2) = decide (l.getD a 0 / 2 % 2 = 1) := by rw [Bool.eq_iff_iff]; simp; omega
        rw [e1, e2])
      generalize l.getD a 0 = x0 at *
      generalize l.getD (a + 1) 0 = x1 at *
      generalize l.getD (a + 2) 0 = x2 at *
      generalize l.getD (a + 3) 0 = x3 at *
      have hlk : (Tb.rdN l k).length ≤ 100000 := by rw [Tb.rdN_length]; omega
      obtain ⟨i0, hi, hz0, hz1, hz2⟩ := info_parts (P := Try.prog) info_def
      have hAt := atD_new wr ⟨(bits BinOp.and IntKind.u8 x0 1 == 1), (bits BinOp.and IntKind.u8 x0 2 == 2), x1 * 256 + x2, x3⟩ 42 wr.heap.size rfl
      have hsrc := src_def _ _ wr.heap.size 1 1 rfl hAt
      rcases hsrc with ⟨h, -, -⟩ | ⟨ad, c', hsl, hnl, hnews, hone⟩
      · cases h
      simp only [Value.slice.injEq, Option.some.injEq] at hsl
      obtain ⟨rfl, -, rfl⟩ := hsl
      obtain ⟨v2, w2, hrun, ho2, hg2, -, hl2⟩ := run_append_own_at (P := Try.prog) _ w0.heap.size 22 22 42 i0 _ 4 24 Try.underlying22 hi hz0 hz1 hz2 rfl (by omega) v _ _ (hown.alloc (.cells #[.bool (bits BinOp.and IntKind.u8 x0 1 == 1), .bool (bits BinOp.and IntKind.u8 x0 2 == 2), .int .i64 (x1 * 256 + x2), .int .i64 x3] 42)).drew ⟨wr.heap.size, 0, none⟩ 1 1 _ hnl hnews hone (defs_room hlk).1 (defs_room hlk).2 (by simp; omega)
      have t0a := fun o => Lib.cell?_alloc_some o t0
      have hgl : w.heap.size + 1 < wr.heap.size := by omega
      have hvg : v.ownBlock ≠ some (w.heap.size + 1) := fun e => by have := (hown.lt _ e).1; omega
      have hblk2 : Blk w2 (w.heap.size + 1) #[v, .int .i64 0, .int .i64 0, .int .i64 0] 24 := (hg2.block _ (by simp; omega) (fun e => hvg e.symm)).trans (hblk.alloc _)
      have hbk2 : Below (w.heap.size + 1) w0 w2 := ((hbk.alloc (by omega) _).drew).grown hg2 (by simp; omega) (fun j hj => by have := (hown.lt j hj).1; omega)
      have ho3 : OwnsD w2 w0.heap.size v2 (Tb.rdN l (k + 1)) := by rw [hdd.out]; exact OwnsD.snoc ho2
      have hl1 : (Tb.rdN l (k + 1)).length = k + 1 := Tb.rdN_length l (k + 1)
      obtain ⟨g2, c2, rfl, hg2'⟩ : ∃ g2 c2, v2 = .slice (some ⟨g2, 0, none⟩) (k + 1) c2 ∧ w0.heap.size ≤ g2 := by
        rcases ho3.form with ⟨-, h0⟩ | ⟨g2, c2, h, h1, -⟩
        · omega
        · exact ⟨g2, c2, by rw [h, hl1], h1⟩
      have ho4 := Lib.hid (ho3.setOther ⟨w.heap.size + 1, 0, none⟩ (.slice (some ⟨g2, 0, none⟩) (k + 1) c2) (by simp [Value.ownBlock]; omega))
      have hblk3 := Lib.hid (hblk2.set 0 (.slice (some ⟨g2, 0, none⟩) (k + 1) c2))
      have u0 := hblk2.cell 0 rfl
      have uf := hblk2.frozen 0
      have hz2 := Lib.hid hbk2.size
      have hbk3 := Lib.hid (hbk2.setCell (p := ⟨w.heap.size + 1, 0, none⟩) (Nat.le_refl _) (.slice (some ⟨g2, 0, none⟩) (k + 1) c2))
      have ha4 : Hid (a + 4 = 5 + 4 * (k + 1)) := Lib.hid (by have := ha.out; omega)
      have hl1h := Lib.hid hl1
      simp [go_sem] at hrun
      clear hl1 ho3 ho2 hg2 hl2 hblk2 hAt hnl hnews hone hvg
      go_wp2_with fail
      go_region
      go_wp2
      go_roundw
      case rel => exact ⟨k + 1, a + 4, _, by omega, ha4, by go_num, by go_num, ho4.out, hblk3.out, by simpa [World.setCell] using hz2.out, hbk3.out⟩
      case measure => simp [intOf]; omega
    · have q5 : decide ((k : Int) < (N : Nat)) = false := by simp; omega
      obtain rfl : k = N := by omega
      have hRC : Hid (∀ W, Below (w.heap.size + 1) wr W → ∀ j, j < l.length → W.cell? ⟨b, off + j, none⟩ = some (.int .u8 (l.getD j 0))) := Lib.hid (fun W hW j hj => (bcell (hbr.trans (hW.mono (by omega))) _ _ hbb).trans (hcc.out j hj))
      have n1 : IntKind.i64.wrap ((a : Int) + 1) = a + 1 := IntWalk.i64_in _ (by have := ha.out; omega)
      have n2 : IntKind.i64.wrap ((a : Int) + 2) = a + 2 := IntWalk.i64_in _ (by have := ha.out; omega)
      have n3 : IntKind.i64.wrap ((a : Int) + 3) = a + 3 := IntWalk.i64_in _ (by have := ha.out; omega)
      have n4 : IntKind.i64.wrap ((a : Int) + 4) = a + 4 := IntWalk.i64_in _ (by have := ha.out; omega)
      have n5 : IntKind.i64.wrap ((a : Int) + 5) = a + 5 := IntWalk.i64_in _ (by have := ha.out; omega)
      have m0 : (0 : Int) ≤ (a : Nat) := by omega
      have m1 : ((a : Nat) : Int) + 5 < 11 + 4 * (k : Int) := by have := ha.out; omega
      have hrd : Hid (Tb.rd l = ⟨Tb.rdN l k, l.getD a 0 * 256 + l.getD (a + 1) 0, l.getD (a + 2) 0 * 256 + l.getD (a + 3) 0, l.getD (a + 4) 0 * 256 + l.getD (a + 5) 0⟩) := Lib.hid (by
        unfold Tb.rd Tb.pairAt
        rw [← hNN2.out, ← ha.out, show 7 + 4 * k = a + 2 by have := ha.out; omega, show 9 + 4 * k = a + 4 by have := ha.out; omega])
      have hgd : Hid (Tb.good l = ((Tb.rd l).is && decide ((Tb.rd l).bytes = l))) := Lib.hid (by
        unfold Tb.good
        have : Tb.lenB l = true := by unfold Tb.lenB; have := hlen2.out; rw [← hNN2.out]; simp; omega
        rw [this, Bool.true_and])
      have hyb : Hid (∀ j, 0 ≤ l.getD j 0 ∧ l.getD j 0 < 256) := Lib.hid (fun j => hbyte.out j)
      have hor1 := or_pair (l.getD a 0) (l.getD (a + 1) 0) (hbyte.out _) (hbyte.out _)
      have hor2 := or_pair (l.getD (a + 2) 0) (l.getD (a + 3) 0) (hbyte.out _) (hbyte.out _)
      have hor3 := or_pair (l.getD (a + 4) 0) (l.getD (a + 5) 0) (hbyte.out _) (hbyte.out _)
      have ra : ∀ j, j < 6 → ∀ W, Below (w.heap.size + 1) wr W → W.cell? ⟨b, off + (a + j), none⟩ = some (.int .u8 (l.getD (a + j) 0)) := fun j hj W hW => hRC.out W hW (a + j) (by have := ha.out; have := hlen2.out; omega)
      have hRA : Hid (∀ W, Below (w.heap.size + 1) wr W → W.cell? ⟨b, off + a, none⟩ = some (.int .u8 (l.getD a 0)) ∧ W.cell? ⟨b, off + (a + 1), none⟩ = some (.int .u8 (l.getD (a + 1) 0)) ∧ W.cell? ⟨b, off + (a + 2), none⟩ = some (.int .u8 (l.getD (a + 2) 0)) ∧ W.cell? ⟨b, off + (a + 3), none⟩ = some (.int .u8 (l.getD (a + 3) 0)) ∧ W.cell? ⟨b, off + (a + 4), none⟩ = some (.int .u8 (l.getD (a + 4) 0)) ∧ W.cell? ⟨b, off + (a + 5), none⟩ = some (.int .u8 (l.getD (a + 5) 0))) := Lib.hid (fun W hW => ⟨ra 0 (by omega) W hW, ra 1 (by omega) W hW, ra 2 (by omega) W hW, ra 3 (by omega) W hW, ra 4 (by omega) W hW, ra 5 (by omega) W hW⟩)
      obtain ⟨x0a, x0b⟩ := hbyte.out a
      obtain ⟨x1a, x1b⟩ := hbyte.out (a + 1)
      obtain ⟨x2a, x2b⟩ := hbyte.out (a + 2)
      obtain ⟨x3a, x3b⟩ := hbyte.out (a + 3)
      obtain ⟨x4a, x4b⟩ := hbyte.out (a + 4)
      obtain ⟨x5a, x5b⟩ := hbyte.out (a + 5)
      generalize l.getD a 0 = x0 at *
      generalize l.getD (a + 1) 0 = x1 at *
      generalize l.getD (a + 2) 0 = x2 at *
      generalize l.getD (a + 3) 0 = x3 at *
      generalize l.getD (a + 4) 0 = x4 at *
      generalize l.getD (a + 5) 0 = x5 at *
      have hvg : v.ownBlock ≠ some (w.heap.size + 1) := fun e => by have := (hown.lt _ e).1; omega
      clear ra hcr
      obtain ⟨r0, r1, -⟩ := hRA.out wr (Below.refl _ _)
      have t1 := hblk.cell 1 rfl
      have f1 := hblk.frozen 1
      go_wp2_with fail
      go_cut [] from 80 to 92 (fun W => Blk W (w.heap.size + 1) #[v, .int .i64 (x0 * 256 + x1), .int .i64 0, .int .i64 0] 24 ∧ Below (w.heap.size + 1) wr W ∧ OwnsD W w0.heap.size v (Tb.rdN l k))
      case first =>
        go_region
        go_wp2_with fail
        go_meet
        exact ⟨(hblk.set 1 _).drew, ((Below.refl _ _).setCell (p := ⟨w.heap.size + 1, 1, none⟩) (Nat.le_refl _) _).drew, (hown.setOther ⟨w.heap.size + 1, 1, none⟩ _ hvg).drew⟩
      case rest =>
        obtain ⟨hB1, hb1', ho1⟩ := hcut
        obtain ⟨wd, rfl⟩ : ∃ wd, wd = wc := ⟨wc, rfl⟩
        clear r0 r1 t1 f1 hblk hown
        obtain ⟨-, -, r2, r3, -⟩ := hRA.out wd hb1'
        have t2 := hB1.cell 2 rfl
        have f2 := hB1.frozen 2
        go_wp2_with fail
        go_cut [] from 94 to 107 (fun W => Blk W (w.heap.size + 1) #[v, .int .i64 (x0 * 256 + x1), .int .i64 (x2 * 256 + x3), .int .i64 0] 24 ∧ Below (w.heap.size + 1) wr W ∧ OwnsD W w0.heap.size v (Tb.rdN l k))
        case first =>
          go_region
          go_wp2_with fail
          go_meet
          exact ⟨(hB1.set 2 _).drew, (hb1'.setCell (p := ⟨w.heap.size + 1, 2, none⟩) (Nat.le_refl _) _).drew, (ho1.setOther ⟨w.heap.size + 1, 2, none⟩ _ hvg).drew⟩
        case rest =>
          obtain ⟨hB2, hb2', ho2⟩ := hcut
          obtain ⟨we, rfl⟩ : ∃ we, we = wc := ⟨wc, rfl⟩
          clear r2 r3 t2 f2 hB1 ho1 hb1'
          obtain ⟨-, -, -, -, r4, r5⟩ := hRA.out we hb2'
          have t3 := hB2.cell 3 rfl
          have f3 := hB2.frozen 3
          go_wp2_with fail
          go_cut [] from 109 to 122 (fun W => Blk W (w.heap.size + 1) #[v, .int .i64 (x0 * 256 + x1), .int .i64 (x2 * 256 + x3), .int .i64 (x4 * 256 + x5)] 24 ∧ Below (w.heap.size + 1) wr W ∧ OwnsD W w0.heap.size v (Tb.rdN l k))
          case first =>
            go_region
            go_wp2_with fail
            go_meet
            exact ⟨(hB2.set 3 _).drew, (hb2'.setCell (p := ⟨w.heap.size + 1, 3, none⟩) (Nat.le_refl _) _).drew, (ho2.setOther ⟨w.heap.size + 1, 3, none⟩ _ hvg).drew⟩
          case rest =>
            obtain ⟨hB3, hb3', ho3⟩ := hcut
            obtain ⟨wf, rfl⟩ : ∃ wf, wf = wc := ⟨wc, rfl⟩
            clear r4 r5 t3 f3 hB2 ho2 hb2' hor1 hor2 hor3
            have hPk := pack_rf ⟨Tb.rdN l k, x0 * 256 + x1, x2 * 256 + x3, x4 * 256 + x5⟩ v wf _ (Nat.le_refl _) ho3.sees
            rw [← hrd.out] at hPk
            have hbf := hbr.trans (hb3'.mono (by omega))
            have hRf := hR1.below (hbk.trans hb3') (by omega)
            have hgdo := hgd.out
            have hsvf := fun W (hW : Below w.heap.size w W) => (hvh.out.below hW).more hW.size
            have hby := fun hi : (Tb.rd l).is = true => Tb.bytes_ok hi
            have hvR : v.ownBlock ≠ some w.heap.size := fun e => by have := (ho3.lt _ e).1; omega
            cases hi : (Tb.rd l).is
            · have hg : Tb.good l = false := by rw [hgdo, hi]; rfl
              have hr : Tb.res l = Tb.zero := by simp [Tb.res, hg]
              have he : Tb.err l = 2 := by simp [Tb.err, hg]
              have hP2 : Calls Try.prog 16 #[.agg #[v, .int .i64 (x0 * 256 + x1), .int .i64 (x2 * 256 + x3), .int .i64 (x4 * 256 + x5)]] wf fun e w' => ∃ p, e = .returned (.tuple #[p, .int .i64 1]) ∧ Below wf.heap.size wf w' := by
                have h := hPk.mono (fun e w' h => h)
                unfold Pk pkE pkR at h
                rw [hi] at h
                have e0 : tabV (Tb.rd l) v = .agg #[v, .int .i64 (x0 * 256 + x1), .int .i64 (x2 * 256 + x3), .int .i64 (x4 * 256 + x5)] := by rw [hrd.out]; rfl
                rw [e0] at h
                exact h.mono fun _ _ ⟨p, h1, _, h3⟩ => ⟨p, by simpa using h1, h3⟩
              have hP2 := Lib.hid hP2
              have hr := Lib.hid hr
              have he := Lib.hid he
              clear hPk hgdo hg hi hby
              have t0 := hB3.cell 0 rfl
              have t1 := hB3.cell 1 rfl
              have t2 := hB3.cell 2 rfl
              have t3 := hB3.cell 3 rfl
              go_wp2_with fail
              refine hP2.out.mono ?_
              rintro e w3 ⟨p, rfl, hbp⟩
              have hRp := hRf.below hbp hRf.lt
              have hbz := hbf.trans (hbp.mono hbf.size)
              clear t0 t1 t2 t3 hRf
              have r0 := hRp.cell 0 rfl
              have r1 := hRp.cell 1 rfl
              have r2 := hRp.cell 2 rfl
              have r3 := hRp.cell 3 rfl
              have f0 := hRp.frozen 0
              have f1 := hRp.frozen 1
              have f2 := hRp.frozen 2
              have f3 := hRp.frozen 3
              go_wp2_with fail
              (try simp only [Exit.inBlock, Exit.then])
              refine bodyPost_ret (v := .tuple #[.agg #[.slice none 0 0, .int .i64 0, .int .i64 0, .int .i64 0], .int .i64 2]) ?_ rfl ⟨_, by rw [hr.out, he.out]; rfl, ?_, ?_⟩
              · rw [results_cell_tmp rfl]
                go_simp
              · rw [hr.out]; exact OwnsD.nil
              · (repeat' (first | exact hbz | (with_reducible refine Below.setCell ?_ ?_ _) | exact Nat.le_refl _))
            · have hP3 : Calls Try.prog 16 #[.agg #[v, .int .i64 (x0 * 256 + x1), .int .i64 (x2 * 256 + x3), .int .i64 (x4 * 256 + x5)]] wf fun e w' => ∃ p, e = .returned (.tuple #[p, .int .i64 0]) ∧ OwnsL w' wf.heap.size p (Tb.rd l).bytes ∧ Below wf.heap.size wf w' := by
                have h := hPk.mono (fun e w' h => h)
                unfold Pk pkE pkR at h
                rw [hi] at h
                have e0 : tabV (Tb.rd l) v = .agg #[v, .int .i64 (x0 * 256 + x1), .int .i64 (x2 * 256 + x3), .int .i64 (x4 * 256 + x5)] := by rw [hrd.out]; rfl
                rw [e0] at h
                exact h.mono fun _ _ ⟨p, h1, h2, h3⟩ => ⟨p, by simpa using h1, by simpa using h2, h3⟩
              have hbyt := hby hi
              have t0 := hB3.cell 0 rfl
              have t1 := hB3.cell 1 rfl
              have t2 := hB3.cell 2 rfl
              have t3 := hB3.cell 3 rfl
              by_cases heq : (Tb.rd l).bytes = l
              · have hg : Tb.good l = true := by rw [hgdo, hi, heq]; simp
                have hr : Hid (Tb.res l = ⟨Tb.rdN l k, x0 * 256 + x1, x2 * 256 + x3, x4 * 256 + x5⟩) := Lib.hid (by simp [Tb.res, hg, hrd.out])
                have he : Hid (Tb.err l = 0) := Lib.hid (by simp [Tb.err, hg])
                rw [heq] at hP3
                have hP3 := Lib.hid hP3
                obtain ⟨Av, cv, hve, -, -, -, -⟩ := ho3.sees.at_
                generalize (Tb.rdN l k).length = nv at hve
                subst hve
                clear hPk hgdo hg hi hby heq hbyt
                go_wp2_with fail
                refine hP3.out.mono ?_
                rintro e w3 ⟨p, rfl, hop, hbp⟩
                have hRp := hRf.below hbp hRf.lt
                have hBp := hB3.below hbp hB3.lt
                have hbz := hbf.trans (hbp.mono hbf.size)
                have k1 := run_textL (hsvf w3 hbz)
                have k2 := run_textL hop.sees
                obtain ⟨Ap, dp, rfl, -⟩ := hop.sees.at_
                have hov := ho3.below hbp (Nat.le_refl _)
                clear t0 t1 t2 t3 hRf hB3 hop hsvf ho3
                have r0 := hRp.cell 0 rfl
                have r1 := hRp.cell 1 rfl
                have r2 := hRp.cell 2 rfl
                have r3 := hRp.cell 3 rfl
                have f0 := hRp.frozen 0
                have f1 := hRp.frozen 1
                have f2 := hRp.frozen 2
                have f3 := hRp.frozen 3
                have b0 := hBp.cell 0 rfl
                have b1 := hBp.cell 1 rfl
                have b2 := hBp.cell 2 rfl
                have b3 := hBp.cell 3 rfl
                go_wp2_with fail
                (try simp only [Exit.inBlock, Exit.then])
                refine bodyPost_ret (v := .tuple #[.agg #[.slice Av nv cv, .int .i64 (x0 * 256 + x1), .int .i64 (x2 * 256 + x3), .int .i64 (x4 * 256 + x5)], .int .i64 0]) ?_ rfl ⟨.slice Av nv cv, by rw [hr.out, he.out]; rfl, ?_, ?_⟩
                · rw [results_cell_tmp rfl]
                  go_simp
                · rw [hr.out]
                  refine OwnsD.base (Bs := w0.heap.size) ?_ (by omega)
                  (repeat' (first | exact hov | exact hvR | (with_reducible refine OwnsD.setOther ?_ _ _ ?_)))
                · (repeat' (first | exact hbz | (with_reducible refine Below.setCell ?_ ?_ _) | exact Nat.le_refl _))
              · have hg : Tb.good l = false := by rw [hgdo, hi]; simp [heq]
                have hr : Hid (Tb.res l = Tb.zero) := Lib.hid (by simp [Tb.res, hg])
                have he : Hid (Tb.err l = 2) := Lib.hid (by simp [Tb.err, hg])
                have eT : ¬ textL (Tb.rd l).bytes = textL l := fun h => heq (textL_inj hbyt hlh.out h)
                have eT2 : ¬ (textL (Tb.rd l).bytes).toList = (textL l).toList := fun h => eT (by
                  rw [ByteArray.toList_eq, ByteArray.toList_eq] at h
                  exact ByteArray.ext (Array.toList_inj.1 h))
                generalize (Tb.rd l).bytes = bs at *
                have hP3 := Lib.hid hP3
                clear hPk hgdo hg hi hby heq hbyt
                go_wp2_with fail
                refine hP3.out.mono ?_
                rintro e w3 ⟨p, rfl, hop, hbp⟩
                have hRp := hRf.below hbp hRf.lt
                have hBp := hB3.below hbp hB3.lt
                have hbz := hbf.trans (hbp.mono hbf.size)
                have k1 := run_textL (hsvf w3 hbz)
                have k2 := run_textL hop.sees
                obtain ⟨Ap, dp, rfl, -⟩ := hop.sees.at_
                have hov := ho3.below hbp (Nat.le_refl _)
                clear t0 t1 t2 t3 hRf hB3 hop hsvf ho3
                have r0 := hRp.cell 0 rfl
                have r1 := hRp.cell 1 rfl
                have r2 := hRp.cell 2 rfl
                have r3 := hRp.cell 3 rfl
                have f0 := hRp.frozen 0
                have f1 := hRp.frozen 1
                have f2 := hRp.frozen 2
                have f3 := hRp.frozen 3
                generalize textL bs = T1 at *
                generalize textL l = T2 at *
                have eT3 : (!(T1.toList == T2.toList)) = true := by simp [eT2]
                go_wp2_with fail
                (try simp only [Exit.inBlock, Exit.then])
                refine bodyPost_ret (v := .tuple #[.agg #[.slice none 0 0, .int .i64 0, .int .i64 0, .int .i64 0], .int .i64 2]) ?_ rfl ⟨_, by rw [hr.out, he.out]; rfl, ?_, ?_⟩
                · rw [results_cell_tmp rfl]
                  go_simp
                · rw [hr.out]; exact OwnsD.nil
                · (repeat' (first | exact hbz | (with_reducible refine Below.setCell ?_ ?_ _) | exact Nat.le_refl _))
end Go.Proofs.Ytmddokenjdlgfaa
