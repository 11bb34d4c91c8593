/- The contract of read. -/
import Derived.Test.YtmddokenjdlgfaaBlk
namespace Go.Proofs.Ytmddokenjdlgfaa
open Go.RowKit
open Tb (D T)

/-- What the bytes tell, whether they are a table or not. -/
def rd0 (l : List Int) : T := if Tb.lenB l then Tb.rd l else Tb.zero

set_option maxRecDepth 100000 in
set_option maxHeartbeats 4000000 in
theorem read_tb (v : Value) (l : List Int) (w : World) (hv : SeesL w w.heap.size v l) (hl : bytesL l) :
    Calls Try.prog 33 #[v] w fun e w' => ∃ v', e = .returned (tabV (rd0 l) v') ∧ OwnsD w' w.heap.size v' (rd0 l).ns ∧ Below w.heap.size w w' := by
  obtain ⟨A, c, rfl, h1, h2, h3, -⟩ := hv.at_
  unfold maxLen at h2
  unfold rd0 tabV
  by_cases h5 : l.length < 5
  · have hB : Tb.lenB l = false := by simp [Tb.lenB]; omega
    rw [hB]
    clear hv h3 hl
    go_enter Try.func33, Try.ntmps33
    go_wp2
    refine bodyPost_ret (v := .agg #[.slice none 0 0, .int .i64 0, .int .i64 0, .int .i64 0]) ?_ rfl ⟨_, rfl, OwnsD.nil, ?_⟩
    · rw [results_cell rfl]
      go_simp
    · (repeat' (first | exact Below.refl _ _ | exact Nat.le_refl _ | (with_reducible refine Below.setCell ?_ ?_ _) | (with_reducible refine Below.alloc ?_ (Nat.le_refl _) _)))
  obtain ⟨b, off, rfl, hbb, hc⟩ := h3 (by omega)
  have hc4 := hc 4 (by omega)
  have hl4 := hl.getD 4
  unfold bv at hc4 hc
  have hn4 : l.getD 4 0 = (Tb.nOf l : Nat) := by unfold Tb.nOf; omega
  rw [hn4] at hc4 hl4
  by_cases hlen : l.length = 11 + 4 * Tb.nOf l
  rotate_left
  · have hB : Tb.lenB l = false := by simp [Tb.lenB]; omega
    rw [hB]
    have q1 : decide ((l.length : Int) < 5) = false := by simp; omega
    go_enter Try.func33, Try.ntmps33
    go_wp2
    refine bodyPost_ret (v := .agg #[.slice none 0 0, .int .i64 0, .int .i64 0, .int .i64 0]) ?_ rfl ⟨_, rfl, OwnsD.nil, ?_⟩
    · rw [results_cell rfl]
      go_simp
    · (repeat' (first | exact Below.refl _ _ | exact Nat.le_refl _ | (with_reducible refine Below.setCell ?_ ?_ _) | (with_reducible refine Below.alloc ?_ (Nat.le_refl _) _)))
  have hB : Tb.lenB l = true := by simp [Tb.lenB]; omega
  rw [hB]
  have hN : Tb.nOf l ≤ 255 := by omega
  have hrd : Tb.rd l = ⟨Tb.rdN l (Tb.nOf l), Tb.pairAt l (5 + 4 * Tb.nOf l), Tb.pairAt l (7 + 4 * Tb.nOf l), Tb.pairAt l (9 + 4 * Tb.nOf l)⟩ := rfl
  simp only [if_true]
  rw [hrd]
  generalize hNN : Tb.nOf l = N at *
  have q1 : decide (5 + 4 * (N : Int) + 6 < 5) = false := by simp; omega
  have q2 : IntKind.i64.wrap (4 * (N : Int)) = 4 * N := IntWalk.i64_in _ (by omega)
  have q3 : IntKind.i64.wrap (5 + 4 * (N : Int)) = 5 + 4 * N := IntWalk.i64_in _ (by omega)
  have q4 : IntKind.i64.wrap (5 + 4 * (N : Int) + 6) = 5 + 4 * N + 6 := IntWalk.i64_in _ (by omega)
  have q5 : ((l.length : Nat) : Int) = 5 + 4 * N + 6 := by omega
  have q6 : IntKind.i64.wrap (5 + 4 * (N : Int) + 6 - 6) = 5 + 4 * N := by rw [IntWalk.i64_in _ (by omega)]; omega
  have q7 : ¬ c = 5 := by omega
  have q8 : ¬ ((c : Int) = 5 + 4 * N) := by omega
  have q9 : (5 : Int) ≤ 5 + 4 * N := by omega
  have q10 : (5 + 4 * (N : Int)) ≤ 5 + 4 * N + 6 := by omega
  have q11 : (5 + 4 * (N : Int)) ≤ c := by omega
  have hlen2 := Lib.hid hlen
  have hbyte := Lib.hid (fun k => hl.getD k)
  have hcc := Lib.hid hc
  clear hlen hB hrd hNN h3 hv hl hl4 hn4 h5 hc
  go_enter Try.func33, Try.ntmps33
  go_wp2_with fail
  go_quiet (fail)
  go_wp2_with fail
  have z1 : 5 + 4 * N - 5 = 4 * N := by omega
  have z2 : l.length - (5 + 4 * N) = 6 := by have := hlen2.out; omega
  rw [z1, z2]
  clear z1 z2 q1 q2 q3 q4 q6 q7 q8 q9 q10 q11
  have hblk := (Blk.new w _ rfl #[.slice none 0 0, .int .i64 0, .int .i64 0, .int .i64 0] 24).drewN nq
  have hb0 := below_drewN ((Below.refl w.heap.size w).alloc (Nat.le_refl _) (.cells #[.slice none 0 0, .int .i64 0, .int .i64 0, .int .i64 0] 24)) nq
  generalize (w.alloc (.cells #[.slice none 0 0, .int .i64 0, .int .i64 0, .int .i64 0] 24)).drewN nq = w0 at *
  obtain ⟨c6, hc6, hc6'⟩ : ∃ c6, c6 = c - (5 + 4 * N) ∧ 6 ≤ c6 := ⟨_, rfl, by have := hlen2.out; omega⟩
  rw [← hc6]
  have hc7 : c6 ≤ c := by omega
  clear hc6
  have k2 : ¬ c6 = 2 := by omega
  have k4 : ¬ c6 = 4 := by omega
  have k2' : (2 : Int) ≤ c6 := by omega
  have k4' : (4 : Int) ≤ c6 := by omega
  have hcell : ∀ W, Below w.heap.size w W → ∀ k, k < l.length → W.cell? ⟨b, off + k, none⟩ = some (.int .u8 (l.getD k 0)) := fun W hb k hk => (bcell hb _ _ hbb).trans (hcc.out k hk)
  have hp : ∀ (o k n c : Nat), off + k = o → k + 1 < l.length → 2 ≤ n → n ≤ maxLen → ∀ W, Below w.heap.size w W → Hid (Calls Try.prog 37 #[.slice (some ⟨b, o, none⟩) n c] W fun e w' => e = .returned (.int .i64 (Tb.pairAt l k)) ∧ ∃ m, W.drewN m = w') := by
    rintro o k n c rfl hk hn hn2 W hb
    exact pair_tb b (off + k) c n _ _ W hn hn2 (hcell W hb k (by omega)) (hcell W hb (k + 1) hk) (hbyte.out _) (hbyte.out _)
  have hL := hlen2.out
  have p0 := hp (off + (5 + 4 * N)) (5 + 4 * N) 6 c6 rfl (by omega) (by omega) (by unfold maxLen; omega)
  have p2 := hp (off + (5 + 4 * N) + 2) (7 + 4 * N) 4 (c6 - 2) (by omega) (by omega) (by omega) (by unfold maxLen; omega)
  have p4 := hp (off + (5 + 4 * N) + 4) (9 + 4 * N) 2 (c6 - 4) (by omega) (by omega) (by omega) (by unfold maxLen; omega)
  clear hL
  go_cut [5] from 33 (fun s5 W => ∃ g, s5 = .pointer (some ⟨g, 0, none⟩) ∧ Blk W g #[.slice none 0 0, .int .i64 (Tb.pairAt l (5 + 4 * N)), .int .i64 (Tb.pairAt l (7 + 4 * N)), .int .i64 (Tb.pairAt l (9 + 4 * N))] 24 ∧ Below w0.heap.size w0 W ∧ w0.heap.size ≤ g)
  case first =>
    have hbx0 := Below.refl w0.heap.size w0
    have hca : ∀ (k : Nat) (cs : Array Value) (t : TypeId) (i : Nat), ((w0.drewN k).alloc (.cells cs t)).cell? ⟨w0.heap.size, i, none⟩ = cs[i]? := fun k cs t i => World.cell?_alloc_at _ _ _ _ rfl
    have hcf : ∀ (k : Nat) (cs : Array Value) (t : TypeId) (i : Nat), ((w0.drewN k).alloc (.cells cs t)).frozen? ⟨w0.heap.size, i, none⟩ = false := fun k cs t i => (Blk.new (w0.drewN k) _ rfl cs t).frozen i
    go_region_with ((go_at_call 37; first | with_reducible refine (p0 _ ?_).out.mono ?_ | with_reducible refine (p2 _ ?_).out.mono ?_ | with_reducible refine (p4 _ ?_).out.mono ?_); (focus (refine hb0.trans (Below.mono (B := w0.heap.size) ?_ hb0.size); (repeat' (first | exact Below.refl _ _ | exact Nat.le_refl _ | (with_reducible refine Below.alloc ?_ (by simp) _) | (with_reducible refine below_drewN ?_ _) | (with_reducible refine Below.drew ?_))))); rintro e w3 ⟨rfl, m3, rfl⟩)
    all_goals
      go_wp2_with fail
      go_meet
      refine ⟨_, rfl, ?_, ?_, Nat.le_refl _⟩
      · refine blk4 _ _ (.slice none 0 0) (.int .i64 0) (.int .i64 0) (.int .i64 0) _ _ _ _ _ ?_
        (repeat' (first | (with_reducible refine Blk.drewN ?_ _) | (with_reducible refine Blk.drew ?_) | (with_reducible refine Blk.new _ _ (by simp) _ _)))
      · (repeat' (first | (with_reducible exact Below.refl _ _) | (with_reducible refine Below.setCell ?_ ?_ _) | (with_reducible refine Below.alloc ?_ ?_ _) | (with_reducible refine below_drewN ?_ _) | (with_reducible refine Below.drew ?_) | exact Nat.le_refl _))
  case rest =>
    obtain ⟨g, rfl, hT, hbd, hg⟩ := hcut
    obtain ⟨wt, rfl⟩ : ∃ wt, wt = wc := ⟨wc, rfl⟩
    clear hp p0 p2 p4 k2 k4 k2' k4' hc6' hc7
    have hvl0 := hT.lt
    have hb00 := hb0.trans (hbd.mono hb0.size)
    generalize hdr : Tb.pairAt l (5 + 4 * N) = dr at *
    generalize hwi : Tb.pairAt l (7 + 4 * N) = wi at *
    generalize hlm : Tb.pairAt l (9 + 4 * N) = lm at *
    have hdr2 := Lib.hid hdr
    have hwi2 := Lib.hid hwi
    have hlm2 := Lib.hid hlm
    clear hdr hwi hlm
    have hblk2 := hblk.below (B := w0.heap.size) hbd hblk.lt
    have hgw : w.heap.size < g := by have := hblk.lt; omega
    go_wp2
    go_loopw [3, 6] (fun s _ wr => ∃ k o n' c' : Nat, ∃ v : Value, k ≤ N ∧ s = .slice (some ⟨b, o, none⟩) n' c' ∧ Hid (o = off + (5 + 4 * k)) ∧ Hid (n' = 4 * (N - k)) ∧ Hid (c' = c - (5 + 4 * k)) ∧ OwnsD wr wt.heap.size v (Tb.rdN l k) ∧ Blk wr g #[v, .int .i64 dr, .int .i64 wi, .int .i64 lm] 24 ∧ wt.heap.size ≤ wr.heap.size ∧ Below w0.heap.size w0 wr)
      (fun s _ _ => sliceLen s)
    case atStart => exact ⟨0, _, _, _, _, by omega, rfl, Lib.hid rfl, Lib.hid rfl, Lib.hid rfl, OwnsD.nil, hT, Nat.le_refl _, hbd⟩
    case round =>
      obtain ⟨k, o, n', c', v, hk, rfl, ho, hn', hc', hown, hblk3, hzr, hb⟩ := hrel
      have hoo := ho.out
      have hnn := hn'.out
      have hcc' := hc'.out
      have hL := hlen2.out
      by_cases hlt : k < N
      · have q1 : decide ((0 : Int) < (n' : Nat)) = true := by simp; omega
        have q2 : ¬ c' = 1 := by omega
        have q3 : ¬ c' = 4 := by omega
        have q4 : (1 : Int) ≤ (n' : Nat) := by omega
        have q5 : (3 : Int) < (n' : Nat) := by omega
        have q6 : (4 : Int) ≤ (n' : Nat) := by omega
        clear hoo hnn hcc' hL
        have hbr := hb0.trans (hb.mono hb0.size)
        have hcr := fun j (hj : j < l.length) => hcell wr hbr j hj
        have r0 := hcr (5 + 4 * k) (by have := hlen2.out; omega)
        have r3 := hcr (8 + 4 * k) (by have := hlen2.out; omega)
        rw [show off + (5 + 4 * k) = o by have := ho.out; omega] at r0
        rw [show off + (8 + 4 * k) = o + 3 by have := ho.out; omega] at r3
        have p1 : ∀ W, Below wr.heap.size wr W → Hid (Calls Try.prog 37 #[.slice (some ⟨b, o + 1, none⟩) (n' - 1) (c' - 1)] W fun e w' => e = .returned (.int .i64 (Tb.pairAt l (6 + 4 * k))) ∧ ∃ m, W.drewN m = w') := fun W hw => by
          have := ho.out
          have := hn'.out
          have := hlen2.out
          exact pair_tb b (o + 1) (c' - 1) (n' - 1) _ _ W (by omega) (by unfold maxLen; omega)
            (by have h := hcell W (hbr.trans (hw.mono hbr.size)) (6 + 4 * k) (by omega); rw [show off + (6 + 4 * k) = o + 1 by omega] at h; exact h)
            (by have h := hcell W (hbr.trans (hw.mono hbr.size)) (6 + 4 * k + 1) (by omega); rw [show off + (6 + 4 * k + 1) = o + 1 + 1 by omega] at h; exact h) (hbyte.out _) (hbyte.out _)
        have hdd : Hid (Tb.dAt l (5 + 4 * k) = ⟨decide (l.getD (5 + 4 * k) 0 % 2 = 1), decide (l.getD (5 + 4 * k) 0 / 2 % 2 = 1), Tb.pairAt l (6 + 4 * k), l.getD (8 + 4 * k) 0⟩) := by
          unfold Tb.dAt Tb.dOf Tb.pairAt
          rw [show 5 + 4 * k + 1 = 6 + 4 * k by omega, show 5 + 4 * k + 2 = 6 + 4 * k + 1 by omega, show 5 + 4 * k + 3 = 8 + 4 * k by omega]
          exact Lib.hid rfl
        have hx0 := hbyte.out (5 + 4 * k)
        have hx3 := hbyte.out (8 + 4 * k)
        generalize l.getD (5 + 4 * k) 0 = x0 at *
        generalize l.getD (8 + 4 * k) 0 = x3 at *
        generalize Tb.pairAt l (6 + 4 * k) = li at *
        have wx3 : IntKind.i64.wrap x3 = x3 := IntWalk.i64_in _ (by omega)
        clear hcr
        go_wp2
        go_cut [6] from 42 to 72 (fun s6 W => ∃ gd, s6 = .pointer (some ⟨gd, 0, none⟩) ∧ Blk W gd #[.bool false, .bool false, .int .i64 li, .int .i64 x3] 42 ∧ Below wr.heap.size wr W ∧ wr.heap.size ≤ gd)
        case first =>
          have hca : ∀ (k : Nat) (cs : Array Value) (t : TypeId) (i : Nat), ((wr.drewN k).alloc (.cells cs t)).cell? ⟨wr.heap.size, i, none⟩ = cs[i]? := fun k cs t i => World.cell?_alloc_at _ _ _ _ rfl
          have hcf : ∀ (k : Nat) (cs : Array Value) (t : TypeId) (i : Nat), ((wr.drewN k).alloc (.cells cs t)).frozen? ⟨wr.heap.size, i, none⟩ = false := fun k cs t i => (Blk.new (wr.drewN k) _ rfl cs t).frozen i
          have hra : ∀ (k : Nat) (o' : Obj), ((wr.drewN k).alloc o').cell? ⟨b, o + 3, none⟩ = some (.int .u8 x3) := fun k o' => Lib.cell?_alloc_some o' r3
          have hra2 : ∀ (o' : Obj), (wr.alloc o').cell? ⟨b, o + 3, none⟩ = some (.int .u8 x3) := fun o' => Lib.cell?_alloc_some o' r3
          go_region_with ((go_at_call 37; with_reducible refine (p1 _ ?_).out.mono ?_); (focus (repeat' (first | (with_reducible exact Below.refl _ _) | (with_reducible refine Below.alloc ?_ (by simp) _) | (with_reducible refine below_drewN ?_ _) | (with_reducible refine Below.drew ?_)))); rintro e w3 ⟨rfl, m3, rfl⟩)
          all_goals
            go_wp2_with fail
            go_meet
            refine ⟨_, rfl, ?_, ?_, Nat.le_refl _⟩
            · refine blk4 _ _ (.bool false) (.bool false) (.int .i64 0) (.int .i64 0) _ _ _ _ _ ?_
              (repeat' (first | (with_reducible refine Blk.drewN ?_ _) | (with_reducible refine Blk.drew ?_) | (with_reducible refine Blk.new _ _ (by simp) _ _)))
            · (repeat' (first | (with_reducible exact Below.refl _ _) | (with_reducible refine Below.setCell ?_ ?_ _) | (with_reducible refine Below.alloc ?_ ?_ _) | (with_reducible refine below_drewN ?_ _) | (with_reducible refine Below.drew ?_) | exact Nat.le_refl _))
        case rest =>
          obtain ⟨gd, rfl, hD, hbd2, hgd⟩ := hcut
          obtain ⟨wq, rfl⟩ : ∃ wq, wq = wc := ⟨wc, rfl⟩
          have y0 := (bcell hbd2 b o (by have := hb00.size; have := hb.size; omega)).trans r0
          have g0 := hD.frozen 0
          have g1 := hD.frozen 1
          have f0 := hD.cell 0 rfl
          have f1 := hD.cell 1 rfl
          have q7 : (0 : Int) < (n' : Nat) := by omega
          go_wp2_with fail
          go_cut [] from 42 to 72 (fun W => Blk W gd #[.bool (decide (x0 % 2 = 1)), .bool (decide (x0 / 2 % 2 = 1)), .int .i64 li, .int .i64 x3] 42 ∧ Below wr.heap.size wr W)
          case first =>
            have hsc : ∀ (i : Nat) (u : Value), (wq.setCell ⟨gd, i, none⟩ u).cell? ⟨b, o, none⟩ = some (.int .u8 x0) := fun i u => (World.cell?_setCell_far wq ⟨gd, i, none⟩ ⟨b, o, none⟩ u fun e => by have e := congrArg id e; simp at e; have := hb00.size; have := hb.size; omega).trans y0
            have hv0 : (bits BinOp.and IntKind.u8 x0 1 != 0) = decide (x0 % 2 = 1) := by rw [and_one x0 hx0, Bool.eq_iff_iff]; simp; omega
            have hv1 : (bits BinOp.and IntKind.u8 x0 2 != 0) = decide (x0 / 2 % 2 = 1) := by rw [and_two x0 hx0, Bool.eq_iff_iff]; simp; omega
            have hv0 := Lib.hid hv0
            have hv1 := Lib.hid hv1
            go_region
            all_goals
              go_wp2_with fail
              go_meet
              rw [← hv0.out, ← hv1.out]
              refine ⟨?_, ?_⟩
              · first
                  | exact (hD.drew.set 0 _).set 1 _
                  | exact (hD.drew.set 1 _).set 0 _
              · (repeat' (first | (with_reducible exact hbd2) | (with_reducible refine Below.setCell ?_ ?_ _) | (with_reducible refine below_drewN ?_ _) | (with_reducible refine Below.drew ?_) | exact hgd))
          case rest =>
            obtain ⟨hD2, hbd3⟩ := hcut
            obtain ⟨wd, rfl⟩ : ∃ wd, wd = wc := ⟨wc, rfl⟩
            clear hD g0 g1 f0 f1 y0 r0 r3 p1
            have hzd := hbd3.size
            have hown2 := hown.below (hbd3) (Nat.le_refl _)
            have hblk4 := hblk3.below hbd3 hblk3.lt
            have hbd4 := hb.trans (hbd3.mono hb.size)
            have hgl : g < wt.heap.size := hvl0
            have hgn : g ≠ gd := by omega
            have t0 := hblk4.cell 0 rfl
            have tf := hblk4.frozen 0
            have s0 := hD2.cell 0 rfl
            have s1 := hD2.cell 1 rfl
            have s2 := hD2.cell 2 rfl
            have s3 := hD2.cell 3 rfl
            have hlk : (Tb.rdN l k).length ≤ 100000 := by rw [Tb.rdN_length]; omega
            have hnk := Lib.hid (Tb.rdN_succ l k)
            have hAt := atD_new wd ⟨decide (x0 % 2 = 1), decide (x0 / 2 % 2 = 1), li, x3⟩ 42 wd.heap.size rfl
            go_wp2_with (at_builtin; go_loud (refine wpList_pushC _ rfl (.tmp 68) (.tmp 70) 22 rfl wt.heap.size 42 _ 4 24 info_def rfl (by omega) Try.underlying22 v (Tb.rdN l k).length _ (hown2.alloc _) rfl _ 1 _ rfl (src_def _ ⟨decide (x0 % 2 = 1), decide (x0 / 2 % 2 = 1), li, x3⟩ _ _ _ rfl hAt) (by simp; omega) (defs_room hlk).1 (defs_room hlk).2 ?_))
            intro v2 w2 ho2 hx2
            have ho3 : OwnsD w2 wt.heap.size v2 (Tb.rdN l (k + 1)) := by
              rw [hnk.out, hdd.out]
              exact OwnsD.snoc ho2
            have hxx := ((Ext.refl wd v).alloc (.cells #[.bool (decide (x0 % 2 = 1)), .bool (decide (x0 / 2 % 2 = 1)), .int .i64 li, .int .i64 x3] 42)).trans hx2
            have hvg : v.ownBlock ≠ some g := fun e => by have := (hown2.lt _ e).1; omega
            have hb2 := hbd4.trans (hxx.toBelow (B := w0.heap.size) hbd4.size (fun j hj => by have := (hown2.lt j hj).1; omega))
            have hblk5 := hblk4.ext hxx hvg
            have hl1 : (Tb.rdN l (k + 1)).length = k + 1 := Tb.rdN_length l (k + 1)
            obtain ⟨g2, c2, rfl, hg2⟩ : ∃ g2 c2, v2 = .slice (some ⟨g2, 0, none⟩) (k + 1) c2 ∧ wt.heap.size ≤ g2 := by
              rcases ho3.form with ⟨-, h0⟩ | ⟨g2, c2, h, h1, -⟩
              · omega
              · exact ⟨g2, c2, by rw [h, hl1], h1⟩
            have ho4 := ho3.setOther ⟨g, 0, none⟩ (.slice (some ⟨g2, 0, none⟩) (k + 1) c2) (by simp [Value.ownBlock]; omega)
            have hblk6 := hblk5.set 0 (.slice (some ⟨g2, 0, none⟩) (k + 1) c2)
            have u0 := hblk5.cell 0 rfl
            have uf := hblk5.frozen 0
            clear t0 tf s0 s1 s2 s3 ho2 ho3 hx2 hAt hown2 hblk4 hblk5
            go_wp2
            go_roundw
            case rel =>
              refine ⟨k + 1, _, _, _, _, by omega, rfl, ?_, ?_, ?_, ho4, by simpa using hblk6, by have := hxx.size; show wt.heap.size ≤ (w2.setCell _ _).heap.size; simp only [World.setCell, Array.size_modify]; omega, Below.setCell (p := ⟨g, 0, none⟩) hb2 hg _⟩
              · exact Lib.hid (by have := ho.out; omega)
              · exact Lib.hid (by have := hn'.out; omega)
              · exact Lib.hid (by have := hc'.out; omega)
            case measure => simp [sliceLen]; omega
      · obtain rfl : k = N := by omega
        obtain rfl : n' = 0 := by omega
        have hbr := hb0.trans (hb.mono hb0.size)
        have hR := hblk.below (B := w0.heap.size) hb hblk.lt
        obtain ⟨A', c2, rfl, -⟩ := hown.sees.at_
        have hl1 : (Tb.rdN l k).length = k := Tb.rdN_length l k
        have t0 := hblk3.cell 0 rfl
        have t1 := hblk3.cell 1 rfl
        have t2 := hblk3.cell 2 rfl
        have t3 := hblk3.cell 3 rfl
        have r0 := hR.cell 0 rfl
        have r1 := hR.cell 1 rfl
        have r2 := hR.cell 2 rfl
        have r3 := hR.cell 3 rfl
        have f0 := hR.frozen 0
        have f1 := hR.frozen 1
        have f2 := hR.frozen 2
        have f3 := hR.frozen 3
        have hvR : (Value.slice A' (Tb.rdN l k).length c2).ownBlock ≠ some w.heap.size := fun e => by have := (hown.lt _ e).1; omega
        clear hoo hnn hcc' hL hblk hblk2
        go_wp2_with fail
        refine bodyPost_ret (v := .agg #[.slice A' (Tb.rdN l k).length c2, .int .i64 dr, .int .i64 wi, .int .i64 lm]) ?_ rfl ⟨_, by rw [hdr2.out, hwi2.out, hlm2.out], ?_, ?_⟩
        · rw [results_cell rfl]
          go_simp
        · refine OwnsD.base (Bs := wt.heap.size) ?_ (by omega)
          (repeat' (first | exact hown | exact hvR | (with_reducible refine OwnsD.setOther ?_ _ _ ?_)))
        · (repeat' (first | exact hbr | (with_reducible refine Below.setCell ?_ ?_ _) | exact Nat.le_refl _))
end Go.Proofs.Ytmddokenjdlgfaa
