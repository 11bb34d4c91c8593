/- Texts WdL, WdO, WdM, NdNil, WdB, SrX, WdD in one. For what each says in front of its theorems. -/
import Derived.Test.YtpdenmcacaajkaaGreatXB25
import Derived.Test.YtpdenmcacaajkaaGreatXB37
import Derived.Test.YtpdenmcacaajkaaGreatXB38
/-! ### WdL -/
namespace Go.Proofs.YtpdenmcacaajkaaGreat
open Go.RowKit
open Tb (D T)

set_option maxRecDepth 100000 in
set_option maxHeartbeats 4000000 in
theorem some_wd (n : Nat) (dr : Int) (hn : n ≤ 8) (hd : 0 ≤ dr ∧ dr ≤ 1000) (w : World) :
    Calls Tryz.prog 49 #[.int .i64 (n : Nat), .int .i64 dr] w fun e w' => ∃ v, e = .returned (tabV (gsmT n dr) v) ∧ OwnsD w' w.heap.size v (gsmL n) ∧ Below w.heap.size w w' := by
  have hsu := Lib.hid gsmL_succ
  have hsl := Lib.hid gsmL_length
  have z1 : IntKind.i64.wrap (4 * dr) = 4 * dr := IntWalk.i64_in _ (by omega)
  have z2 : IntKind.i64.wrap (4 * dr + 6) = 4 * dr + 6 := IntWalk.i64_in _ (by omega)
  have z3 : IntKind.i64.wrap (4 * dr + 9) = 4 * dr + 9 := IntWalk.i64_in _ (by omega)
  unfold gsmT tabV
  simp only
  go_enter Tryz.func49, Tryz.ntmps49
  have hb0 := ((Below.refl w.heap.size w).alloc (Nat.le_refl _) (.cells #[.slice none 0 0, .int .i64 0, .int .i64 0, .int .i64 0] 29)).alloc (by simp) (.cells #[.slice none 0 0, .int .i64 dr, .int .i64 (4 * dr + 6), .int .i64 (4 * dr + 9)] 29)
  have hR := (Blk.new w _ rfl #[.slice none 0 0, .int .i64 0, .int .i64 0, .int .i64 0] 29).alloc (.cells #[.slice none 0 0, .int .i64 dr, .int .i64 (4 * dr + 6), .int .i64 (4 * dr + 9)] 29)
  have hT := Blk.new (w.alloc (.cells #[.slice none 0 0, .int .i64 0, .int .i64 0, .int .i64 0] 29)) (w.heap.size + 1) (by simp) #[.slice none 0 0, .int .i64 dr, .int .i64 (4 * dr + 6), .int .i64 (4 * dr + 9)] 29
  go_wp2
  generalize (w.alloc (.cells #[.slice none 0 0, .int .i64 0, .int .i64 0, .int .i64 0] 29)).alloc (.cells #[.slice none 0 0, .int .i64 dr, .int .i64 (4 * dr + 6), .int .i64 (4 * dr + 9)] 29) = w0 at *
  have hz0 : w.heap.size + 1 < w0.heap.size := hT.lt
  go_loopw [6] (fun i wr => ∃ k : Nat, ∃ v : Value, k ≤ n ∧ i = .int .i64 k ∧ OwnsD wr w0.heap.size v (gsmL k) ∧ Blk wr (w.heap.size + 1) #[v, .int .i64 dr, .int .i64 (4 * dr + 6), .int .i64 (4 * dr + 9)] 29 ∧ w0.heap.size ≤ wr.heap.size ∧ Below (w.heap.size + 1) w0 wr) (fun i _ => n - (intOf i).toNat)
  case atStart => exact ⟨0, _, by omega, rfl, OwnsD.nil, hT, Nat.le_refl _, Below.refl _ _⟩
  case round =>
    obtain ⟨k, v, hk, rfl, hown, hblk, hz, hb⟩ := hrel
    by_cases hlt : k < n
    · have q1 : decide ((k : Int) < (n : Nat)) = true := by simp; omega
      have q2 : decide ((k : Int) < 8) = true := by simp; omega
      have t0 := hblk.cell 0 rfl
      have tf := hblk.frozen 0
      have hlk : (gsmL k).length ≤ 100000 := by rw [gsmL_length]; omega
      have hgv : v.ownBlock ≠ some (w.heap.size + 1) := fun e => by have := (hown.lt _ e).1; omega
      have key : ∀ b : Bool, gsmD k = ⟨b, ((k : Int) % 3 == 0), 20 + 3 * ((k : Int) * 5 % 8), 4⟩ → ∀ (v2 : Value) (w2 : World), w2.ownsRow w0.heap.size 60 4 v2 ((gsmL k).length + 1) ((gsmL k).flatMap dc ++ dc ⟨b, ((k : Int) % 3 == 0), 20 + 3 * ((k : Int) * 5 % 8), 4⟩) →
          Ext (wr.alloc (.cells #[.bool b, .bool ((k : Int) % 3 == 0), .int .i64 (20 + 3 * ((k : Int) * 5 % 8)), .int .i64 4] 60)) w2 v v2 → ∃ g2 c2, v2 = .slice (some ⟨g2, 0, none⟩) (k + 1) c2 ∧ Blk w2 (w.heap.size + 1) #[v, .int .i64 dr, .int .i64 (4 * dr + 6), .int .i64 (4 * dr + 9)] 29 ∧
          OwnsD (w2.setCell ⟨w.heap.size + 1, 0, none⟩ (.slice (some ⟨g2, 0, none⟩) (k + 1) c2)) w0.heap.size v2 (gsmL (k + 1)) ∧ Blk (w2.setCell ⟨w.heap.size + 1, 0, none⟩ (.slice (some ⟨g2, 0, none⟩) (k + 1) c2)) (w.heap.size + 1) #[.slice (some ⟨g2, 0, none⟩) (k + 1) c2, .int .i64 dr, .int .i64 (4 * dr + 6), .int .i64 (4 * dr + 9)] 29 ∧
          w0.heap.size ≤ (w2.setCell ⟨w.heap.size + 1, 0, none⟩ (.slice (some ⟨g2, 0, none⟩) (k + 1) c2)).heap.size ∧ Below (w.heap.size + 1) w0 (w2.setCell ⟨w.heap.size + 1, 0, none⟩ (.slice (some ⟨g2, 0, none⟩) (k + 1) c2)) := fun b hsd v2 w2 ho2 hx2 => by
        rw [← hsd] at ho2
        have ho3 : OwnsD w2 w0.heap.size v2 (gsmL (k + 1)) := by
          rw [hsu.out]
          exact OwnsD.snoc ho2
        have hxx := ((Ext.refl wr v).alloc (.cells #[.bool b, .bool ((k : Int) % 3 == 0), .int .i64 (20 + 3 * ((k : Int) * 5 % 8)), .int .i64 4] 60)).trans hx2
        have hb2 := hb.trans (hxx.toBelow (B := w.heap.size + 1) (by omega) (fun j hj => by have := (hown.lt j hj).1; omega))
        have hblk5 := hblk.ext hxx hgv
        have hl1 := hsl.out (k + 1)
        obtain ⟨g2, c2, rfl, hg2⟩ : ∃ g2 c2, v2 = .slice (some ⟨g2, 0, none⟩) (k + 1) c2 ∧ w0.heap.size ≤ g2 := by
          rcases ho3.form with ⟨-, h0⟩ | ⟨g2, c2, h, h1, -⟩
          · omega
          · exact ⟨g2, c2, by rw [h, hl1], h1⟩
        refine ⟨g2, c2, rfl, hblk5, ho3.setOther ⟨w.heap.size + 1, 0, none⟩ _ (by simp [Value.ownBlock]; omega), by simpa using hblk5.set 0 (.slice (some ⟨g2, 0, none⟩) (k + 1) c2), by have := hxx.size; simp only [World.setCell, Array.size_modify]; omega, Below.setCell (p := ⟨w.heap.size + 1, 0, none⟩) hb2 (Nat.le_refl _) _⟩
      have key := fun b h => Lib.hid (key b h)
      have hSD : Hid (∀ b, ((b = true ∧ (k : Int) < 4) ∨ (b = ((k : Int) % 2 == 0) ∧ ¬ (k : Int) < 4)) → gsmD k = ⟨b, ((k : Int) % 3 == 0), 20 + 3 * ((k : Int) * 5 % 8), 4⟩) := Lib.hid fun b hb => by
        unfold gsmD
        rcases hb with ⟨rfl, h⟩ | ⟨rfl, h⟩ <;> simp [h]
      by_cases q4 : (k : Int) < 4
      · have K := key true (hSD.out true (.inl ⟨rfl, q4⟩))
        have hAt := atD_new wr ⟨true, ((k : Int) % 3 == 0), 20 + 3 * ((k : Int) * 5 % 8), 4⟩ 60 wr.heap.size rfl
        go_wp2_with (at_builtin; go_loud (refine wpList_pushC _ rfl (.tmp 25) (.tmp 42) 27 rfl w0.heap.size 60 _ 4 24 info_def rfl (by omega) Tryz.underlying27 v (gsmL k).length _ (hown.alloc _) rfl _ 1 _ rfl (src_def _ ⟨true, ((k : Int) % 3 == 0), 20 + 3 * ((k : Int) * 5 % 8), 4⟩ _ _ _ rfl hAt) (by simp; omega) (defs_room hlk).1 (defs_room hlk).2 ?_))
        intro v2 w2 ho2 hx2
        obtain ⟨g2, c2, rfl, B1, O1, B2, Z1, W1⟩ := K.out v2 w2 ho2 hx2
        have u0 := B1.cell 0 rfl
        have uf := B1.frozen 0
        clear t0 tf ho2 hx2 hAt B1 K key
        go_wp2
        go_roundw
        case rel => exact ⟨k + 1, _, by omega, by go_num, O1, B2, Z1, W1⟩
        case measure => simp [intOf]; omega
      · have K := key _ (hSD.out _ (.inr ⟨rfl, q4⟩))
        have hAt := atD_new wr ⟨((k : Int) % 2 == 0), ((k : Int) % 3 == 0), 20 + 3 * ((k : Int) * 5 % 8), 4⟩ 60 wr.heap.size rfl
        go_wp2_with (at_builtin; go_loud (refine wpList_pushC _ rfl (.tmp 25) (.tmp 42) 27 rfl w0.heap.size 60 _ 4 24 info_def rfl (by omega) Tryz.underlying27 v (gsmL k).length _ (hown.alloc _) rfl _ 1 _ rfl (src_def _ ⟨((k : Int) % 2 == 0), ((k : Int) % 3 == 0), 20 + 3 * ((k : Int) * 5 % 8), 4⟩ _ _ _ rfl hAt) (by simp; omega) (defs_room hlk).1 (defs_room hlk).2 ?_))
        intro v2 w2 ho2 hx2
        obtain ⟨g2, c2, rfl, B1, O1, B2, Z1, W1⟩ := K.out v2 w2 ho2 hx2
        have u0 := B1.cell 0 rfl
        have uf := B1.frozen 0
        clear t0 tf ho2 hx2 hAt B1 K key
        go_wp2
        go_roundw
        case rel => exact ⟨k + 1, _, by omega, by go_num, O1, B2, Z1, W1⟩
        case measure => simp [intOf]; omega
    · obtain rfl : k = n := by omega
      have q1 : decide ((k : Int) < (k : Nat)) = false := by simp
      obtain ⟨A', c2, rfl, -⟩ := hown.sees.at_
      have hR2 := hR.below hb (by omega)
      have t0 := hblk.cell 0 rfl
      have t1 := hblk.cell 1 rfl
      have t2 := hblk.cell 2 rfl
      have t3 := hblk.cell 3 rfl
      have r0 := hR2.cell 0 rfl
      have r1 := hR2.cell 1 rfl
      have r2 := hR2.cell 2 rfl
      have r3 := hR2.cell 3 rfl
      have f0 := hR2.frozen 0
      have f1 := hR2.frozen 1
      have f2 := hR2.frozen 2
      have f3 := hR2.frozen 3
      have hvR : (Value.slice A' (gsmL k).length c2).ownBlock ≠ some w.heap.size := fun e => by have := (hown.lt _ e).1; omega
      have hbr := hb0.trans (hb.mono (by omega))
      clear hR hT
      go_wp2_with fail
      refine bodyPost_ret (v := .agg #[.slice A' (gsmL k).length c2, .int .i64 dr, .int .i64 (4 * dr + 6), .int .i64 (4 * dr + 9)]) ?_ rfl ⟨_, rfl, ?_, ?_⟩
      · rw [results_cell rfl]
        go_simp
      · refine OwnsD.base (Bs := w0.heap.size) ?_ (by omega)
        (repeat' (first | exact hown | exact hvR | (with_reducible refine OwnsD.setOther ?_ _ _ ?_)))
      · (repeat' (first | exact hbr | (with_reducible refine Below.setCell ?_ ?_ _) | exact Nat.le_refl _))
end Go.Proofs.YtpdenmcacaajkaaGreat

/-! ### WdO -/
namespace Go.Proofs.YtpdenmcacaajkaaGreat
open Go.RowKit

theorem info_np : (Tryz.prog.info? 23).map (fun i => (i.zero, i.size, i.bytes)) = some (some (.pointer none), 1, 8) := by kernel_rfl
theorem src_ptr (w : World) (t : TypeId) (b g : Nat) (hb : b = w.heap.size) : Src (w.alloc (.cells #[.pointer (some ⟨g, 0, none⟩)] t)) (.slice (some ⟨b, 0, none⟩) 1 1) 1 1 [.pointer (some ⟨g, 0, none⟩)] := by
  refine .inr ⟨_, 1, rfl, rfl, fun j x hj => ?_, fun x hx => ?_⟩
  · match j, hj with
    | 0, hj => simp at hj; subst hj; show (w.alloc _).cell? ⟨b, 0, none⟩ = _; rw [World.cell?_alloc_at _ _ _ _ hb]; rfl
    | j + 1, hj => simp at hj
  · rw [List.mem_singleton.1 hx]; rfl
set_option maxRecDepth 100000 in
set_option maxHeartbeats 4000000 in
theorem wnew (t : Tb.T) (tv dv rv : Value) (dl : List Int) (l : List R4) (W : World) (ht : SeesT W W.heap.size tv t.ns) (hd : SeesI W W.heap.size dv dl) (hr : SeesRs W W.heap.size rv l) (his : t.is = true) (hN : dl.length = t.ns.length) (hmay : ∀ i, i < t.ns.length → NM.may t (i : Nat) (dl.getD i 0) l) :
    Calls Tryz.prog 13 #[tabV t tv, dv, rv] W fun e w' => ∃ x, e = .returned (.tuple #[.pointer (some ⟨x, 0, none⟩), .int .i64 0]) ∧ WAt W.heap.size [] t.ns.length w' x (WM.new t dl l) ∧ Below W.heap.size W w' := by
  have hn4 := (Tb.T.may his).n4
  have hn8 := (Tb.T.may his).n8
  have hbx := (Below.refl W.heap.size W).alloc (Nat.le_refl _) (.cells #[tv, .int .i64 t.dr, .int .i64 t.wi, .int .i64 t.lm] 29)
  have X := Blk.new W W.heap.size rfl #[tv, .int .i64 t.dr, .int .i64 t.wi, .int .i64 t.lm] 29
  have hT := fun W' (hb : Below W.heap.size W W') => (ht.below hb).more hb.size
  have hS := fun W' (hb : Below W.heap.size W W') => Lib.hid (new_sr t tv W' (hT W' hb) his)
  obtain ⟨Ad, cd, rfl, d1, d2, d3, d4⟩ := hd.at_
  obtain ⟨At, ct, rfl, -⟩ := ht.at_
  unfold tabV at hS ⊢
  rw [hN] at d1 d3 d4 ⊢
  have q0 : (((t.ns.length : Nat) : Int) != ((t.ns.length : Nat) : Int)) = false := by simp
  have tz : ∀ k : Nat, ((k : Nat) : Int).toNat = k := fun k => Int.toNat_natCast k
  have hNd := fun (k : Nat) (hk : k < t.ns.length) (wr : World) (hb : Below W.heap.size W wr) => Lib.hid (nodeApi.new_ok t (.slice At t.ns.length ct) rv (k : Nat) (dl.getD k 0) l wr (hT wr hb) ((hr.below hb).more hb.size) (hmay k hk))
  simp only [Int.toNat_natCast] at hNd
  unfold tabV at hNd
  have hdc : Hid (∀ (k : Nat) (wr : World), k < t.ns.length → Below W.heap.size W wr → ∃ b off, Ad = some ⟨b, off, none⟩ ∧ wr.cell? ⟨b, off + k, none⟩ = some (.int .i64 (dl.getD k 0))) := Lib.hid fun k wr hk hb => by
    obtain ⟨b, off, e, hlt, hc⟩ := d3 (by omega)
    exact ⟨b, off, e, (hb.cell (p := ⟨b, off + k, none⟩) hlt).trans (hc k hk)⟩
  generalize hNe : t.ns.length = N at *
  go_enter Tryz.func13, Tryz.ntmps13
  have x0 := X.cell 0 (x := .slice At N ct) rfl
  have x1 := X.cell 1 (x := .int .i64 t.dr) rfl
  have x2 := X.cell 2 (x := .int .i64 t.wi) rfl
  have x3 := X.cell 3 (x := .int .i64 t.lm) rfl
  go_wp2_with fail
  clear x0 x1 x2 x3
  refine (hS _ hbx).out.mono ?_
  rintro e w1 ⟨gs, rfl, hgs, hG, hb1⟩
  have X1 := X.below hb1 X.lt
  have hB1 := hbx.trans (hb1.mono (by simp))
  have x0 := X1.cell 0 (x := .slice At N ct) rfl
  have hXl := X.lt
  have hgs0 : W.heap.size < gs := by (have hgs1 : W.heap.size + 1 ≤ gs := by simpa using hgs); omega
  have hNW : NW W.heap.size t dl l w1.heap.size gs 0 (fun _ => 0) (fun _ => []) (.slice none 0 0) W (w1.alloc (.cells #[.slice none 0 0, .pointer (some ⟨gs, 0, none⟩), .int .i64 0] 110)) :=
    ⟨Blk.new w1 _ rfl _ _, by rw [hNe]; exact hG.below ((Below.refl _ _).alloc (Nat.le_refl _) _) hG.lt, World.ownsRow_nil _ _ _ _, fun i hi => by omega, fun i hi => by omega, fun i j hi => by omega, ⟨by omega, hG.lt⟩, hB1.alloc hB1.size _⟩
  have X2 := X1.alloc (.cells #[.slice none 0 0, .pointer (some ⟨gs, 0, none⟩), .int .i64 0] 110)
  have hNW := Lib.hid hNW
  have hXw : W.heap.size < w1.heap.size := X1.lt
  clear hS X X1 hb1 hB1 hG hbx
  go_wp2_with fail
  clear x0
  generalize w1.alloc (.cells #[.slice none 0 0, .pointer (some ⟨gs, 0, none⟩), .int .i64 0] 110) = w2 at *
  generalize w1.heap.size = x at *
  go_loopw [35] (fun i wr => ∃ (k : Nat) (gp : Nat → Nat) (F : Nat → List Nat) (v : Value), k ≤ N ∧ i = .int .i64 (k : Nat) ∧ NW W.heap.size t dl l x gs k gp F v W wr ∧ Blk wr W.heap.size #[.slice At N ct, .int .i64 t.dr, .int .i64 t.wi, .int .i64 t.lm] 29) (fun i _ => N - (intOf i).toNat)
  case atStart => exact ⟨0, _, _, _, by omega, rfl, hNW.out, X2⟩
  case round =>
    clear hNW X2
    obtain ⟨k, gp, F, v, hk, rfl, h, X⟩ := hrel
    by_cases hlt : k < N
    · have r1 : decide ((k : Int) < (N : Nat)) = true := by simp; omega
      obtain ⟨b, off, rfl, hdr⟩ := hdc.out k wr hlt h.bw
      have x0 := X.cell 0 (x := .slice At N ct) rfl
      have x1 := X.cell 1 (x := .int .i64 t.dr) rfl
      have x2 := X.cell 2 (x := .int .i64 t.wi) rfl
      have x3 := X.cell 3 (x := .int .i64 t.lm) rfl
      have hN4 := hNd k hlt wr h.bw
      obtain ⟨y, hy0⟩ : ∃ y, y = dl.getD k 0 := ⟨_, rfl⟩
      have hy := Lib.hid hy0
      rw [← hy0] at hdr hN4
      clear hy0
      go_wp2_with fail
      clear x0 x1 x2 x3 hdr
      refine hN4.out.mono ?_
      rintro e w4 ⟨g, F', rfl, hn, hF, hb4⟩
      rw [hy.out] at hn
      have X4 := X.below hb4 X.lt
      obtain ⟨gp', F'', eg, h4, hn4, hF4, hd4⟩ := h.node hb4 hn hF
      subst eg
      have hx4 := h4.lt
      have hl4 := h4.lst
      have c0 := h4.blk.cell 0 (x := v) rfl
      have hvx : v.ownBlock ≠ some x := fun e => by have := (hl4.lt x e).1; omega
      have hvX : v.ownBlock ≠ some W.heap.size := fun e => by have := (hl4.lt _ e).1; omega
      have hsrc := src_ptr w4 23 w4.heap.size (gp' k) rfl
      clear h hn hF hb4 hN4 X
      go_wp2_with (at_builtin; go_loud (refine wpList_pushC _ rfl (.tmp 54) (.tmp 56) 108 rfl (x + 1) 23 _ 1 8 info_np rfl (by omega) Tryz.underlying108 v k _ (hl4.alloc _) rfl _ 1 _ rfl hsrc (by simp; omega) (by simp [maxLen]; omega) (by omega) ?_))
      intro v5 w5 hl5 hx5
      obtain ⟨b5, e5, rfl⟩ : ∃ b5 e5, v5 = .slice (some ⟨b5, 0, none⟩) (k + 1) e5 := by
        rcases hl5.2 with ⟨-, e⟩ | ⟨g5, cap5, cur5, e, -⟩
        · omega
        · exact ⟨g5, cap5, e⟩
      have hE := ((Ext.refl w4 v).alloc (.cells #[.pointer (some ⟨gp' k, 0, none⟩)] 23)).trans hx5
      have hX5 : Blk w5 x #[v, .pointer (some ⟨gs, 0, none⟩), .int .i64 0] 110 := (hE.grown.block x hx4 (fun e => hvx e.symm)).trans h4.blk
      have c5 := hX5.cell 0 (x := v) rfl
      have f5 := hX5.frozen 0
      have h6 := Lib.hid (h4.push hn4 hF4 hd4 hE hl5)
      have X6 : Hid (Blk (w5.setCell ⟨x, 0, none⟩ (.slice (some ⟨b5, 0, none⟩) (k + 1) e5)) W.heap.size #[.slice At N ct, .int .i64 t.dr, .int .i64 t.wi, .int .i64 t.lm] 29) := Lib.hid (Blk.other ((hE.grown.block _ X4.lt (fun e => hvX e.symm)).trans X4) ⟨x, 0, none⟩ (by show W.heap.size ≠ x; omega) _)
      clear h4 hn4 hF4 hd4 hE hl5 hx5 hX5 c0 hl4 hsrc X4
      go_wp2_with fail
      go_roundw
      case rel => exact ⟨k + 1, gp', F'', _, by omega, by go_num, h6.out, X6.out⟩
      case measure => simp [intOf]; omega
    · obtain rfl : k = N := by omega
      have r1 : decide ((k : Int) < (k : Nat)) = false := by simp
      have hw := Lib.hid (h.done (by omega) hNe.symm)
      have hbw := Lib.hid h.bw
      clear h X
      go_wp2_with fail
      go_ret2
      exact ⟨x, rfl, hw.out, hbw.out⟩
end Go.Proofs.YtpdenmcacaajkaaGreat

/-! ### WdM -/
namespace Go.Proofs.YtpdenmcacaajkaaGreat
open Go.RowKit
open Fr (St F)

/-- What is sent is bytes, not many. -/
theorem sent_good {b : Bool} {G : Nat → Prop} {W : World} {g : Nat} {s : NM} (h : NA b G W g s.sendS) (hj : NJ s.sendS) : bytesL s.sent ∧ s.sent.length ≤ 16 := by
  unfold NM.sent
  by_cases e : s.sendK = 0
  · rw [if_pos e]; exact ⟨fun x hx => (by cases hx), by simp⟩
  · rw [if_neg e]
    have hk : 1 ≤ s.sendK ∧ s.sendK ≤ 3 := by
      unfold NM.sendK at e ⊢
      repeat' split
      all_goals simp_all
    have hn8 := hj.may.n8
    have his : (s.sendS.frm s.sendK).is = true := by
      rw [F.is_iff]
      exact ⟨hk, view_may hj.rd (by have := hj.sl; omega) h.tyo, hj.da.1⟩
    refine ⟨F.bytes_ok his hj.da.2, ?_⟩
    rw [F.bytes_length]
    have h1 : (s.sendS.frm s.sendK).hl ≤ 6 := by unfold F.hl; split <;> omega
    have h2 : (s.sendS.frm s.sendK).d.length ≤ 8 := hj.da.1
    omega
theorem sentAt_good {F : List Nat} {W : World} {g : Nat} {s : NM} (h : NAt F W g s.sendS) : bytesL s.sent ∧ s.sent.length ≤ 16 := by
  obtain ⟨b, ha, hi⟩ := h.a
  exact sent_good ha hi.j
theorem fst_range (f : Nat → Bool) (n : Nat) : fst f n = -1 ∨ ∃ j : Nat, fst f n = j ∧ j < n ∧ f j = true := by
  by_cases h : ∃ j, j < n ∧ f j = true
  · obtain ⟨j, hj, hf⟩ := h
    right
    have : ∀ m, (∃ j, j < m ∧ j < n ∧ f j = true) → ∃ k, k < n ∧ f k = true ∧ ∀ i, i < k → f i = false := by
      intro m
      induction m with
      | zero => rintro ⟨j, h, -⟩; omega
      | succ m ih =>
        rintro ⟨j, h1, h2, h3⟩
        by_cases e : ∃ j, j < m ∧ j < n ∧ f j = true
        · exact ih e
        · refine ⟨j, h2, h3, fun i hi => ?_⟩
          by_cases hi2 : f i = true
          · exact absurd ⟨i, by omega, by omega, hi2⟩ e
          · simpa using hi2
    obtain ⟨k, h1, h2, h3⟩ := this (j + 1) ⟨j, Nat.lt_succ_self _, hj, hf⟩
    exact ⟨k, fst_hit h1 h2 h3, h1, h2⟩
  · left
    refine fst_none fun k hk => ?_
    by_cases e : f k = true
    · exact absurd ⟨k, hk, e⟩ h
    · simpa using e
theorem pass_range (s : G) (f : Nat → Bool) (a : Nat → Int) (hs : s.slot < s.n) : s.pass f a = -1 ∨ ∃ j : Nat, s.pass f a = j ∧ j < s.n ∧ f j = true := by
  unfold G.pass
  split
  · split
    · rename_i h
      rw [Bool.and_eq_true] at h
      exact .inr ⟨s.slot, rfl, hs, h.1⟩
    · exact .inl rfl
  · exact fst_range f s.n
namespace WM
/-- What is sent, and when. -/
def bs (u : WM) (N i : Nat) : List Int := if i < N then (u.ms i).sent else []
def at_ (u : WM) (N i : Nat) : Int := if i < N then (u.ms i).sendS.tm else 0
def sd (u : WM) (N : Nat) : List Sd := m0 N (u.bs N) (u.at_ N)
/-- Who is heard; -1: nobody. -/
def who (u : WM) (N : Nat) : Int := u.s.pass (sF (u.sd N)) (sA (u.sd N))
def heard (u : WM) (N : Nat) : List Int := if u.who N < 0 then [] else u.bs N (u.who N).toNat
def when_ (u : WM) (N : Nat) : Int := if u.who N < 0 then 0 else u.at_ N (u.who N).toNat
def hear (u : WM) (N i : Nat) : Hn := if u.who N < 0 then ⟨0, 0, [], [], 0⟩ else ⟨2, 2, u.heard N, u.heard N, u.when_ N - u.at_ N i⟩
def slot (u : WM) (N : Nat) : WM := ⟨fun i => if i < N then (u.ms i).sendS.take (u.hear N i) else u.ms i, u.s.ended (u.heard N) (u.when_ N), u.sl + 1⟩
end WM
/-- What may be asked of the slot. -/
structure WOk (N : Nat) (u : WM) : Prop where
  n4 : 4 ≤ N ∧ N ≤ 8
  sn : u.s.n = N
  tm : ∀ i, i < N → -100000 ≤ (u.ms i).sendS.tm ∧ (u.ms i).sendS.tm ≤ 100000
  ty : ∀ i, i < N → (u.ms i).sendS.ty.a < 900 ∧ (u.ms i).sendS.ty.f < 900
  now : -100000 ≤ u.s.now ∧ u.s.now ≤ 100000
  slot : u.s.slot < N
  small : small u.s.l
  lm : 0 ≤ u.s.lm ∧ u.s.lm ≤ 1000
  wi : 0 ≤ u.s.wi ∧ u.s.wi ≤ 1000
  si : u.s.si ≤ 1000
theorem WM.at_bd {N : Nat} {u : WM} (h : WOk N u) (i : Nat) : -100000 ≤ u.at_ N i ∧ u.at_ N i ≤ 100000 := by
  unfold WM.at_
  split
  · exact h.tm i (by assumption)
  · omega
theorem WM.when_bd {N : Nat} {u : WM} (h : WOk N u) : -100000 ≤ u.when_ N ∧ u.when_ N ≤ 100000 := by
  unfold WM.when_
  split
  · omega
  · exact WM.at_bd h _
theorem WOk.ok {N : Nat} {u : WM} (h : WOk N u) : u.s.Ok (u.when_ N) := by
  have := WM.when_bd h
  refine ⟨by rw [h.sn]; exact h.n4.2, by rw [h.sn]; exact h.slot, h.small, ?_, ?_, ?_, h.si⟩
  · have := h.lm; omega
  · have := h.now; omega
  · have := h.now; omega
/-- Who is heard sends. -/
theorem WM.who_range {N : Nat} {u : WM} (h : WOk N u) : u.who N = -1 ∨ ∃ j : Nat, u.who N = j ∧ j < N ∧ 0 < (u.bs N j).length := by
  rcases pass_range u.s (sF (u.sd N)) (sA (u.sd N)) (by rw [h.sn]; exact h.slot) with e | ⟨j, e, hj, hf⟩
  · exact .inl e
  · rw [h.sn] at hj
    refine .inr ⟨j, e, hj, ?_⟩
    unfold WM.sd at hf
    rw [sF_m0 N _ _ j hj] at hf
    exact of_decide_eq_true hf
end Go.Proofs.YtpdenmcacaajkaaGreat

/-! ### NdNil -/
namespace Go.Proofs.YtpdenmcacaajkaaGreat
open Go.ChangeShapes Go.WideShapes Go.ChangeAt Go.RowKit

end Go.Proofs.YtpdenmcacaajkaaGreat

/-! ### WdB -/
namespace Go.Proofs.YtpdenmcacaajkaaGreat
open Go.RowKit

section
variable {B : Nat} {P : List Nat} {N : Nat} {q : WP} {W : World} {x : Nat} {u : WM}
set_option maxRecDepth 100000 in
set_option maxHeartbeats 1000000 in
theorem wnodes (h : WIn B P N q W x u) : Calls Tryz.prog 51 #[.pointer (some ⟨x, 0, none⟩)] W fun e w' => e = .returned (.int .i64 (N : Nat)) ∧ w' = W := by
  have x0 := h.blk.cell 0 (x := .slice (some ⟨q.nb, 0, none⟩) N q.cap) rfl
  go_enter Tryz.func51, Tryz.ntmps51
  go_wp2
  go_ret
  exact ⟨rfl, rfl⟩
set_option maxRecDepth 100000 in
set_option maxHeartbeats 1000000 in
theorem wslots (h : WIn B P N q W x u) : Calls Tryz.prog 50 #[.pointer (some ⟨x, 0, none⟩)] W fun e w' => e = .returned (.int .i64 (u.sl : Nat)) ∧ w' = W := by
  have x2 := h.blk.cell 2 (x := .int .i64 (u.sl : Nat)) rfl
  go_enter Tryz.func50, Tryz.ntmps50
  go_wp2
  go_ret
  exact ⟨rfl, rfl⟩
set_option maxRecDepth 100000 in
set_option maxHeartbeats 1000000 in
theorem wnode_in (h : WIn B P N q W x u) (i : Nat) (hi : i < N) : Calls Tryz.prog 101 #[.pointer (some ⟨x, 0, none⟩), .int .i64 (i : Nat)] W fun e w' => e = .returned (.pointer (some ⟨q.gp i, 0, none⟩)) ∧ w' = W := by
  have x0 := h.blk.cell 0 (x := .slice (some ⟨q.nb, 0, none⟩) N q.cap) rfl
  have p0 := h.ptr i hi
  have hn := Lib.hid (wnodes h)
  have q1 : decide (((i : Nat) : Int) < 0) = false := decide_eq_false (by omega)
  have q2 : decide (((N : Nat) : Int) ≤ ((i : Nat) : Int)) = false := decide_eq_false (by omega)
  clear h
  go_enter Tryz.func101, Tryz.ntmps101
  go_wp2_with fail
  refine hn.out.mono ?_
  rintro _ _ ⟨rfl, rfl⟩
  go_wp2
  go_ret
  exact ⟨rfl, rfl⟩
end
end Go.Proofs.YtpdenmcacaajkaaGreat

/-! ### SrX -/
namespace Go.Proofs.YtpdenmcacaajkaaGreat
open Go.RowKit

def sl8 (A : Nat → Option Addr) (c : Nat → Nat) (b : Nat → List Int) : Array Value := #[.slice (A 0) (b 0).length (c 0), .slice (A 1) (b 1).length (c 1), .slice (A 2) (b 2).length (c 2), .slice (A 3) (b 3).length (c 3), .slice (A 4) (b 4).length (c 4), .slice (A 5) (b 5).length (c 5), .slice (A 6) (b 6).length (c 6), .slice (A 7) (b 7).length (c 7)]
def put8 {α : Type} (g : Nat → α) (k : Nat) (x : α) (i : Nat) : α := if i = k then x else g i
theorem sl8_get (A : Nat → Option Addr) (c : Nat → Nat) (b : Nat → List Int) (k : Nat) (hk : k < 8) : (sl8 A c b)[k]? = some (.slice (A k) (b k).length (c k)) := by
  rcases (by omega : k = 0 ∨ k = 1 ∨ k = 2 ∨ k = 3 ∨ k = 4 ∨ k = 5 ∨ k = 6 ∨ k = 7) with rfl | rfl | rfl | rfl | rfl | rfl | rfl | rfl <;> rfl
theorem sl8_set (A : Nat → Option Addr) (c : Nat → Nat) (b : Nat → List Int) (k : Nat) (hk : k < 8) (A' : Option Addr) (c' : Nat) (l : List Int) : (sl8 A c b).setIfInBounds k (.slice A' l.length c') = sl8 (put8 A k A') (put8 c k c') (put8 b k l) := by
  rcases (by omega : k = 0 ∨ k = 1 ∨ k = 2 ∨ k = 3 ∨ k = 4 ∨ k = 5 ∨ k = 6 ∨ k = 7) with rfl | rfl | rfl | rfl | rfl | rfl | rfl | rfl <;> simp [sl8, put8]
theorem HAt.same {W W' : World} {b : Nat} {f : Nat → Hd} (h : HAt W b f) (e : W'.heap[b]? = W.heap[b]?) : HAt W' b f := fun j v hj => by
  rw [← h j v hj]
  simp only [World.cell?, e]
end Go.Proofs.YtpdenmcacaajkaaGreat

/-! ### WdD -/
namespace Go.Proofs.YtpdenmcacaajkaaGreat
open Go.RowKit

/-- Behind k nodes' Send. -/
def WM.sent1 (u : WM) (k : Nat) : WM := { u with ms := fun i => if i < k then (u.ms i).sendS else u.ms i }
def WM.bsK (u : WM) (k i : Nat) : List Int := if i < k then (u.ms i).sent else []
def WM.atK (u : WM) (k i : Nat) : Int := if i < k then (u.ms i).sendS.tm else 0
theorem WM.alike {a b : WM} (h1 : ∀ i, a.ms i = b.ms i) (h2 : a.s = b.s) (h3 : a.sl = b.sl) : a = b := by
  obtain ⟨m, s, l⟩ := a
  obtain ⟨m', s', l'⟩ := b
  obtain rfl : m = m' := funext h1
  obtain rfl : s = s' := h2
  obtain rfl : l = l' := h3
  rfl
theorem WM.sent1_0 (u : WM) : u.sent1 0 = u := by unfold WM.sent1; simp
theorem WM.sent1_at (u : WM) (k : Nat) : (u.sent1 k).ms k = u.ms k := by unfold WM.sent1; simp
theorem WM.sent1_step (u : WM) (k : Nat) : ({ u.sent1 k with ms := upd' (u.sent1 k).ms k (u.ms k).sendS } : WM) = u.sent1 (k + 1) := by
  refine WM.alike (fun i => ?_) rfl rfl
  show upd' (fun i => if i < k then (u.ms i).sendS else u.ms i) k (u.ms k).sendS i = if i < k + 1 then (u.ms i).sendS else u.ms i
  unfold upd'
  by_cases e : i = k
  · subst e; simp
  · rw [if_neg e]
    show (if i < k then (u.ms i).sendS else u.ms i) = if i < k + 1 then (u.ms i).sendS else u.ms i
    by_cases h : i < k
    · rw [if_pos h, if_pos (by omega)]
    · rw [if_neg h, if_neg (by omega)]
theorem WM.bsK_step (u : WM) (k : Nat) : put8 (u.bsK k) k (u.ms k).sent = u.bsK (k + 1) := by
  funext i
  unfold put8 WM.bsK
  by_cases e : i = k
  · subst e; simp
  · rw [if_neg e]
    by_cases h : i < k
    · rw [if_pos h, if_pos (by omega)]
    · rw [if_neg h, if_neg (by omega)]
theorem WM.atK_step (u : WM) (k : Nat) (hk : k < 8) : (i8 (u.atK k)).setIfInBounds k (.int .i64 (u.ms k).sendS.tm) = i8 (u.atK (k + 1)) := by
  have e : ∀ i, u.atK (k + 1) i = if i = k then (u.ms k).sendS.tm else u.atK k i := fun i => by
    unfold WM.atK
    by_cases e : i = k
    · subst e; simp
    · rw [if_neg e]
      by_cases h : i < k
      · rw [if_pos h, if_pos (by omega)]
      · rw [if_neg h, if_neg (by omega)]
  rw [show u.atK (k + 1) = fun i => if i = k then (u.ms k).sendS.tm else u.atK k i from funext e]
  rcases (by omega : k = 0 ∨ k = 1 ∨ k = 2 ∨ k = 3 ∨ k = 4 ∨ k = 5 ∨ k = 6 ∨ k = 7) with rfl | rfl | rfl | rfl | rfl | rfl | rfl | rfl <;> simp [i8]
/-- Behind k nodes' Take. -/
def WM.took (u : WM) (N k : Nat) : WM := ⟨fun i => if i < k then (u.ms i).sendS.take (u.hear N i) else (u.sent1 N).ms i, u.s.ended (u.heard N) (u.when_ N), u.sl⟩
theorem WM.took_0 (u : WM) (N : Nat) : u.took N 0 = ⟨(u.sent1 N).ms, u.s.ended (u.heard N) (u.when_ N), u.sl⟩ := by unfold WM.took; simp
theorem WM.took_at (u : WM) {N k : Nat} (hk : k < N) : (u.took N k).ms k = (u.ms k).sendS := by unfold WM.took WM.sent1; simp [hk]
theorem WM.took_step (u : WM) (N k : Nat) : ({ u.took N k with ms := upd' (u.took N k).ms k ((u.ms k).sendS.take (u.hear N k)) } : WM) = u.took N (k + 1) := by
  refine WM.alike (fun i => ?_) rfl rfl
  show upd' (fun i => if i < k then (u.ms i).sendS.take (u.hear N i) else (u.sent1 N).ms i) k ((u.ms k).sendS.take (u.hear N k)) i = if i < k + 1 then (u.ms i).sendS.take (u.hear N i) else (u.sent1 N).ms i
  unfold upd'
  by_cases e : i = k
  · subst e; simp
  · rw [if_neg e]
    show (if i < k then (u.ms i).sendS.take (u.hear N i) else (u.sent1 N).ms i) = if i < k + 1 then (u.ms i).sendS.take (u.hear N i) else (u.sent1 N).ms i
    by_cases h : i < k
    · rw [if_pos h, if_pos (by omega)]
    · rw [if_neg h, if_neg (by omega)]
theorem WM.took_end (u : WM) (N : Nat) : ({ u.took N N with sl := u.sl + 1 } : WM) = u.slot N := by
  refine WM.alike (fun i => ?_) rfl rfl
  show (if i < N then (u.ms i).sendS.take (u.hear N i) else if i < N then (u.ms i).sendS else u.ms i) = if i < N then (u.ms i).sendS.take (u.hear N i) else u.ms i
  by_cases h : i < N
  · simp [h]
  · simp [h]
theorem WM.bsK_end (u : WM) (N : Nat) : u.bsK N = u.bs N := rfl
theorem WM.atK_end (u : WM) (N : Nat) : u.atK N = u.at_ N := rfl
/-- What the star tells of a slot. -/
theorem hear_is {W : World} {Bs N i : Nat} {u : WM} {h : Hd} (ok : WOk N u) (hb : ∀ j, j < N → bytesL (u.bs N j) ∧ (u.bs N j).length ≤ 16) (hi : i < N) (H : Hears W Bs (u.sd N) (hn (u.sd N) (prV false (u.who N))) (hq (u.sd N) (u.who N)) (hq (u.sd N) (u.who N)) (prV false (u.who N)) (u.at_ N) i h) :
    h.A = (u.hear N i).a ∧ h.B = (u.hear N i).b ∧ OwnsL W Bs h.X (u.hear N i).x ∧ OwnsL W Bs h.Y (u.hear N i).y ∧ h.o = (u.hear N i).o := by
  unfold WM.sd at H
  rw [show prV false (u.who N) = u.who N from rfl] at H
  obtain ⟨h1, h2, h3, h4⟩ := H.is hi
  have h5 := H.o
  unfold WM.hear WM.heard WM.when_
  rcases WM.who_range ok with e | ⟨j, e, hj, h0⟩
  · rw [e] at h1 h2 h3 h4 h5 ⊢
    rw [show hn (m0 N (u.bs N) (u.at_ N)) (-1) = 0 from rfl] at h1 h2 h3 h4
    rw [tk_none] at h1 h2
    rw [tl_none] at h3 h4
    rw [if_neg (by omega)] at h5
    simp only [show ((-1 : Int) < 0) from by omega, if_true]
    exact ⟨h1, h2, h3, h4, h5⟩
  · rw [e] at h1 h2 h3 h4 h5 ⊢
    obtain ⟨b1, b2⟩ := hb j hj
    rw [hn_m0 N _ _ j hj, hq_m0 N _ _ j hj] at h1 h2 h3 h4
    rw [tk_rq _ h0] at h1 h2
    rw [tl_rq _ b1 (by omega)] at h3 h4
    rw [if_pos ⟨by rw [m0_length]; exact hi, by omega⟩, whenV_m0 N _ _ j hj] at h5
    simp only [show ¬ (((j : Nat) : Int) < 0) from by omega, if_false, Int.toNat_natCast]
    exact ⟨h1, h2, h3, h4, h5⟩
theorem ended_is {N : Nat} {u : WM} (ok : WOk N u) (hb : ∀ j, j < N → bytesL (u.bs N j) ∧ (u.bs N j).length ≤ 16) :
    tl (hn (u.sd N) (prV false (u.who N))) (hq (u.sd N) (u.who N)) = u.heard N ∧ whenV (u.sd N) (prV false (u.who N)) = u.when_ N := by
  rw [show prV false (u.who N) = u.who N from rfl]
  unfold WM.sd WM.heard WM.when_
  rcases WM.who_range ok with e | ⟨j, e, hj, h0⟩
  · rw [e]
    simp only [show ((-1 : Int) < 0) from by omega, if_true]
    exact ⟨rfl, rfl⟩
  · rw [e]
    obtain ⟨b1, b2⟩ := hb j hj
    simp only [show ¬ (((j : Nat) : Int) < 0) from by omega, if_false, Int.toNat_natCast]
    rw [hn_m0 N _ _ j hj, hq_m0 N _ _ j hj, tl_rq _ b1 (by omega), whenV_m0 N _ _ j hj]
    exact ⟨rfl, rfl⟩
end Go.Proofs.YtpdenmcacaajkaaGreat
