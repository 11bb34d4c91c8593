/- Texts WdH, WdS in one. For what each says in front of its theorems. -/
import Derived.Test.YtpdenmcacaajkaaGreatXB40
/-! ### WdH -/
namespace Go.Proofs.YtpdenmcacaajkaaGreat
open Go.RowKit

theorem store_hear {W : World} {b : Nat} {f : Nat → Hd} (ht : W.there b 0 (hdC f).size) (h1 : (hdC f).all (·.oneCell') = true) : (storeCells ⟨b, 0, none⟩ (hdC f).toList).run Tryz.prog W = .ok () (W.setCells b 0 (hdC f).toList) :=
  run_storeCells_cells (P := Tryz.prog) b 0 (hdC f).toList 0 W (fun j hj => by simpa using (ht j (by simpa using hj)).1) (fun j hj => by simpa using (ht j (by simpa using hj)).2) (fun v hv => (Array.all_eq_true_iff_forall_mem.1 h1) v (by simpa using hv))
set_option maxRecDepth 100000 in
set_option maxHeartbeats 8000000 in
theorem wslot {B : Nat} {P : List Nat} {N x : Nat} {u : WM} {W : World} (h : WAt B P N W x u) (ok : WOk N u) (hsl : u.sl ≤ 1000000) :
    Calls Tryz.prog 100 #[.pointer (some ⟨x, 0, none⟩), .slice none 0 0] W fun e w' => e = .returned (.int .i64 0) ∧ WAt B P N w' x (u.slot N) ∧ Bw B P W w' := by
  obtain ⟨q0, h⟩ := h
  obtain ⟨n4, n8⟩ := ok.n4
  have hIs := fun W => Lib.hid (show Calls Tryz.prog 138 #[.slice none 0 0] W fun e w' => e = .returned (.bool true) ∧ Below W.heap.size W w' from is_sr (.slice none 0 0) [] W SeesF.nil)
  go_enter Tryz.func100, Tryz.ntmps100
  go_wp2_with fail
  refine (hIs W).out.mono ?_
  rintro e w1 ⟨rfl, hb1⟩
  have h1 := h.below hb1
  have hw1 := h.bw_below hb1
  have h2 := (h1.box (.cells #[.slice none 0 0, .slice none 0 0, .slice none 0 0, .slice none 0 0, .slice none 0 0, .slice none 0 0, .slice none 0 0, .slice none 0 0] 188)).box (.cells #[.int .i64 0, .int .i64 0, .int .i64 0, .int .i64 0, .int .i64 0, .int .i64 0, .int .i64 0, .int .i64 0] 66)
  have hw2 : Bw B P w1 ((w1.alloc (.cells #[.slice none 0 0, .slice none 0 0, .slice none 0 0, .slice none 0 0, .slice none 0 0, .slice none 0 0, .slice none 0 0, .slice none 0 0] 188)).alloc (.cells #[.int .i64 0, .int .i64 0, .int .i64 0, .int .i64 0, .int .i64 0, .int .i64 0, .int .i64 0, .int .i64 0] 66)) := h1.bw_below (((Below.refl _ _).alloc (Nat.le_refl _) (.cells #[.slice none 0 0, .slice none 0 0, .slice none 0 0, .slice none 0 0, .slice none 0 0, .slice none 0 0, .slice none 0 0, .slice none 0 0] 188)).alloc (by simp) (.cells #[.int .i64 0, .int .i64 0, .int .i64 0, .int .i64 0, .int .i64 0, .int .i64 0, .int .i64 0, .int .i64 0] 66))
  have Y2 := (Blk.new w1 w1.heap.size rfl (sl8 (fun _ => none) (fun _ => 0) (u.bsK 0)) 188).alloc (.cells #[.int .i64 0, .int .i64 0, .int .i64 0, .int .i64 0, .int .i64 0, .int .i64 0, .int .i64 0, .int .i64 0] 66)
  have Z2 := Blk.new (w1.alloc (.cells #[.slice none 0 0, .slice none 0 0, .slice none 0 0, .slice none 0 0, .slice none 0 0, .slice none 0 0, .slice none 0 0, .slice none 0 0] 188)) (w1.heap.size + 1) (by simp) (i8 (u.atK 0)) 66
  have eY : sl8 (fun _ => none) (fun _ => 0) (u.bsK 0) = #[.slice none 0 0, .slice none 0 0, .slice none 0 0, .slice none 0 0, .slice none 0 0, .slice none 0 0, .slice none 0 0, .slice none 0 0] := by simp [sl8, WM.bsK]
  have eZ : i8 (u.atK 0) = #[.int .i64 0, .int .i64 0, .int .i64 0, .int .i64 0, .int .i64 0, .int .i64 0, .int .i64 0, .int .i64 0] := by simp [i8, WM.atK]
  rw [show (w1.alloc (.cells #[.slice none 0 0, .slice none 0 0, .slice none 0 0, .slice none 0 0, .slice none 0 0, .slice none 0 0, .slice none 0 0, .slice none 0 0] 188)).heap.size = w1.heap.size + 1 by simp] at h2
  have x0 := h2.blk.cell 0 (x := .slice (some ⟨q0.nb, 0, none⟩) N q0.cap) rfl
  have hA : SA B P N x u q0.nb q0.gs w1.heap.size W 0 q0 (fun _ => none) (fun _ => 0) ((w1.alloc (.cells #[.slice none 0 0, .slice none 0 0, .slice none 0 0, .slice none 0 0, .slice none 0 0, .slice none 0 0, .slice none 0 0, .slice none 0 0] 188)).alloc (.cells #[.int .i64 0, .int .i64 0, .int .i64 0, .int .i64 0, .int .i64 0, .int .i64 0, .int .i64 0, .int .i64 0] 66)) := by
    refine ⟨rfl, rfl, by rw [WM.sent1_0]; exact h2, by rw [eY] at Y2 ⊢; exact Y2, by rw [eZ] at Z2 ⊢; exact Z2, fun i hi => ?_, fun i hi => ?_, fun i hi => by omega, fun i hi => ⟨rfl, rfl⟩, hw1.trans hw2, ?_, fun r hr => (h1.out r hr).1⟩
    · rw [show u.bsK 0 i = [] by simp [WM.bsK]]; exact OwnsL.nil
    · rw [show u.bsK 0 i = [] by simp [WM.bsK]]; exact ⟨fun x hx => (by cases hx), by simp⟩
    · have := h1.bas.1; have := h1.blk.lt; omega
  have hA := Lib.hid hA
  clear h h1 hw1 hw2 hb1 hIs Y2 Z2 eY eZ h2
  go_wp2_with fail
  generalize (w1.alloc (.cells #[.slice none 0 0, .slice none 0 0, .slice none 0 0, .slice none 0 0, .slice none 0 0, .slice none 0 0, .slice none 0 0, .slice none 0 0] 188)).alloc (.cells #[.int .i64 0, .int .i64 0, .int .i64 0, .int .i64 0, .int .i64 0, .int .i64 0, .int .i64 0, .int .i64 0] 66) = w2 at *
  have q3 : (0 : Int) ≤ (N : Nat) := by omega
  go_loopw [21] (fun i wr => ∃ (k : Nat) (q : WP) (V : Nat → Option Addr) (c : Nat → Nat), k ≤ N ∧ i = .int .i64 (k : Nat) ∧ SA B P N x u q0.nb q0.gs w1.heap.size W k q V c wr) (fun i _ => N - (intOf i).toNat)
  case atStart => exact ⟨0, q0, _, _, by omega, rfl, hA.out⟩
  case round =>
    clear hA x0
    obtain ⟨k, q, V, c, hk, rfl, h⟩ := hrel
    by_cases hlt : k < N
    · have r1 : decide ((k : Int) < (N : Nat)) = true := by simp; omega
      have i8' : (k : Int) < 8 := by omega
      have ptr := h.win.ptr k hlt
      rw [h.nb] at ptr
      have hcp := h.win.cap
      have hd := h.below ((Below.refl wr.heap.size wr).drew)
      have HS := Lib.hid (hd.send hlt)
      clear h hd
      go_wp2_with fail
      go_region_with (first
        | (go_at_call 33; refine HS.out.mono ?_; rintro e w4 ⟨A', c', q', rfl, eg, hn', hB⟩; have HC := Lib.hid (nodeApi.clock hn'))
        | (go_at_call 41; refine HC.out.mono ?_; rintro e w5 ⟨rfl, hb5⟩; have hB5 := hB.below hb5; have a0 := hB5.Y.cell k (sl8_get V c (u.bsK k) k (by omega)); have a1 := hB5.Y.frozen k; have a2 := hB5.Z.cell k (i8_get (u.atK k) k (by omega)); have a3 := hB5.Z.frozen k; have hS5 := Lib.hid (hB5.store hlt n8); clear hB hB5)
        | fail)
      all_goals
        go_wp2_with fail
        go_roundw
        case rel => exact ⟨k + 1, q', _, _, by omega, by go_num, hS5.out⟩
        case measure => simp [intOf]; omega
    · obtain rfl : k = N := by omega
      have r1 : decide ((k : Int) < (k : Nat)) = false := by simp
      have hSW : ∀ W, Blk W w1.heap.size (sl8 V c (u.bsK k)) 188 → Blk W (w1.heap.size + 1) (i8 (u.atK k)) 66 → W.cell? ⟨x, 1, none⟩ = some (.pointer (some ⟨q.gs, 0, none⟩)) → W.cell? ⟨x, 1, none⟩ = some (.pointer (some ⟨q.gs, 0, none⟩)) ∧ W.cell? ⟨w1.heap.size, 0, none⟩ = some (.slice (V 0) (u.bsK k 0).length (c 0)) ∧ W.cell? ⟨w1.heap.size, 1, none⟩ = some (.slice (V 1) (u.bsK k 1).length (c 1)) ∧ W.cell? ⟨w1.heap.size, 2, none⟩ = some (.slice (V 2) (u.bsK k 2).length (c 2)) ∧ W.cell? ⟨w1.heap.size, 3, none⟩ = some (.slice (V 3) (u.bsK k 3).length (c 3)) ∧ W.cell? ⟨w1.heap.size, 4, none⟩ = some (.slice (V 4) (u.bsK k 4).length (c 4)) ∧ W.cell? ⟨w1.heap.size, 5, none⟩ = some (.slice (V 5) (u.bsK k 5).length (c 5)) ∧ W.cell? ⟨w1.heap.size, 6, none⟩ = some (.slice (V 6) (u.bsK k 6).length (c 6)) ∧ W.cell? ⟨w1.heap.size, 7, none⟩ = some (.slice (V 7) (u.bsK k 7).length (c 7)) ∧ W.cell? ⟨w1.heap.size + 1, 0, none⟩ = some (.int .i64 (u.atK k 0)) ∧ W.cell? ⟨w1.heap.size + 1, 1, none⟩ = some (.int .i64 (u.atK k 1)) ∧ W.cell? ⟨w1.heap.size + 1, 2, none⟩ = some (.int .i64 (u.atK k 2)) ∧ W.cell? ⟨w1.heap.size + 1, 3, none⟩ = some (.int .i64 (u.atK k 3)) ∧ W.cell? ⟨w1.heap.size + 1, 4, none⟩ = some (.int .i64 (u.atK k 4)) ∧ W.cell? ⟨w1.heap.size + 1, 5, none⟩ = some (.int .i64 (u.atK k 5)) ∧ W.cell? ⟨w1.heap.size + 1, 6, none⟩ = some (.int .i64 (u.atK k 6)) ∧ W.cell? ⟨w1.heap.size + 1, 7, none⟩ = some (.int .i64 (u.atK k 7)) := fun W Y Z e1 => ⟨e1, Y.cell 0 rfl, Y.cell 1 rfl, Y.cell 2 rfl, Y.cell 3 rfl, Y.cell 4 rfl, Y.cell 5 rfl, Y.cell 6 rfl, Y.cell 7 rfl, Z.cell 0 rfl, Z.cell 1 rfl, Z.cell 2 rfl, Z.cell 3 rfl, Z.cell 4 rfl, Z.cell 5 rfl, Z.cell 6 rfl, Z.cell 7 rfl⟩
      have hSW := Lib.hid hSW
      have e1 := h.win.blk.cell 1 (x := .pointer (some ⟨q.gs, 0, none⟩)) rfl
      have T0 := hSW.out wr.drew h.Y.drew h.Z.drew e1
      have T0' := T0
      obtain ⟨x1, y0, y1, y2, y3, y4, y5, y6, y7, z0, z1, z2, z3, z4, z5, z6, z7⟩ := T0'
      have hd := h.below ((Below.refl wr.heap.size wr).drew)
      have HS1 := slot_wd ok hd.win (fun i hi => (hd.own i hi).sees) hd.ok
      have hx := (h.win.box (.cells (hdC fun _ => hdz) 189)).below ((Below.refl (wr.alloc (.cells (hdC fun _ => hdz) 189)).heap.size (wr.alloc (.cells (hdC fun _ => hdz) 189))).drew)
      have HS2 := slot_wd ok hx (fun i hi => ((h.own i hi).alloc (.cells (hdC fun _ => hdz) 189)).drew.sees) hd.ok
      have T1 := hSW.out (wr.alloc (.cells (hdC fun _ => hdz) 189)).drew (h.Y.alloc (.cells (hdC fun _ => hdz) 189)).drew (h.Z.alloc (.cells (hdC fun _ => hdz) 189)).drew (hx.blk.cell 1 rfl)
      rw [← WM.bsK_end u k, ← WM.atK_end u k] at HS1 HS2
      unfold s8 ints8 at HS1 HS2
      have hin := fun p (hp : p ∈ P) => (h.win.out p (by simp [hp])).1
      have HS1 := Lib.hid (HS1.mono (R' := fun e w5 => ∃ f, e = .returned (.tuple #[.agg (hdC f), .int .i64 0]) ∧ Hid (((hdC f).all (·.oneCell') = true) ∧ (w5.cell? ⟨x, 1, none⟩ = some (.pointer (some ⟨q.gs, 0, none⟩)) ∧ w5.cell? ⟨w1.heap.size, 0, none⟩ = some (.slice (V 0) (u.bsK k 0).length (c 0)) ∧ w5.cell? ⟨w1.heap.size, 1, none⟩ = some (.slice (V 1) (u.bsK k 1).length (c 1)) ∧ w5.cell? ⟨w1.heap.size, 2, none⟩ = some (.slice (V 2) (u.bsK k 2).length (c 2)) ∧ w5.cell? ⟨w1.heap.size, 3, none⟩ = some (.slice (V 3) (u.bsK k 3).length (c 3)) ∧ w5.cell? ⟨w1.heap.size, 4, none⟩ = some (.slice (V 4) (u.bsK k 4).length (c 4)) ∧ w5.cell? ⟨w1.heap.size, 5, none⟩ = some (.slice (V 5) (u.bsK k 5).length (c 5)) ∧ w5.cell? ⟨w1.heap.size, 6, none⟩ = some (.slice (V 6) (u.bsK k 6).length (c 6)) ∧ w5.cell? ⟨w1.heap.size, 7, none⟩ = some (.slice (V 7) (u.bsK k 7).length (c 7)) ∧ w5.cell? ⟨w1.heap.size + 1, 0, none⟩ = some (.int .i64 (u.atK k 0)) ∧ w5.cell? ⟨w1.heap.size + 1, 1, none⟩ = some (.int .i64 (u.atK k 1)) ∧ w5.cell? ⟨w1.heap.size + 1, 2, none⟩ = some (.int .i64 (u.atK k 2)) ∧ w5.cell? ⟨w1.heap.size + 1, 3, none⟩ = some (.int .i64 (u.atK k 3)) ∧ w5.cell? ⟨w1.heap.size + 1, 4, none⟩ = some (.int .i64 (u.atK k 4)) ∧ w5.cell? ⟨w1.heap.size + 1, 5, none⟩ = some (.int .i64 (u.atK k 5)) ∧ w5.cell? ⟨w1.heap.size + 1, 6, none⟩ = some (.int .i64 (u.atK k 6)) ∧ w5.cell? ⟨w1.heap.size + 1, 7, none⟩ = some (.int .i64 (u.atK k 7))) ∧ ((w5.alloc (.cells (hdC fun _ => hdz) 189)).cell? ⟨x, 1, none⟩ = some (.pointer (some ⟨q.gs, 0, none⟩)) ∧ (w5.alloc (.cells (hdC fun _ => hdz) 189)).cell? ⟨w1.heap.size, 0, none⟩ = some (.slice (V 0) (u.bsK k 0).length (c 0)) ∧ (w5.alloc (.cells (hdC fun _ => hdz) 189)).cell? ⟨w1.heap.size, 1, none⟩ = some (.slice (V 1) (u.bsK k 1).length (c 1)) ∧ (w5.alloc (.cells (hdC fun _ => hdz) 189)).cell? ⟨w1.heap.size, 2, none⟩ = some (.slice (V 2) (u.bsK k 2).length (c 2)) ∧ (w5.alloc (.cells (hdC fun _ => hdz) 189)).cell? ⟨w1.heap.size, 3, none⟩ = some (.slice (V 3) (u.bsK k 3).length (c 3)) ∧ (w5.alloc (.cells (hdC fun _ => hdz) 189)).cell? ⟨w1.heap.size, 4, none⟩ = some (.slice (V 4) (u.bsK k 4).length (c 4)) ∧ (w5.alloc (.cells (hdC fun _ => hdz) 189)).cell? ⟨w1.heap.size, 5, none⟩ = some (.slice (V 5) (u.bsK k 5).length (c 5)) ∧ (w5.alloc (.cells (hdC fun _ => hdz) 189)).cell? ⟨w1.heap.size, 6, none⟩ = some (.slice (V 6) (u.bsK k 6).length (c 6)) ∧ (w5.alloc (.cells (hdC fun _ => hdz) 189)).cell? ⟨w1.heap.size, 7, none⟩ = some (.slice (V 7) (u.bsK k 7).length (c 7)) ∧ (w5.alloc (.cells (hdC fun _ => hdz) 189)).cell? ⟨w1.heap.size + 1, 0, none⟩ = some (.int .i64 (u.atK k 0)) ∧ (w5.alloc (.cells (hdC fun _ => hdz) 189)).cell? ⟨w1.heap.size + 1, 1, none⟩ = some (.int .i64 (u.atK k 1)) ∧ (w5.alloc (.cells (hdC fun _ => hdz) 189)).cell? ⟨w1.heap.size + 1, 2, none⟩ = some (.int .i64 (u.atK k 2)) ∧ (w5.alloc (.cells (hdC fun _ => hdz) 189)).cell? ⟨w1.heap.size + 1, 3, none⟩ = some (.int .i64 (u.atK k 3)) ∧ (w5.alloc (.cells (hdC fun _ => hdz) 189)).cell? ⟨w1.heap.size + 1, 4, none⟩ = some (.int .i64 (u.atK k 4)) ∧ (w5.alloc (.cells (hdC fun _ => hdz) 189)).cell? ⟨w1.heap.size + 1, 5, none⟩ = some (.int .i64 (u.atK k 5)) ∧ (w5.alloc (.cells (hdC fun _ => hdz) 189)).cell? ⟨w1.heap.size + 1, 6, none⟩ = some (.int .i64 (u.atK k 6)) ∧ (w5.alloc (.cells (hdC fun _ => hdz) 189)).cell? ⟨w1.heap.size + 1, 7, none⟩ = some (.int .i64 (u.atK k 7))) ∧ ∃ w6, (storeCells ⟨w5.heap.size, 0, none⟩ (hdC f).toList).run Tryz.prog (w5.alloc (.cells (hdC fun _ => hdz) 189)) = .ok () w6 ∧ (w6.cell? ⟨x, 1, none⟩ = some (.pointer (some ⟨q.gs, 0, none⟩)) ∧ w6.cell? ⟨w1.heap.size, 0, none⟩ = some (.slice (V 0) (u.bsK k 0).length (c 0)) ∧ w6.cell? ⟨w1.heap.size, 1, none⟩ = some (.slice (V 1) (u.bsK k 1).length (c 1)) ∧ w6.cell? ⟨w1.heap.size, 2, none⟩ = some (.slice (V 2) (u.bsK k 2).length (c 2)) ∧ w6.cell? ⟨w1.heap.size, 3, none⟩ = some (.slice (V 3) (u.bsK k 3).length (c 3)) ∧ w6.cell? ⟨w1.heap.size, 4, none⟩ = some (.slice (V 4) (u.bsK k 4).length (c 4)) ∧ w6.cell? ⟨w1.heap.size, 5, none⟩ = some (.slice (V 5) (u.bsK k 5).length (c 5)) ∧ w6.cell? ⟨w1.heap.size, 6, none⟩ = some (.slice (V 6) (u.bsK k 6).length (c 6)) ∧ w6.cell? ⟨w1.heap.size, 7, none⟩ = some (.slice (V 7) (u.bsK k 7).length (c 7)) ∧ w6.cell? ⟨w1.heap.size + 1, 0, none⟩ = some (.int .i64 (u.atK k 0)) ∧ w6.cell? ⟨w1.heap.size + 1, 1, none⟩ = some (.int .i64 (u.atK k 1)) ∧ w6.cell? ⟨w1.heap.size + 1, 2, none⟩ = some (.int .i64 (u.atK k 2)) ∧ w6.cell? ⟨w1.heap.size + 1, 3, none⟩ = some (.int .i64 (u.atK k 3)) ∧ w6.cell? ⟨w1.heap.size + 1, 4, none⟩ = some (.int .i64 (u.atK k 4)) ∧ w6.cell? ⟨w1.heap.size + 1, 5, none⟩ = some (.int .i64 (u.atK k 5)) ∧ w6.cell? ⟨w1.heap.size + 1, 6, none⟩ = some (.int .i64 (u.atK k 6)) ∧ w6.cell? ⟨w1.heap.size + 1, 7, none⟩ = some (.int .i64 (u.atK k 7))) ∧ TA B P k x u q.nb q.gp w5.heap.size f wr.drew.heap.size W 0 (w5.heap.size :: (hdB f ++ ((w1.heap.size + 1) :: w1.heap.size :: P))) q w6)) fun e w5 ⟨f, e0, hsc, hw5, hbw⟩ => ⟨f, e0, Lib.hid (by
        have hY5 : Blk w5 w1.heap.size (sl8 V c (u.bsK k)) 188 := (hbw.k w1.heap.size (by simp)).trans h.Y.drew
        have hZ5 : Blk w5 (w1.heap.size + 1) (i8 (u.atK k)) 66 := (hbw.k (w1.heap.size + 1) (by simp)).trans h.Z.drew
        have hl := hear_lies w5 w5.heap.size rfl f 189
        have hth := hdz_there w5 w5.heap.size rfl 189
        have hTA := TA.behind (P := P) hw5 hsc (fun p hp => by simp [hp]) ((h.bw.trans (Bw.drewB wr)).trans (hbw.less (fun p hp => by simp [hp])))
        have T3 := hSW.out (w5.alloc (.cells (hdC fun _ => hdz) 189)) (hY5.alloc _) (hZ5.alloc _) ((hw5.box (.cells (hdC fun _ => hdz) 189)).blk.cell 1 rfl)
        have T4 := hSW.out _ (hY5.below hl.2 hY5.lt) (hZ5.below hl.2 hZ5.lt) ((hw5.below hl.2).blk.cell 1 rfl)
        rw [show (40 : Nat) = (hdC f).size from rfl] at hth
        exact ⟨hdC_one f (fun i hi => (hsc.forms i hi).1) (fun i hi => (hsc.forms i hi).2), hSW.out w5 hY5 hZ5 (hw5.blk.cell 1 rfl), T3, _, store_hear hth (hdC_one f (fun i hi => (hsc.forms i hi).1) (fun i hi => (hsc.forms i hi).2)), T4, hTA⟩)⟩)
      have HS2 := Lib.hid (HS2.mono (R' := fun e w5 => ∃ f, e = .returned (.tuple #[.agg (hdC f), .int .i64 0]) ∧ Hid (((hdC f).all (·.oneCell') = true) ∧ (w5.cell? ⟨x, 1, none⟩ = some (.pointer (some ⟨q.gs, 0, none⟩)) ∧ w5.cell? ⟨w1.heap.size, 0, none⟩ = some (.slice (V 0) (u.bsK k 0).length (c 0)) ∧ w5.cell? ⟨w1.heap.size, 1, none⟩ = some (.slice (V 1) (u.bsK k 1).length (c 1)) ∧ w5.cell? ⟨w1.heap.size, 2, none⟩ = some (.slice (V 2) (u.bsK k 2).length (c 2)) ∧ w5.cell? ⟨w1.heap.size, 3, none⟩ = some (.slice (V 3) (u.bsK k 3).length (c 3)) ∧ w5.cell? ⟨w1.heap.size, 4, none⟩ = some (.slice (V 4) (u.bsK k 4).length (c 4)) ∧ w5.cell? ⟨w1.heap.size, 5, none⟩ = some (.slice (V 5) (u.bsK k 5).length (c 5)) ∧ w5.cell? ⟨w1.heap.size, 6, none⟩ = some (.slice (V 6) (u.bsK k 6).length (c 6)) ∧ w5.cell? ⟨w1.heap.size, 7, none⟩ = some (.slice (V 7) (u.bsK k 7).length (c 7)) ∧ w5.cell? ⟨w1.heap.size + 1, 0, none⟩ = some (.int .i64 (u.atK k 0)) ∧ w5.cell? ⟨w1.heap.size + 1, 1, none⟩ = some (.int .i64 (u.atK k 1)) ∧ w5.cell? ⟨w1.heap.size + 1, 2, none⟩ = some (.int .i64 (u.atK k 2)) ∧ w5.cell? ⟨w1.heap.size + 1, 3, none⟩ = some (.int .i64 (u.atK k 3)) ∧ w5.cell? ⟨w1.heap.size + 1, 4, none⟩ = some (.int .i64 (u.atK k 4)) ∧ w5.cell? ⟨w1.heap.size + 1, 5, none⟩ = some (.int .i64 (u.atK k 5)) ∧ w5.cell? ⟨w1.heap.size + 1, 6, none⟩ = some (.int .i64 (u.atK k 6)) ∧ w5.cell? ⟨w1.heap.size + 1, 7, none⟩ = some (.int .i64 (u.atK k 7))) ∧ ∃ w6, (storeCells ⟨wr.heap.size, 0, none⟩ (hdC f).toList).run Tryz.prog w5 = .ok () w6 ∧ (w6.cell? ⟨x, 1, none⟩ = some (.pointer (some ⟨q.gs, 0, none⟩)) ∧ w6.cell? ⟨w1.heap.size, 0, none⟩ = some (.slice (V 0) (u.bsK k 0).length (c 0)) ∧ w6.cell? ⟨w1.heap.size, 1, none⟩ = some (.slice (V 1) (u.bsK k 1).length (c 1)) ∧ w6.cell? ⟨w1.heap.size, 2, none⟩ = some (.slice (V 2) (u.bsK k 2).length (c 2)) ∧ w6.cell? ⟨w1.heap.size, 3, none⟩ = some (.slice (V 3) (u.bsK k 3).length (c 3)) ∧ w6.cell? ⟨w1.heap.size, 4, none⟩ = some (.slice (V 4) (u.bsK k 4).length (c 4)) ∧ w6.cell? ⟨w1.heap.size, 5, none⟩ = some (.slice (V 5) (u.bsK k 5).length (c 5)) ∧ w6.cell? ⟨w1.heap.size, 6, none⟩ = some (.slice (V 6) (u.bsK k 6).length (c 6)) ∧ w6.cell? ⟨w1.heap.size, 7, none⟩ = some (.slice (V 7) (u.bsK k 7).length (c 7)) ∧ w6.cell? ⟨w1.heap.size + 1, 0, none⟩ = some (.int .i64 (u.atK k 0)) ∧ w6.cell? ⟨w1.heap.size + 1, 1, none⟩ = some (.int .i64 (u.atK k 1)) ∧ w6.cell? ⟨w1.heap.size + 1, 2, none⟩ = some (.int .i64 (u.atK k 2)) ∧ w6.cell? ⟨w1.heap.size + 1, 3, none⟩ = some (.int .i64 (u.atK k 3)) ∧ w6.cell? ⟨w1.heap.size + 1, 4, none⟩ = some (.int .i64 (u.atK k 4)) ∧ w6.cell? ⟨w1.heap.size + 1, 5, none⟩ = some (.int .i64 (u.atK k 5)) ∧ w6.cell? ⟨w1.heap.size + 1, 6, none⟩ = some (.int .i64 (u.atK k 6)) ∧ w6.cell? ⟨w1.heap.size + 1, 7, none⟩ = some (.int .i64 (u.atK k 7))) ∧ TA B P k x u q.nb q.gp wr.heap.size f (wr.alloc (.cells (hdC fun _ => hdz) 189)).drew.heap.size W 0 (hdB f ++ (wr.heap.size :: (w1.heap.size + 1) :: w1.heap.size :: P)) q w6)) fun e w5 ⟨f, e0, hsc, hw5, hbw⟩ => ⟨f, e0, Lib.hid (by
        have hY5 : Blk w5 w1.heap.size (sl8 V c (u.bsK k)) 188 := (hbw.k w1.heap.size (by simp)).trans (h.Y.alloc (.cells (hdC fun _ => hdz) 189)).drew
        have hZ5 : Blk w5 (w1.heap.size + 1) (i8 (u.atK k)) 66 := (hbw.k (w1.heap.size + 1) (by simp)).trans (h.Z.alloc (.cells (hdC fun _ => hdz) 189)).drew
        have hX5 : Blk w5 wr.heap.size (hdC fun _ => hdz) 189 := (hbw.k wr.heap.size (by simp)).trans (Blk.new wr wr.heap.size rfl (hdC fun _ => hdz) 189).drew
        have hth : w5.there wr.heap.size 0 (hdC f).size := fun i hi => ⟨by rw [Nat.zero_add, hX5.cell i (Array.getElem?_eq_getElem (by simpa [hdC] using hi))]; rfl, hX5.frozen _⟩
        have o6 : Only wr.heap.size w5 (w5.setCells wr.heap.size 0 (hdC f).toList) := Only.setCells _ 0 (Only.refl _ _)
        have hYl := h.Y.lt
        have hZl := h.Z.lt
        have hxl := h.win.lt.1
        have hxb := h.win.bas.1
        have T4 := hSW.out _ (hY5.only o6 (by omega)) (hZ5.only o6 (by omega)) ((hw5.only (.inl (by simp)) o6).blk.cell 1 rfl)
        exact ⟨hdC_one f (fun i hi => (hsc.forms i hi).1) (fun i hi => (hsc.forms i hi).2), hSW.out w5 hY5 hZ5 (hw5.blk.cell 1 rfl), _, store_hear hth (hdC_one f (fun i hi => (hsc.forms i hi).1) (fun i hi => (hsc.forms i hi).2)), T4, TA.ahead (P := P) hw5 hsc (by simp) (by simp) (fun p hp => ⟨by simp [hp], by have := hin p hp; omega⟩) (by omega) ((h.bw.trans (Bw.box wr (.cells (hdC fun _ => hdz) 189) hxb hxl hin)).trans (hbw.less (fun p hp => by simp [hp]))) hth⟩)⟩)
      rw [hdz_lit] at HS1 HS2 T1
      have hg := Lib.hid (fun i (hi : i < k) => h.ok i (by omega))
      have h := Lib.hid h
      clear hd hx
      go_wp2_with fail
      go_region_held3 (fun W => W.cell? ⟨x, 1, none⟩ = some (.pointer (some ⟨q.gs, 0, none⟩)) ∧ W.cell? ⟨w1.heap.size, 0, none⟩ = some (.slice (V 0) (u.bsK k 0).length (c 0)) ∧ W.cell? ⟨w1.heap.size, 1, none⟩ = some (.slice (V 1) (u.bsK k 1).length (c 1)) ∧ W.cell? ⟨w1.heap.size, 2, none⟩ = some (.slice (V 2) (u.bsK k 2).length (c 2)) ∧ W.cell? ⟨w1.heap.size, 3, none⟩ = some (.slice (V 3) (u.bsK k 3).length (c 3)) ∧ W.cell? ⟨w1.heap.size, 4, none⟩ = some (.slice (V 4) (u.bsK k 4).length (c 4)) ∧ W.cell? ⟨w1.heap.size, 5, none⟩ = some (.slice (V 5) (u.bsK k 5).length (c 5)) ∧ W.cell? ⟨w1.heap.size, 6, none⟩ = some (.slice (V 6) (u.bsK k 6).length (c 6)) ∧ W.cell? ⟨w1.heap.size, 7, none⟩ = some (.slice (V 7) (u.bsK k 7).length (c 7)) ∧ W.cell? ⟨w1.heap.size + 1, 0, none⟩ = some (.int .i64 (u.atK k 0)) ∧ W.cell? ⟨w1.heap.size + 1, 1, none⟩ = some (.int .i64 (u.atK k 1)) ∧ W.cell? ⟨w1.heap.size + 1, 2, none⟩ = some (.int .i64 (u.atK k 2)) ∧ W.cell? ⟨w1.heap.size + 1, 3, none⟩ = some (.int .i64 (u.atK k 3)) ∧ W.cell? ⟨w1.heap.size + 1, 4, none⟩ = some (.int .i64 (u.atK k 4)) ∧ W.cell? ⟨w1.heap.size + 1, 5, none⟩ = some (.int .i64 (u.atK k 5)) ∧ W.cell? ⟨w1.heap.size + 1, 6, none⟩ = some (.int .i64 (u.atK k 6)) ∧ W.cell? ⟨w1.heap.size + 1, 7, none⟩ = some (.int .i64 (u.atK k 7)))
        ((first | exact T0 | exact T1 | exact T2 | exact T3 | exact T4))
        (first
          | (go_at_call 139; first
            | (with_reducible refine HS1.out.mono ?_; rintro e w5 ⟨f, rfl, hbd⟩; obtain ⟨-, T2, T3, w6, hst, T4, hTA⟩ := hbd.out; have hTA := Lib.hid hTA; clear hbd)
            | (with_reducible refine HS2.out.mono ?_; rintro e w5 ⟨f, rfl, hbd⟩; obtain ⟨-, T2, w6, hst, T4, hTA⟩ := hbd.out; have hTA := Lib.hid hTA; clear hbd)
            | fail)
          | fail)
      · have hTA2 : ∃ S E, TA B P k x u q.nb q.gp w5.heap.size f S W 0 E q w6 := ⟨_, _, hTA.out⟩
        obtain ⟨SS, EE, hT⟩ := hTA2
        have x0 := hT.win.blk.cell 0 (x := .slice (some ⟨q.nb, 0, none⟩) k q.cap) rfl
        have hT := Lib.hid hT
        clear hTA T0 T1 T2 T4 hst x1 y0 y1 y2 y3 y4 y5 y6 y7 z0 z1 z2 z3 z4 z5 z6 z7 hSW e1 HS1 HS2 h hin
        generalize w5.heap.size = ph at *
        go_wp2_with fail
        go_loopw [51] (fun i wz => ∃ (j : Nat) (q' : WP), j ≤ k ∧ i = .int .i64 (j : Nat) ∧ TA B P k x u q.nb q.gp ph f SS W j EE q' wz) (fun i _ => k - (intOf i).toNat)
        case atStart => exact ⟨0, q, by omega, rfl, hT.out⟩
        case round =>
          clear hT x0
          obtain ⟨j, q', hj, rfl, h⟩ := hrel
          by_cases hlt : j < k
          · have r2 : decide ((j : Int) < (k : Nat)) = true := by simp; omega
            have j8 : (j : Int) < 8 := by omega
            have ptr := h.win.ptr j hlt
            rw [h.nb, h.gp] at ptr
            obtain ⟨c0, c1, c2, c3, c4⟩ := h.H.get j (by omega)
            have HT := Lib.hid (h.take ok hg.out hlt)
            clear h
            go_wp2_with fail
            refine HT.out.mono ?_
            rintro e w8 ⟨q2, rfl, h2⟩
            have h2 := Lib.hid h2
            clear HT c0 c1 c2 c3 c4 ptr
            go_wp2_with fail
            go_roundw
            case rel => exact ⟨j + 1, q2, by omega, by go_num, h2.out⟩
            case measure => simp [intOf]; omega
          · obtain rfl : j = k := by omega
            have r2 : decide ((j : Int) < (j : Nat)) = false := by simp
            have s2 := h.win.blk.cell 2 (x := .int .i64 (u.sl : Nat)) rfl
            have f2 := h.win.blk.frozen 2
            have z1 : IntKind.i64.wrap ((u.sl : Int) + 1) = (u.sl : Int) + 1 := IntWalk.i64_in _ (by omega)
            have hz : ((u.sl + 1 : Nat) : Int) = (u.sl : Int) + 1 := by omega
            have hfin : Hid (WAt B P j (wr.setCell ⟨x, 2, none⟩ (.int .i64 ((u.sl : Int) + 1))) x (u.slot j) ∧ Bw B P W (wr.setCell ⟨x, 2, none⟩ (.int .i64 ((u.sl : Int) + 1)))) := Lib.hid (by
              have hs := h.win.slots (u.sl + 1)
              rw [hz, WM.took_end] at hs
              refine ⟨⟨q', hs.less h.ps⟩, h.bw.trans (Bw.ofOnly ((Only.refl x wr).set 2 _) h.win.bas.1 h.win.lt.1 fun r hr => ⟨(h.win.out r (h.ps r hr)).1, (h.win.out r (h.ps r hr)).2.1⟩)⟩)
            clear h hz
            go_wp2_with fail
            go_ret
            exact ⟨rfl, hfin.out.1, hfin.out.2⟩
      · have hTA2 : ∃ S E, TA B P k x u q.nb q.gp wr.heap.size f S W 0 E q w6 := ⟨_, _, hTA.out⟩
        obtain ⟨SS, EE, hT⟩ := hTA2
        have x0 := hT.win.blk.cell 0 (x := .slice (some ⟨q.nb, 0, none⟩) k q.cap) rfl
        have hT := Lib.hid hT
        clear hTA T0 T1 T2 T4 hst x1 y0 y1 y2 y3 y4 y5 y6 y7 z0 z1 z2 z3 z4 z5 z6 z7 hSW e1 HS1 HS2 h hin
        generalize wr.heap.size = ph at *
        go_wp2_with fail
        go_loopw [51] (fun i wz => ∃ (j : Nat) (q' : WP), j ≤ k ∧ i = .int .i64 (j : Nat) ∧ TA B P k x u q.nb q.gp ph f SS W j EE q' wz) (fun i _ => k - (intOf i).toNat)
        case atStart => exact ⟨0, q, by omega, rfl, hT.out⟩
        case round =>
          clear hT x0
          obtain ⟨j, q', hj, rfl, h⟩ := hrel
          by_cases hlt : j < k
          · have r2 : decide ((j : Int) < (k : Nat)) = true := by simp; omega
            have j8 : (j : Int) < 8 := by omega
            have ptr := h.win.ptr j hlt
            rw [h.nb, h.gp] at ptr
            obtain ⟨c0, c1, c2, c3, c4⟩ := h.H.get j (by omega)
            have HT := Lib.hid (h.take ok hg.out hlt)
            clear h
            go_wp2_with fail
            refine HT.out.mono ?_
            rintro e w8 ⟨q2, rfl, h2⟩
            have h2 := Lib.hid h2
            clear HT c0 c1 c2 c3 c4 ptr
            go_wp2_with fail
            go_roundw
            case rel => exact ⟨j + 1, q2, by omega, by go_num, h2.out⟩
            case measure => simp [intOf]; omega
          · obtain rfl : j = k := by omega
            have r2 : decide ((j : Int) < (j : Nat)) = false := by simp
            have s2 := h.win.blk.cell 2 (x := .int .i64 (u.sl : Nat)) rfl
            have f2 := h.win.blk.frozen 2
            have z1 : IntKind.i64.wrap ((u.sl : Int) + 1) = (u.sl : Int) + 1 := IntWalk.i64_in _ (by omega)
            have hz : ((u.sl + 1 : Nat) : Int) = (u.sl : Int) + 1 := by omega
            have hfin : Hid (WAt B P j (wr.setCell ⟨x, 2, none⟩ (.int .i64 ((u.sl : Int) + 1))) x (u.slot j) ∧ Bw B P W (wr.setCell ⟨x, 2, none⟩ (.int .i64 ((u.sl : Int) + 1)))) := Lib.hid (by
              have hs := h.win.slots (u.sl + 1)
              rw [hz, WM.took_end] at hs
              refine ⟨⟨q', hs.less h.ps⟩, h.bw.trans (Bw.ofOnly ((Only.refl x wr).set 2 _) h.win.bas.1 h.win.lt.1 fun r hr => ⟨(h.win.out r (h.ps r hr)).1, (h.win.out r (h.ps r hr)).2.1⟩)⟩)
            clear h hz
            go_wp2_with fail
            go_ret
            exact ⟨rfl, hfin.out.1, hfin.out.2⟩
end Go.Proofs.YtpdenmcacaajkaaGreat

/-! ### WdS -/
namespace Go.Proofs.YtpdenmcacaajkaaGreat
open Go.RowKit

section
variable {B : Nat} {P : List Nat} {N x : Nat} {u : WM} {W : World}
theorem WAt.bw_below (h : WAt B P N W x u) {W' : World} (b : Below W.heap.size W W') : Bw B P W W' := by obtain ⟨q, h⟩ := h; exact h.bw_below b
set_option maxRecDepth 100000 in
set_option maxHeartbeats 2000000 in
theorem wstep_slot (h : WAt B P N W x u) (ok : WOk N u) (hsl : u.sl ≤ 1000000) :
    Calls Tryz.prog 52 #[.pointer (some ⟨x, 0, none⟩), .agg #[.int .i64 5, .int .i64 0, .int .i64 0, .slice none 0 0, .slice none 0 0]] W fun e w' => e = .returned (.int .i64 0) ∧ WAt B P N w' x (u.slot N) ∧ Bw B P W w' := by
  have hb := (Below.refl W.heap.size W).alloc (Nat.le_refl _) (.cells #[.int .i64 5, .int .i64 0, .int .i64 0, .slice none 0 0, .slice none 0 0] 120)
  have hw := h.bw_below hb
  have hs := Lib.hid (wslot (h.box (.cells #[.int .i64 5, .int .i64 0, .int .i64 0, .slice none 0 0, .slice none 0 0] 120)) ok hsl)
  clear h hb
  go_enter Tryz.func52, Tryz.ntmps52
  go_wp2_with fail
  refine hs.out.mono ?_
  rintro e w2 ⟨rfl, h2, b2⟩
  go_wp2_with fail
  go_ret
  exact ⟨rfl, h2.less (fun p hp => List.mem_cons_of_mem _ hp), hw.trans (b2.less fun p hp => List.mem_cons_of_mem _ hp)⟩
set_option maxRecDepth 100000 in
set_option maxHeartbeats 2000000 in
theorem wstep_bad (h : WAt B P N W x u) (hN : 0 < N) :
    Calls Tryz.prog 52 #[.pointer (some ⟨x, 0, none⟩), .agg #[.int .i64 0, .int .i64 0, .int .i64 0, .slice none 0 0, .slice none 0 0]] W fun e w' => e = .returned (.int .i64 1) ∧ WAt B P N w' x u ∧ Bw B P W w' := by
  have hb := (Below.refl W.heap.size W).alloc (Nat.le_refl _) (.cells #[.int .i64 0, .int .i64 0, .int .i64 0, .slice none 0 0, .slice none 0 0] 120)
  have hw := h.bw_below hb
  have h2 := h.below hb
  obtain ⟨q, h1⟩ := h.box (.cells #[.int .i64 0, .int .i64 0, .int .i64 0, .slice none 0 0, .slice none 0 0] 120)
  have hn := Lib.hid (show Calls Tryz.prog 101 #[.pointer (some ⟨x, 0, none⟩), .int .i64 0] _ _ from wnode_in h1 0 hN)
  clear h hb h1
  go_enter Tryz.func52, Tryz.ntmps52
  go_wp2_with fail
  refine hn.out.mono ?_
  rintro _ _ ⟨rfl, rfl⟩
  go_wp2_with fail
  go_ret
  exact ⟨rfl, h2, hw⟩
end
end Go.Proofs.YtpdenmcacaajkaaGreat
