/- Texts NpH, NpA, NpD in one. For what each says in front of its theorems. -/
import Derived.Deep.RegionHeld3
import Derived.Deep.CutRange
import Derived.Test.YtpdenmcacaajkaaGreatPB5
import Derived.Test.YtpdenmcacaajkaaGreatPB49
/-! ### NpH -/
namespace Go.Proofs.YtpdenmcacaajkaaGreat
open Go.RowKit
open Fr (St F)
theorem encR_bytes {f : F} (hd : bytesL f.d) : bytesL (encR f) := by
  unfold encR
  split
  · rename_i hi
    exact F.bytes_ok hi hd
  · exact fun x hx => by simp at hx
/-- An act as it comes by value. -/
def aqV (a : Aq) (vd vx vy : Value) : Value := .agg #[.int .i64 a.k, .int .i64 a.n, vd, .int .i64 a.h.a, .int .i64 a.h.b, vx, vy, .int .i64 a.h.o, .int .i64 a.f, .int .i64 a.u]
/-- Its bytes in memory. -/
structure AqOk (W : World) (a : Aq) (vd vx vy : Value) : Prop where
  d : SeesL W W.heap.size vd a.d
  x : SeesL W W.heap.size vx a.h.x
  y : SeesL W W.heap.size vy a.h.y
  by_ : a.by
  o : -1073741824 ≤ a.h.o ∧ a.h.o ≤ 1073741824
theorem AqOk.below {W W' : World} {a : Aq} {vd vx vy : Value} (h : AqOk W a vd vx vy) (b : Below W.heap.size W W') : AqOk W' a vd vx vy := ⟨(h.d.below b).more b.size, (h.x.below b).more b.size, (h.y.below b).more b.size, h.by_, h.o⟩
set_option maxRecDepth 100000 in
set_option maxHeartbeats 4000000 in
theorem heard_5 (g2 : Nat) (a : Aq) (vd vx vy : Value) (w : World) (hk : AqOk w a vd vx vy) (h5 : a.k = 5) :
    Calls Tryz.prog 35 #[aqV a vd vx vy, .pointer (some ⟨g2, 0, none⟩)] w fun e w' => e = .returned (hdV a.h vx vy) ∧ Below w.heap.size w w' := by
  obtain ⟨Ad, cd, rfl, -⟩ := hk.d.at_
  obtain ⟨Ax, cx, rfl, -⟩ := hk.x.at_
  obtain ⟨Ay, cy, rfl, -⟩ := hk.y.at_
  clear hk
  obtain ⟨k, n, d, ⟨ha, hb, hx, hy, ho⟩, f, u⟩ := a
  simp only at h5
  subst h5
  unfold aqV hdV
  simp only
  go_enter Tryz.func35, Tryz.ntmps35
  go_wp2
  refine bodyPost_ret (v := .agg #[.int .i64 ha, .int .i64 hb, .slice Ax hx.length cx, .slice Ay hy.length cy, .int .i64 ho]) ?_ rfl ⟨rfl, ?_⟩
  · rw [results_cell rfl]
    go_simp
  · (repeat' (first | exact Below.refl _ _ | exact Nat.le_refl _ | (with_reducible refine Below.setCell ?_ ?_ _) | (with_reducible refine Below.alloc ?_ ?_ _) | (simp; done) | (simp; omega)))
set_option maxRecDepth 100000 in
set_option maxHeartbeats 4000000 in
theorem heard_n (B : Nat) (P : List Nat) (q : Bool → Prop) (g1 g2 : Nat) (m1 m : NM) (a : Aq) (vd vx vy : Value) (w : World) (h : Two B P q w g1 g2 m1 m) (hk : AqOk w a vd vx vy) (h5 : a.k ≠ 5) :
    Calls Tryz.prog 35 #[aqV a vd vx vy, .pointer (some ⟨g2, 0, none⟩)] w fun e w' => ∃ (hd : Hn) (ux uy : Value), e = .returned (hdV hd ux uy) ∧ OwnsL w' w.heap.size ux hd.x ∧ OwnsL w' w.heap.size uy hd.y ∧ bytesL hd.x ∧ bytesL hd.y ∧ hd.o = a.h.o ∧ Below w.heap.size w w' := by
  obtain ⟨Ax, cx, rfl, -⟩ := hk.x.at_
  obtain ⟨Ay, cy, rfl, -⟩ := hk.y.at_
  have hbd := hk.by_.1
  obtain ⟨k, n, d, ⟨ha, hb, hx, hy, ho⟩, f, u⟩ := a
  have hd := hk.d
  simp only at h5 hd hbd
  have q5 : (k == 5) = false := by rw [beq_eq_false_iff_ne]; exact h5
  clear hk h5
  have HV := fun W (hW : Below w.heap.size w W) => Lib.hid (show Calls Tryz.prog 40 #[.pointer (some ⟨g2, 0, none⟩)] W fun e w' => e = .returned (.agg #[.int .i64 m.rd, .int .i64 (m.sl : Nat), .int .i64 (m.ty.m : Nat)]) ∧ Below W.heap.size W w' from by
    obtain ⟨F1, F2, -, h2, -, h4, -⟩ := h.ex
    exact rn_view (h2.keep hW.size fun f hf => hW.block f (h4 f hf).2.2))
  have hE := fun (F : F) (v : Value) (W : World) (hv : SeesL W W.heap.size v F.d) (hb : bytesL F.d) => Lib.hid (encode_ref F v W hv hb)
  have hEB := fun (F : F) (hb : bytesL F.d) => Lib.hid (encR_bytes (f := F) hb)
  unfold Enc frV at hE
  have hU : IntKind.u64.wrap ((m.sl : Nat) : Int) = ((m.sl : Nat) : Int) := by
    have := h.nj2.sl
    have := h.nj2.may.n8
    rw [IntKind.wrap_u64]; omega
  have hs8 : m.sl < 64 := by
    have := h.nj2.sl
    have := h.nj2.may.n8
    omega
  obtain ⟨Ad, cd, rfl, e1, e2, e3, e4⟩ := hd.at_
  have hcut : ∃ (L : List Int) (N : Nat), N = min d.length 8 ∧ L.length = N ∧ bytesL L ∧ ∀ W, Below w.heap.size w W → SeesL W W.heap.size (.slice Ad N cd) L := by
    by_cases h0 : d.length = 0
    · obtain rfl : d = [] := List.length_eq_zero_iff.1 h0
      exact ⟨[], 0, rfl, rfl, fun x hx => by simp at hx, fun W hW => (hd.below hW).more hW.size⟩
    · obtain ⟨bl, off, rfl, -⟩ := e3 (by omega)
      refine ⟨(d.drop 0).take (min d.length 8 - 0), min d.length 8, rfl, by simp, fun x hx => hbd x (List.mem_of_mem_drop (List.mem_of_mem_take hx)), fun W hW => ?_⟩
      exact SeesL.sub ((hd.below hW).more hW.size) 0 (min d.length 8) (by omega) (by omega) _ rfl _ _ rfl rfl
  obtain ⟨L, N, hN, hLN, hLb, hL⟩ := hcut
  have hNl : N ≤ d.length := by omega
  have hN8 : N ≤ 8 := by omega
  have hmin : (if (8 : Int) < ((d.length : Nat) : Int) then (8 : Int) else ((d.length : Nat) : Int)) = ((N : Nat) : Int) := by split <;> omega
  have hmin2 : min ((d.length : Nat) : Int) 8 = ((N : Nat) : Int) := by omega
  clear e3 e4 hd hbd h
  unfold aqV
  simp only
  unfold maxLen at e2
  generalize d.length = nd at *
  clear hN
  have hb0 := (Below.refl w.heap.size w).alloc (Nat.le_refl _) (.cells #[.int .i64 k, .int .i64 n, .slice Ad nd cd, .int .i64 ha, .int .i64 hb, .slice Ax hx.length cx, .slice Ay hy.length cy, .int .i64 ho, .int .i64 f, .int .i64 u] 41)
  have X := Blk.new w w.heap.size rfl #[.int .i64 k, .int .i64 n, .slice Ad nd cd, .int .i64 ha, .int .i64 hb, .slice Ax hx.length cx, .slice Ay hy.length cy, .int .i64 ho, .int .i64 f, .int .i64 u] 41
  have hb1 := hb0.alloc hb0.size (.cells #[.int .i64 0, .int .i64 0, .slice none 0 0, .slice none 0 0, .int .i64 0] 39)
  have X1 := X.alloc (.cells #[.int .i64 0, .int .i64 0, .slice none 0 0, .slice none 0 0, .int .i64 0] 39)
  have Y1 := Blk.new (w.alloc (.cells #[.int .i64 k, .int .i64 n, .slice Ad nd cd, .int .i64 ha, .int .i64 hb, .slice Ax hx.length cx, .slice Ay hy.length cy, .int .i64 ho, .int .i64 f, .int .i64 u] 41)) (w.heap.size + 1) (by simp) #[.int .i64 0, .int .i64 0, .slice none 0 0, .slice none 0 0, .int .i64 0] 39
  go_enter Tryz.func35, Tryz.ntmps35
  go_wp2_with fail
  refine (HV _ hb1).out.mono ?_
  rintro _ w2 ⟨rfl, b2⟩
  have X2 := X1.below b2 X1.lt
  have Y2 := Y1.below b2 Y1.lt
  have b2 := hb1.trans (b2.mono hb1.size)
  have x1 : ∀ o, (w2.alloc o).cell? ⟨w.heap.size, 1, none⟩ = some (.int .i64 n) := fun o => (X2.alloc o).cell 1 rfl
  have x2 : ∀ o, (w2.alloc o).cell? ⟨w.heap.size, 2, none⟩ = some (.slice Ad nd cd) := fun o => (X2.alloc o).cell 2 rfl
  have x7 : ∀ o, (w2.alloc o).cell? ⟨w.heap.size, 7, none⟩ = some (.int .i64 ho) := fun o => (X2.alloc o).cell 7 rfl
  have x8 : ∀ o, (w2.alloc o).cell? ⟨w.heap.size, 8, none⟩ = some (.int .i64 f) := fun o => (X2.alloc o).cell 8 rfl
  have x9 : ∀ o, (w2.alloc o).cell? ⟨w.heap.size, 9, none⟩ = some (.int .i64 u) := fun o => (X2.alloc o).cell 9 rfl
  clear X X1 Y1 HV hb0 hb1
  go_wp2_with fail
  generalize hmm : bits BinOp.or IntKind.i64 (bits BinOp.xor IntKind.i64 (m.ty.m : Nat) (bits BinOp.and IntKind.i64 u 255)) (wrap64 (2 ^ m.sl)) = mm at *
  clear hmm
  have b3 := b2.alloc b2.size (.cells #[.int .i64 m.rd, .int .i64 (m.sl : Nat), .int .i64 mm] 101)
  have X3 := X2.alloc (.cells #[.int .i64 m.rd, .int .i64 (m.sl : Nat), .int .i64 mm] 101)
  have Y3 := Y2.alloc (.cells #[.int .i64 m.rd, .int .i64 (m.sl : Nat), .int .i64 mm] 101)
  refine (hE ⟨f, ⟨m.rd, (m.sl : Nat), mm⟩, L⟩ (.slice Ad N cd) _ (hL _ b3) hLb).out.mono ?_
  rintro _ w4 ⟨v, rfl, hv, b4⟩
  have X4 := X3.below b4 X3.lt
  have Y4 := Y3.below b4 Y3.lt
  have hbase : w.heap.size ≤ (w2.alloc (.cells #[.int .i64 m.rd, .int .i64 (m.sl : Nat), .int .i64 mm] 101)).heap.size := b3.size
  have hfar : w.heap.size + 1 < (w2.alloc (.cells #[.int .i64 m.rd, .int .i64 (m.sl : Nat), .int .i64 mm] 101)).heap.size := Y3.lt
  have b45 := b3.trans (b4.mono b3.size)
  clear b4
  have hEBf := hEB ⟨f, ⟨m.rd, (m.sl : Nat), mm⟩, L⟩ hLb
  obtain ⟨A2, c2, rfl, -⟩ := hv.sees.at_
  generalize (w2.alloc (.cells #[.int .i64 m.rd, .int .i64 (m.sl : Nat), .int .i64 mm] 101)).heap.size = fb at *
  generalize encR ⟨f, ⟨m.rd, (m.sl : Nat), mm⟩, L⟩ = E at *
  clear x1 x2 x7 x8 x9 X2 Y2 X3 Y3 b2 b3 hE hL hEB
  have x7 := X4.cell 7 (x := .int .i64 ho) rfl
  have x1 : ∀ o, (w4.alloc o).cell? ⟨w.heap.size, 1, none⟩ = some (.int .i64 n) := fun o => (X4.alloc o).cell 1 rfl
  have x7' : ∀ o, (w4.alloc o).cell? ⟨w.heap.size, 7, none⟩ = some (.int .i64 ho) := fun o => (X4.alloc o).cell 7 rfl
  have z0 : ∀ o, (w4.alloc o).cell? ⟨w.heap.size + 1, 0, none⟩ = some (.int .i64 0) := fun o => (Y4.alloc o).cell 0 rfl
  have z1 : ∀ o, (w4.alloc o).cell? ⟨w.heap.size + 1, 1, none⟩ = some (.int .i64 0) := fun o => (Y4.alloc o).cell 1 rfl
  have z2 : ∀ o, (w4.alloc o).cell? ⟨w.heap.size + 1, 2, none⟩ = some (.slice none 0 0) := fun o => (Y4.alloc o).cell 2 rfl
  have z3 : ∀ o, (w4.alloc o).cell? ⟨w.heap.size + 1, 3, none⟩ = some (.slice none 0 0) := fun o => (Y4.alloc o).cell 3 rfl
  have z4 : ∀ o, (w4.alloc o).cell? ⟨w.heap.size + 1, 4, none⟩ = some (.int .i64 0) := fun o => (Y4.alloc o).cell 4 rfl
  have zf : ∀ o i, (w4.alloc o).frozen? ⟨w.heap.size + 1, i, none⟩ = false := fun o i => (Y4.alloc o).frozen i
  clear X4
  cases hq : (bits BinOp.and IntKind.i64 n 1 == 1)
  · skip
    have hv5 := hv.alloc (.cells #[.int .i64 2, .int .i64 0, .slice A2 E.length c2, .slice none 0 0, .int .i64 ho] 39)
    have b5 := b45.alloc b45.size (.cells #[.int .i64 2, .int .i64 0, .slice A2 E.length c2, .slice none 0 0, .int .i64 ho] 39)
    have hvf := Lib.hid (((((hv5.setFar ⟨w.heap.size + 1, 0, none⟩ (.int .i64 2) hfar).setFar ⟨w.heap.size + 1, 1, none⟩ (.int .i64 0) hfar).setFar ⟨w.heap.size + 1, 2, none⟩ (.slice A2 E.length c2) hfar).setFar ⟨w.heap.size + 1, 3, none⟩ (.slice none 0 0) hfar).setFar ⟨w.heap.size + 1, 4, none⟩ (.int .i64 ho) hfar)
    have hbf := Lib.hid (((((b5.setCell (p := ⟨w.heap.size + 1, 0, none⟩) (Nat.le_succ _) (.int .i64 2)).setCell (p := ⟨w.heap.size + 1, 1, none⟩) (Nat.le_succ _) (.int .i64 0)).setCell (p := ⟨w.heap.size + 1, 2, none⟩) (Nat.le_succ _) (.slice A2 E.length c2)).setCell (p := ⟨w.heap.size + 1, 3, none⟩) (Nat.le_succ _) (.slice none 0 0)).setCell (p := ⟨w.heap.size + 1, 4, none⟩) (Nat.le_succ _) (.int .i64 ho))
    have HBF := hEBf
    clear hv hv5 b5 b45 Y4
    go_wp2
    refine bodyPost_ret (v := .agg #[.int .i64 2, .int .i64 0, .slice A2 E.length c2, .slice none 0 0, .int .i64 ho]) ?_ rfl ⟨⟨2, 0, E, [], ho⟩, .slice A2 E.length c2, .slice none 0 0, rfl, hvf.out.base hbase, OwnsL.nil, HBF.out, (fun x hx => by cases hx), rfl, hbf.out⟩
    · rw [results_cell rfl]
      go_simp
  · skip
    have hv5 := hv.alloc (.cells #[.int .i64 1, .int .i64 2, .slice none 0 0, .slice A2 E.length c2, .int .i64 ho] 39)
    have b5 := b45.alloc b45.size (.cells #[.int .i64 1, .int .i64 2, .slice none 0 0, .slice A2 E.length c2, .int .i64 ho] 39)
    have hvf := Lib.hid (((((hv5.setFar ⟨w.heap.size + 1, 0, none⟩ (.int .i64 1) hfar).setFar ⟨w.heap.size + 1, 1, none⟩ (.int .i64 2) hfar).setFar ⟨w.heap.size + 1, 2, none⟩ (.slice none 0 0) hfar).setFar ⟨w.heap.size + 1, 3, none⟩ (.slice A2 E.length c2) hfar).setFar ⟨w.heap.size + 1, 4, none⟩ (.int .i64 ho) hfar)
    have hbf := Lib.hid (((((b5.setCell (p := ⟨w.heap.size + 1, 0, none⟩) (Nat.le_succ _) (.int .i64 1)).setCell (p := ⟨w.heap.size + 1, 1, none⟩) (Nat.le_succ _) (.int .i64 2)).setCell (p := ⟨w.heap.size + 1, 2, none⟩) (Nat.le_succ _) (.slice none 0 0)).setCell (p := ⟨w.heap.size + 1, 3, none⟩) (Nat.le_succ _) (.slice A2 E.length c2)).setCell (p := ⟨w.heap.size + 1, 4, none⟩) (Nat.le_succ _) (.int .i64 ho))
    have HBF := hEBf
    clear hv hv5 b5 b45 Y4
    go_wp2
    refine bodyPost_ret (v := .agg #[.int .i64 1, .int .i64 2, .slice none 0 0, .slice A2 E.length c2, .int .i64 ho]) ?_ rfl ⟨⟨1, 2, [], E, ho⟩, .slice none 0 0, .slice A2 E.length c2, rfl, OwnsL.nil, hvf.out.base hbase, (fun x hx => by cases hx), HBF.out, rfl, hbf.out⟩
    · rw [results_cell rfl]
      go_simp
end Go.Proofs.YtpdenmcacaajkaaGreat

/-! ### NpA -/
namespace Go.Proofs.YtpdenmcacaajkaaGreat
open Go.RowKit
theorem two_ack {B : Nat} {P : List Nat} {q : Bool → Prop} {w : World} {g1 g2 : Nat} {m : NM} (n : Int) (h : Two B P q w g1 g2 m m) : ∃ ga : Nat, w.cell? ⟨g2, 14, none⟩ = some (.pointer (some ⟨ga, 0, none⟩)) ∧
    Calls Tryz.prog 31 #[.pointer (some ⟨g1, 0, none⟩), .int .i64 n] w fun e w1 => e = .returned (.int .i64 (ackM m.al m.an m.ar n)) ∧ Bw B P w w1 ∧ w1.cell? ⟨g2, 14, none⟩ = some (.pointer (some ⟨ga, 0, none⟩)) ∧
      Calls Tryz.prog 32 #[.pointer (some ⟨ga, 0, none⟩), .int .i64 n] w1 fun e w2 => e = .returned (.int .i64 (ackM m.al m.an m.ar n)) ∧ Two B P anyB w2 g1 g2 { m with ar := ackR m.al m.an m.ar n } { m with ar := ackR m.al m.an m.ar n } ∧ Bw B P w1 w2 ∧ w2.cell? ⟨g2, 14, none⟩ = some (.pointer (some ⟨ga, 0, none⟩)) := by
  obtain ⟨F1, F2, h1, h2, h3, h4, h5⟩ := h.ex
  obtain ⟨⟨b, x, hq, hr⟩, j⟩ := h2
  have hg2 : g2 ∈ F2 := hr.G_
  refine ⟨x.a, hr.c14, (nodeMore.ack n h1).mono ?_⟩
  rintro _ w1 ⟨F', rfl, h1', hk, hf⟩
  have hs := hk.size
  have hr1 := hr.keepL (W' := w1) hs fun f hm => hk.block f (h4 f hm).2.2 fun hm1 => h5 f hm1 hm
  have j1 : NJ ({ m with ar := ackR m.al m.an m.ar n } : NM) := ⟨j.is, j.i, j.st, j.rd, j.sl, j.da, j.wt, j.ck, j.dr⟩
  have hT : Two B P anyB w1 g1 g2 { m with ar := ackR m.al m.an m.ar n } m := ⟨⟨F', F2, h1', ⟨⟨b, x, trivial, hr1⟩, j⟩, fun f hm => by
    rcases hf f hm with h' | h'
    · exact h3 f h'
    · exact ⟨Nat.le_trans h.lo h', fun hp => by have := h.p f hp; omega⟩, fun f hm => ⟨(h4 f hm).1, (h4 f hm).2.1, Nat.lt_of_lt_of_le (h4 f hm).2.2 hs⟩, fun f hm hm2 => by
    rcases hf f hm with h' | h'
    · exact h5 f h' hm2
    · have := (h4 f hm2).2.2; omega⟩, Nat.le_trans h.lo hs, fun p hp => Nat.lt_of_lt_of_le (h.p p hp) hs⟩
  refine ⟨rfl, bw_kq hk h3 h.lo h.p, hr1.c14, ?_⟩
  have hrG := hr1.mono (G' := fun k => k ∈ F2 ∨ w1.heap.size ≤ k) fun k hk => .inl hk
  refine (ack_ra b _ g2 m x n w1 hrG).mono ?_
  rintro _ w2 ⟨rfl, hr2, hk2⟩
  obtain ⟨F'', h2'', hkq, hf2''⟩ := rn_close (q := anyB) (b := b) trivial ⟨x, hr2⟩ hk2 j1
  obtain ⟨F3, h3', hfl⟩ := rn_lts h2''
  have hf2 : ∀ f, f ∈ F3 → f ∈ F2 ∨ w1.heap.size ≤ f := fun f hm => hf2'' f (hfl f hm).1
  have hs2 := hkq.size
  obtain ⟨F1a, F2a, t1, t2, t3, t4, t5⟩ := hT.ex
  refine ⟨rfl, ⟨⟨F', F3, h1'.keep hs2 fun f hm => hkq.block f (h1'.lt f hm) fun hm2 => ?_, h3', ?_, fun f hm => ?_, fun f hm hm2 => ?_⟩, Nat.le_trans hT.lo hs2, fun p hp => Nat.lt_of_lt_of_le (hT.p p hp) hs2⟩, bw_kq hkq (fun f hm => ⟨(h4 f hm).1, (h4 f hm).2.1⟩) hT.lo hT.p, hr2.c14⟩
  · rcases hf f hm with h' | h'
    · exact h5 f h' hm2
    · have := (h4 f hm2).2.2; omega
  · exact fun f hm => by
      rcases hf f hm with h' | h'
      · exact h3 f h'
      · exact ⟨Nat.le_trans h.lo h', fun hp => by have := h.p f hp; omega⟩
  · rcases hf2 f hm with h' | h'
    · exact ⟨(h4 f h').1, (h4 f h').2.1, (hfl f hm).2⟩
    · exact ⟨Nat.le_trans hT.lo h', fun hp => by have := hT.p f hp; omega, (hfl f hm).2⟩
  · rcases hf2 f hm2 with h' | h'
    · rcases hf f hm with h'' | h''
      · exact h5 f h'' h'
      · have := (h4 f h').2.2; omega
    · have := h1'.lt f hm; omega
end Go.Proofs.YtpdenmcacaajkaaGreat

/-! ### NpD -/
namespace Go.Proofs.YtpdenmcacaajkaaGreat
open Go.RowKit
def BX (a : Aq) (vd vx vy : Value) : Array Value := #[.int .i64 a.k, .int .i64 a.n, vd, .int .i64 a.h.a, .int .i64 a.h.b, vx, vy, .int .i64 a.h.o, .int .i64 a.f, .int .i64 a.u]
theorem Bw.trans {B : Nat} {P : List Nat} {w w1 w2 : World} (h : Bw B P w w1) (k : Bw B P w1 w2) : Bw B P w w2 := ⟨h.b.trans k.b, fun p hp => (k.k p hp).trans (h.k p hp)⟩
theorem Bw.below {B : Nat} {P : List Nat} {w w' : World} (b : Below w.heap.size w w') (hB : B ≤ w.heap.size) (hP : ∀ p, p ∈ P → p < w.heap.size) : Bw B P w w' := Bw.of b hB hP
/-- What do asks, and what it answers. -/
def DoC (B : Nat) (g1 g2 : Nat) (k : Nat) (a : Aq) (vd vx vy : Value) (w : World) : Prop :=
  Calls Tryz.prog 10 #[.pointer (some ⟨g1, 0, none⟩), .pointer (some ⟨g2, 0, none⟩), aqV a vd vx vy] w fun e w' => e = .returned (.bool true) ∧ (∃ m', Two B [] anyB w' g1 g2 m' m' ∧ Bd m' (k + 1)) ∧ Below B w w'
set_option maxRecDepth 100000 in
set_option maxHeartbeats 4000000 in
theorem do_on (B : Nat) (g1 g2 : Nat) (m : NM) (k : Nat) (a : Aq) (vd vx vy : Value) (w : World) (h : Two B [] anyB w g1 g2 m m) (hd : Bd m k) (hq : AqOk w a vd vx vy) (hB : SeesL w B vd a.d) (h50 : a.d.length ≤ 50) (hka : a.k = 1) : DoC B g1 g2 k a vd vx vy w := by
  unfold DoC
  have hbx := (Below.refl w.heap.size w).alloc (Nat.le_refl _) (.cells (BX a vd vx vy) 41)
  have hX := Blk.new w w.heap.size rfl (BX a vd vx vy) 41
  have hT := h.add hbx [w.heap.size] (fun f hf => by simp at hf; subst hf; simp)
  have hlo := h.lo
  have hBw : Below B w (w.alloc (.cells (BX a vd vx vy) 41)) := hbx.mono hlo
  clear h
  obtain ⟨Ad, cd, rfl, -⟩ := hq.d.at_
  obtain ⟨Ax, cx, rfl, -⟩ := hq.x.at_
  obtain ⟨Ay, cy, rfl, -⟩ := hq.y.at_
  have hqx := hq.by_
  have hbd := hqx.1
  have hqd := (hq.d.below hbx).more hbx.size
  unfold BX at hX hT hBw hbx hqd
  clear hq
  obtain ⟨ak, an, ad, ⟨ha, hb, hx, hy, ho⟩, af, au⟩ := a
  simp only at hka hX hT hBw hbx hqd hbd hB h50 ⊢
  subst hka
  unfold aqV
  simp only
  have x0 := hX.cell 0 (x := .int .i64 1) rfl
  have x1 := hX.cell 1 (x := .int .i64 an) rfl
  go_enter Tryz.func10, Tryz.ntmps10
  go_wp2_with fail
  clear hbx hqd
  generalize w.alloc (.cells #[.int .i64 1, .int .i64 an, .slice Ad ad.length cd, .int .i64 ha, .int .i64 hb, .slice Ax hx.length cx, .slice Ay hy.length cy, .int .i64 ho, .int .i64 af, .int .i64 au] 41) = w0 at *
  have b0 := (Below.refl w0.heap.size w0).drew
  have hT0 := hT.below b0
  have hX0 := hX.drew
  have S0 := Lib.hid (hX0.cell 1 (x := .int .i64 an) rfl)
  have H1 := Lib.hid (two_on1 an hT0)
  have H2 := fun W (hW : Two B ([w.heap.size] ++ []) anyB W g1 g2 (m.on an) m) => Lib.hid (two_on2 an hW)
  have e1 : (m.onE an == m.onE an) = true := by simp
  have hfin := hd.on an
  go_region_held3 (fun W => W.cell? ⟨w.heap.size, 1, none⟩ = some (.int .i64 an)) ((first | exact S0.out | exact S1.out | exact S2.out))
    (first
      | (go_at_call 25; refine H1.out.mono ?_; rintro _ w1 ⟨rfl, hT1, b1⟩; (have hX1 := b1.blk (by simp) hX0); (have S1 := Lib.hid (hX1.cell 1 (x := .int .i64 an) rfl)))
      | (go_at_call 26; refine (H2 _ hT1).out.mono ?_; rintro _ w2 ⟨rfl, hT2, b2⟩; (have hX2 := b2.blk (by simp) hX1); (have S2 := Lib.hid (hX2.cell 1 (x := .int .i64 an) rfl)))
      | fail)
  have hTf := Lib.hid (show Two B [] anyB w2 g1 g2 (m.on an) (m.on an) from hT2.less)
  have hbf := Lib.hid (((hBw.trans (b0.mono (by have := hX.lt; omega))).trans b1.b).trans b2.b)
  clear S0 S1 S2 H1 H2 hX0 hX1 hX2 hT0 hT1 hT2 b0 b1 b2 hT hX
  go_wp2
  go_ret
  exact ⟨rfl, ⟨_, hTf.out, hfin⟩, hbf.out⟩
set_option maxRecDepth 100000 in
set_option maxHeartbeats 4000000 in
theorem do_off (B : Nat) (g1 g2 : Nat) (m : NM) (k : Nat) (a : Aq) (vd vx vy : Value) (w : World) (h : Two B [] anyB w g1 g2 m m) (hd : Bd m k) (hq : AqOk w a vd vx vy) (hB : SeesL w B vd a.d) (h50 : a.d.length ≤ 50) (hka : a.k = 2) : DoC B g1 g2 k a vd vx vy w := by
  unfold DoC
  have hbx := (Below.refl w.heap.size w).alloc (Nat.le_refl _) (.cells (BX a vd vx vy) 41)
  have hX := Blk.new w w.heap.size rfl (BX a vd vx vy) 41
  have hT := h.add hbx [w.heap.size] (fun f hf => by simp at hf; subst hf; simp)
  have hlo := h.lo
  have hBw : Below B w (w.alloc (.cells (BX a vd vx vy) 41)) := hbx.mono hlo
  clear h
  obtain ⟨Ad, cd, rfl, -⟩ := hq.d.at_
  obtain ⟨Ax, cx, rfl, -⟩ := hq.x.at_
  obtain ⟨Ay, cy, rfl, -⟩ := hq.y.at_
  have hqx := hq.by_
  have hbd := hqx.1
  have hqd := (hq.d.below hbx).more hbx.size
  unfold BX at hX hT hBw hbx hqd
  clear hq
  obtain ⟨ak, an, ad, ⟨ha, hb, hx, hy, ho⟩, af, au⟩ := a
  simp only at hka hX hT hBw hbx hqd hbd hB h50 ⊢
  subst hka
  unfold aqV
  simp only
  have x0 := hX.cell 0 (x := .int .i64 2) rfl
  go_enter Tryz.func10, Tryz.ntmps10
  go_wp2_with fail
  clear hbx hqd x0
  generalize w.alloc (.cells #[.int .i64 2, .int .i64 an, .slice Ad ad.length cd, .int .i64 ha, .int .i64 hb, .slice Ax hx.length cx, .slice Ay hy.length cy, .int .i64 ho, .int .i64 af, .int .i64 au] 41) = w0 at *
  refine (two_off1 hT).mono ?_
  rintro _ w1 ⟨rfl, hT1, b1⟩
  have H2 := Lib.hid (two_off2 hT1)
  go_wp2_with fail
  refine H2.out.mono ?_
  rintro _ w2 ⟨rfl, hT2, b2⟩
  have hTf := Lib.hid (show Two B [] anyB w2 g1 g2 m.off m.off from hT2.less)
  have hbf := Lib.hid ((hBw.trans b1.b).trans b2.b)
  have hfin := hd.off
  clear H2 hT hT1 hT2 b1 b2 hX
  go_wp2
  go_ret
  exact ⟨rfl, ⟨_, hTf.out, hfin⟩, hbf.out⟩
set_option maxRecDepth 100000 in
set_option maxHeartbeats 4000000 in
theorem do_ack (B : Nat) (g1 g2 : Nat) (m : NM) (k : Nat) (a : Aq) (vd vx vy : Value) (w : World) (h : Two B [] anyB w g1 g2 m m) (hd : Bd m k) (hq : AqOk w a vd vx vy) (hB : SeesL w B vd a.d) (h50 : a.d.length ≤ 50) (hka : a.k = 4) : DoC B g1 g2 k a vd vx vy w := by
  unfold DoC
  have hbx := (Below.refl w.heap.size w).alloc (Nat.le_refl _) (.cells (BX a vd vx vy) 41)
  have hX := Blk.new w w.heap.size rfl (BX a vd vx vy) 41
  have hT := h.add hbx [w.heap.size] (fun f hf => by simp at hf; subst hf; simp)
  have hlo := h.lo
  have hBw : Below B w (w.alloc (.cells (BX a vd vx vy) 41)) := hbx.mono hlo
  clear h
  obtain ⟨Ad, cd, rfl, -⟩ := hq.d.at_
  obtain ⟨Ax, cx, rfl, -⟩ := hq.x.at_
  obtain ⟨Ay, cy, rfl, -⟩ := hq.y.at_
  have hqx := hq.by_
  have hbd := hqx.1
  have hqd := (hq.d.below hbx).more hbx.size
  unfold BX at hX hT hBw hbx hqd
  clear hq
  obtain ⟨ak, an, ad, ⟨ha, hb, hx, hy, ho⟩, af, au⟩ := a
  simp only at hka hX hT hBw hbx hqd hbd hB h50 ⊢
  subst hka
  unfold aqV
  simp only
  have x0 := hX.cell 0 (x := .int .i64 4) rfl
  have x1 := hX.cell 1 (x := .int .i64 an) rfl
  go_enter Tryz.func10, Tryz.ntmps10
  go_wp2_with fail
  clear hbx hqd
  generalize w.alloc (.cells #[.int .i64 4, .int .i64 an, .slice Ad ad.length cd, .int .i64 ha, .int .i64 hb, .slice Ax hx.length cx, .slice Ay hy.length cy, .int .i64 ho, .int .i64 af, .int .i64 au] 41) = w0 at *
  have b0 := (Below.refl w0.heap.size w0).drew
  have hX0 := hX.drew
  obtain ⟨ga, c14, hA⟩ := two_ack an (hT.below b0)
  have hA := Lib.hid hA
  have S0 := Lib.hid (And.intro (hX0.cell 1 (x := .int .i64 an) rfl) c14)
  have e1 : (ackM m.al m.an m.ar an == ackM m.al m.an m.ar an) = true := by simp
  have hfin : Bd ({ m with ar := ackR m.al m.an m.ar an } : NM) (k + 1) := hd.more rfl rfl
  have hXl := hX.lt
  clear c14 hT
  go_region_held3 (fun W => W.cell? ⟨w.heap.size, 1, none⟩ = some (.int .i64 an) ∧ W.cell? ⟨g2, 14, none⟩ = some (.pointer (some ⟨ga, 0, none⟩))) ((first | exact S0.out | exact S1.out | exact S2.out))
    (first
      | (go_at_call 31; refine hA.out.mono ?_; rintro _ w1 ⟨rfl, b1, c1, H2⟩; (have hX1 := b1.blk (by simp) hX0); (have S1 := Lib.hid (And.intro (hX1.cell 1 (x := .int .i64 an) rfl) c1)); (have H2 := Lib.hid H2))
      | (go_at_call 32; refine H2.out.mono ?_; rintro _ w2 ⟨rfl, hT2, b2, c2⟩; (have hX2 := b2.blk (by simp) hX1); (have S2 := Lib.hid (And.intro (hX2.cell 1 (x := .int .i64 an) rfl) c2)))
      | fail)
  have hTf := Lib.hid (show Two B [] anyB w2 g1 g2 ({ m with ar := ackR m.al m.an m.ar an } : NM) ({ m with ar := ackR m.al m.an m.ar an } : NM) from hT2.less)
  have hbf := Lib.hid (((hBw.trans (b0.mono (by omega))).trans b1.b).trans b2.b)
  clear S0 S1 S2 hA H2 hX0 hX1 hX2 hT2 b0 b1 b2 hX
  go_wp2
  go_ret
  exact ⟨rfl, ⟨_, hTf.out, hfin⟩, hbf.out⟩
set_option maxRecDepth 100000 in
set_option maxHeartbeats 4000000 in
theorem do_write (B : Nat) (g1 g2 : Nat) (m : NM) (k : Nat) (a : Aq) (vd vx vy : Value) (w : World) (h : Two B [] anyB w g1 g2 m m) (hd : Bd m k) (hq : AqOk w a vd vx vy) (hB : SeesL w B vd a.d) (h50 : a.d.length ≤ 50) (hka : a.k = 3) : DoC B g1 g2 k a vd vx vy w := by
  unfold DoC
  have hbx := (Below.refl w.heap.size w).alloc (Nat.le_refl _) (.cells (BX a vd vx vy) 41)
  have hX := Blk.new w w.heap.size rfl (BX a vd vx vy) 41
  have hT := h.add hbx [w.heap.size] (fun f hf => by simp at hf; subst hf; simp)
  have hlo := h.lo
  have hBw : Below B w (w.alloc (.cells (BX a vd vx vy) 41)) := hbx.mono hlo
  clear h
  obtain ⟨Ad, cd, rfl, -⟩ := hq.d.at_
  obtain ⟨Ax, cx, rfl, -⟩ := hq.x.at_
  obtain ⟨Ay, cy, rfl, -⟩ := hq.y.at_
  have hqx := hq.by_
  have hbd := hqx.1
  have hqd := (hq.d.below hbx).more hbx.size
  unfold BX at hX hT hBw hbx hqd
  clear hq
  obtain ⟨ak, an, ad, ⟨ha, hb, hx, hy, ho⟩, af, au⟩ := a
  simp only at hka hX hT hBw hbx hqd hbd hB h50 ⊢
  subst hka
  unfold aqV
  simp only
  have x0 := hX.cell 0 (x := .int .i64 3) rfl
  go_enter Tryz.func10, Tryz.ntmps10
  go_wp2_with fail
  clear hbx
  generalize w.alloc (.cells #[.int .i64 3, .int .i64 an, .slice Ad ad.length cd, .int .i64 ha, .int .i64 hb, .slice Ax hx.length cx, .slice Ay hy.length cy, .int .i64 ho, .int .i64 af, .int .i64 au] 41) = w0 at *
  have b0 := (Below.refl w0.heap.size w0).drew
  have hX0 := hX.drew
  have hXl := hX.lt
  have S0 := Lib.hid (hX0.cell 2 (x := .slice Ad ad.length cd) rfl)
  have e1 : (m.writeE ad == m.writeE ad) = true := by simp
  have hfin := hd.write ad
  refine wp_region_held_drew (S := fun W => W.cell? ⟨w.heap.size, 2, none⟩ = some (.slice Ad ad.length cd)) (by kernel_rfl) S0.out (fun hHeld => ?_)
  refine wpAnyH_take (i := 0) (oi := { dst := some 29, op := _, type := _, pos := _, after := _, guard := none }) (v := ?_) rfl (by kernel_rfl) (by kernel_rfl) (by kernel_rfl) (fun _ _ _ h => h) (Or.inl ⟨by rfl, ?_⟩) (by assumption) ?_
  rotate_left 1
  · (intro wz hSw; go_simp; try with_reducible rfl)
  try simp only [Act.put, List.setIfInBounds_toArray, List.set_cons_zero, List.set_cons_succ]
  refine wpAnyH_take (i := 2) (oi := { dst := some 31, op := _, type := _, pos := _, after := _, guard := none }) (v := ?_) rfl (by kernel_rfl) (by kernel_rfl) (by kernel_rfl) (fun _ _ _ h => h) (Or.inl ⟨by rfl, ?_⟩) (by assumption) ?_
  rotate_left 1
  · (intro wz hSw; go_simp; try with_reducible rfl)
  try simp only [Act.put, List.setIfInBounds_toArray, List.set_cons_zero, List.set_cons_succ]
  refine wpAnyH_take (i := 3) (oi := { dst := some 32, op := _, type := _, pos := _, after := _, guard := none }) (v := ?_) rfl (by kernel_rfl) (by kernel_rfl) (by kernel_rfl) (fun _ _ _ h => h) (Or.inl ⟨by rfl, ?_⟩) (by assumption) ?_
  rotate_left 1
  · (intro wz hSw; go_simp; try with_reducible rfl)
  try simp only [Act.put, List.setIfInBounds_toArray, List.set_cons_zero, List.set_cons_succ]
  refine wpAnyH_take (i := 6) (oi := { dst := some 35, op := _, type := _, pos := _, after := _, guard := none }) (v := ?_) rfl (by kernel_rfl) (by kernel_rfl) (by kernel_rfl) (fun _ _ _ h => h) (Or.inl ⟨by rfl, ?_⟩) (by assumption) ?_
  rotate_left 1
  · (intro wz hSw; go_simp; try with_reducible rfl)
  try simp only [Act.put, List.setIfInBounds_toArray, List.set_cons_zero, List.set_cons_succ]
  refine wpAnyH_take (i := 7) (oi := { dst := some 36, op := _, type := _, pos := _, after := _, guard := none }) (v := ?_) rfl (by kernel_rfl) (by kernel_rfl) (by kernel_rfl) (fun _ _ _ h => h) (Or.inl ⟨by rfl, ?_⟩) (by assumption) ?_
  rotate_left 1
  · (intro wz hSw; go_simp; try with_reducible rfl)
  try simp only [Act.put, List.setIfInBounds_toArray, List.set_cons_zero, List.set_cons_succ]
  refine wpAnyH_take (i := 8) (oi := { dst := some 37, op := _, type := _, pos := _, after := _, guard := none }) (v := ?_) rfl (by kernel_rfl) (by kernel_rfl) (by kernel_rfl) (fun _ _ _ h => h) (Or.inl ⟨by rfl, ?_⟩) (by assumption) ?_
  rotate_left 1
  · (intro wz hSw; go_simp; try with_reducible rfl)
  try simp only [Act.put, List.setIfInBounds_toArray, List.set_cons_zero, List.set_cons_succ]
  refine wpAnyH_ready (rs := [1]) (by kernel_rfl) (by simp) ?_
  refine (AllReadyH.cons rfl (fun K hK => ?_) AllReadyH.nil)
  go_simp
  have b1 := b0.alloc b0.size (.cells #[] 5)
  have hX1 := hX0.alloc (.cells #[] 5)
  refine hK.out _ _ (hX1.cell 2 rfl) (fun hHeld => ?_)
  clear hK K
  try simp only [Act.put, List.setIfInBounds_toArray, List.set_cons_zero, List.set_cons_succ]
  refine wpAnyH_ready (rs := [4]) (by kernel_rfl) (by simp) ?_
  refine (AllReadyH.cons rfl (fun K hK => ?_) AllReadyH.nil)
  refine step_pushL _ rfl (.tmp 30) (.tmp 32) 37 rfl w0.heap.size infoU8 Tryz.underlying37 (.slice (some ⟨w0.heap.size, 0, none⟩) 0 0) [] ?_ rfl B (.slice Ad ad.length cd) ad rfl ?_ ?_ ?_ ?_
  · exact owns_empty w0.drew _ rfl _ _ (Nat.le_refl _) rfl
  · exact ((hB.below hBw).below (b0.mono (by omega))).alloc _
  · simp
  · simp
    omega
  intro v2 w2 ho2 hx2
  have b2 := b1.trans (hx2.toBelow (B := w0.heap.size) (by simp) (fun j hj => by simp [Value.ownBlock] at hj; omega))
  have hX2 := hX.below b2 hXl
  have ho2 : OwnsL w2 w0.heap.size v2 ad := by simpa using ho2
  refine hK.out _ _ (hX2.cell 2 rfl) (fun hHeld => ?_)
  clear hK K
  try simp only [Act.put, List.setIfInBounds_toArray]
  refine wpAnyH_ready (rs := [5]) (by kernel_rfl) (by simp) ?_
  refine (AllReadyH.cons rfl (fun K hK => ?_) AllReadyH.nil)
  go_simp
  have hT2 := hT.below b2
  refine (two_write1 hT2 ho2.sees hbd).mono ?_
  rintro _ w3 ⟨rfl, hT3, b3⟩
  have hX3 := b3.blk (by simp) hX2
  refine hK.out _ _ (hX3.cell 2 rfl) (fun hHeld => ?_)
  clear hK K
  try simp only [Act.put, List.setIfInBounds_toArray, List.set_cons_zero, List.set_cons_succ]
  refine wpAnyH_ready (rs := [9]) (by kernel_rfl) (by simp) ?_
  refine (AllReadyH.cons rfl (fun K hK => ?_) AllReadyH.nil)
  go_simp
  refine (two_write2 hT3 (((hB.below hBw).below ((b2.mono (by omega)).trans b3.b)).more hT3.lo)).mono ?_
  rintro _ w4 ⟨rfl, hT4, b4⟩
  have hX4 := b4.blk (by simp) hX3
  refine hK.out _ _ (hX4.cell 2 rfl) (fun hHeld => ?_)
  clear hK K
  try simp only [Act.put, List.setIfInBounds_toArray, List.set_cons_zero, List.set_cons_succ]
  refine wpAnyH_take (i := 10) (oi := { dst := some 39, op := _, type := _, pos := _, after := _, guard := none }) (v := ?_) rfl (by kernel_rfl) (by kernel_rfl) (by kernel_rfl) (fun _ _ _ h => h) (Or.inl ⟨by rfl, ?_⟩) (by assumption) ?_
  rotate_left 1
  · (intro wz hSw; go_simp; try with_reducible rfl)
  try simp only [Act.put, List.setIfInBounds_toArray, List.set_cons_zero, List.set_cons_succ]
  refine wpAnyH_take (i := 11) (oi := { dst := some 6, op := _, type := _, pos := _, after := _, guard := none }) (v := ?_) rfl (by kernel_rfl) (by kernel_rfl) (by kernel_rfl) (fun _ _ _ h => h) (Or.inl ⟨by rfl, ?_⟩) (by assumption) ?_
  rotate_left 1
  · (intro wz hSw; go_simp; try with_reducible rfl)
  try simp only [Act.put, List.setIfInBounds_toArray, List.set_cons_zero, List.set_cons_succ]
  refine wpAnyH_done (by kernel_rfl) ?_ _
  have hTf := Lib.hid (show Two B [] anyB w4 g1 g2 (m.write ad) (m.write ad) from hT4.less)
  have hbf := Lib.hid (((hBw.trans (b2.mono (by omega))).trans b3.b).trans b4.b)
  clear S0 hX0 hX1 hX2 hX3 hX4 hT2 hT3 hT4 b0 b1 b2 b3 b4 hT hX hx2 ho2
  go_wp2
  go_ret
  exact ⟨rfl, ⟨_, hTf.out, hfin⟩, hbf.out⟩
end Go.Proofs.YtpdenmcacaajkaaGreat
