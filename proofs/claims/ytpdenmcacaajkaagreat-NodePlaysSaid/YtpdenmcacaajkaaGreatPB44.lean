/- Texts RaV in one. For what each says in front of its theorems. -/
import Derived.Test.YtpdenmcacaajkaaGreatPB43
/-! ### RaV -/
namespace Go.Proofs.YtpdenmcacaajkaaGreat
open Go.RowKit
open Fr (St F)
theorem right_h (b : Bool) (G : Nat → Prop) (g : Nat) (m : NM) (xx : RX) (h : Hn) (vx vy : Value) (W : World) (hh : HOk W h vx vy) (hm : RA b G W g m xx) (hsl : m.sl < 8) :
    Calls Tryz.prog 85 #[.pointer (some ⟨g, 0, none⟩), rowV h.a vx, rowV h.b vy] W (Fst W m.own (fun f : F => decide (f.k ≠ 3 ∧ f.st = m.own)) h) :=
  (right_ra b G g m xx _ _ _ _ W (row_sees hh.x) (row_bytes hh.bx) (row_sees hh.y) (row_bytes hh.by_) hm hsl).mono fun _ _ h => fst_two h
theorem right_none (b : Bool) (G : Nat → Prop) (g : Nat) (m : NM) (xx : RX) (h : Hn) (vx vy : Value) (hsl : m.sl < 8) (W : World) (hh : HOk W h vx vy) (hm : RA b G W g m xx) (hn : m.rightL h = none) :
    Calls Tryz.prog 85 #[.pointer (some ⟨g, 0, none⟩), rowV h.a vx, rowV h.b vy] W fun e w' => e = .returned (.tuple #[.agg #[.int .i64 0, .int .i64 0, .int .i64 0, .int .i64 0, .slice none 0 0], .bool false]) ∧ Below W.heap.size W w' :=
  (right_h b G g m xx h vx vy W hh hm hsl).mono fun e w' hF => by
    unfold Fst at hF
    rw [rightL_eq, hn] at hF
    exact hF
theorem right_some (b : Bool) (G : Nat → Prop) (g : Nat) (m : NM) (xx : RX) (h : Hn) (vx vy : Value) (l : List Int) (hsl : m.sl < 8) (W : World) (hh : HOk W h vx vy) (hm : RA b G W g m xx) (hn : m.rightL h = some l) :
    Calls Tryz.prog 85 #[.pointer (some ⟨g, 0, none⟩), rowV h.a vx, rowV h.b vy] W fun e w' => ∃ v, e = .returned (.tuple #[frV (Fr.res l m.own) v, .bool true]) ∧ OwnsL w' W.heap.size v (Fr.res l m.own).d ∧ Below W.heap.size W w' :=
  (right_h b G g m xx h vx vy W hh hm hsl).mono fun e w' hF => by
    unfold Fst at hF
    rw [rightL_eq, hn] at hF
    exact hF
def Tke (G : Nat → Prop) (g : Nat) (m' : NM) (h : Hn) (vx vy : Value) (w : World) : Prop := Calls Tryz.prog 37 #[.pointer (some ⟨g, 0, none⟩), hdV h vx vy] w fun e w' => e = .returned (.tuple #[]) ∧ RL G w' g m' ∧ KG G w w'
set_option maxRecDepth 100000 in
set_option maxHeartbeats 2000000 in
theorem tke_off (b : Bool) (G : Nat → Prop) (g : Nat) (m : NM) (x : RX) (h : Hn) (vx vy : Value) (w : World) (hm : RA b G w g m x) (hh : HOk w h vx vy) (hst : m.st = 0 ∨ m.st = 5) : Tke G g m h vx vy w := by
  unfold Tke
  have hb0 := (Below.refl w.heap.size w).alloc (Nat.le_refl _) (.cells #[.int .i64 h.a, .int .i64 h.b, vx, vy, .int .i64 h.o] 39)
  have hX0 := Blk.new w w.heap.size rfl #[.int .i64 h.a, .int .i64 h.b, vx, vy, .int .i64 h.o] 39
  have hm0 := hm.below hb0
  obtain ⟨Ax, cx, rfl, -⟩ := hh.x.at_
  obtain ⟨Ay, cy, rfl, -⟩ := hh.y.at_
  have c6 := hm0.c6
  have hk := Lib.hid hm0
  clear hm hm0 hh hX0
  unfold hdV
  rcases hst with e | e
  all_goals
    rw [e] at c6
    clear e
    go_enter Tryz.func37, Tryz.ntmps37
    go_wp2
    exact bodyPost_ret (v := .tuple #[]) (results_none (by rfl) _ _ _) rfl ⟨rfl, ⟨b, x, hk.out⟩, kg_below hb0⟩
set_option maxRecDepth 100000 in
set_option maxHeartbeats 2000000 in
theorem tke_listen (b b2 : Bool) (G : Nat → Prop) (g : Nat) (m m2 : NM) (x : RX) (h : Hn) (vx vy : Value) (w : World) (hm : RA b G w g m x) (hh : HOk w h vx vy) (hst : m.st = 1) (HL : ∀ W, Below w.heap.size w W → Calls Tryz.prog 82 #[.pointer (some ⟨g, 0, none⟩), hdV h vx vy] W fun e w' => e = .returned (.tuple #[]) ∧ RS b2 G w' g m2 ∧ KG G W w') : Tke G g m2 h vx vy w := by
  unfold Tke
  have hb0 := (Below.refl w.heap.size w).alloc (Nat.le_refl _) (.cells #[.int .i64 h.a, .int .i64 h.b, vx, vy, .int .i64 h.o] 39)
  have hX0 := Blk.new w w.heap.size rfl #[.int .i64 h.a, .int .i64 h.b, vx, vy, .int .i64 h.o] 39
  have hm0 := hm.below hb0
  obtain ⟨Ax, cx, rfl, -⟩ := hh.x.at_
  obtain ⟨Ay, cy, rfl, -⟩ := hh.y.at_
  have c6 := hm0.c6
  rw [hst] at c6
  have hc0 := hX0.cell 0 (x := .int .i64 h.a) rfl
  have hc1 := hX0.cell 1 (x := .int .i64 h.b) rfl
  have hc2 := hX0.cell 2 (x := .slice Ax h.x.length cx) rfl
  have hc3 := hX0.cell 3 (x := .slice Ay h.y.length cy) rfl
  have hc4 := hX0.cell 4 (x := .int .i64 h.o) rfl
  have H := Lib.hid (HL _ hb0)
  clear hm hm0 hh hX0 hst HL
  unfold hdV at H ⊢
  go_enter Tryz.func37, Tryz.ntmps37
  go_wp2_with fail
  refine H.out.mono ?_
  rintro _ w2 ⟨rfl, h2, k2⟩
  have hf := Lib.hid h2
  have kf := Lib.hid ((kg_below (G := G) hb0).trans k2)
  clear hc0 hc1 hc2 hc3 hc4 H h2 k2
  go_wp2
  exact bodyPost_ret (v := .tuple #[]) (results_none (by rfl) _ _ _) rfl ⟨rfl, ⟨b2, hf.out⟩, kf.out⟩
theorem keep4_ne (l : List Int) (n : Int) : keep4 l n ≠ [] := by
  unfold keep4
  split <;> simp
theorem keep4_len (l : List Int) (n : Int) (h : l.length ≤ 4) : (keep4 l n).length ≤ 4 := by
  unfold keep4
  split
  · simp; omega
  · simp; omega
set_option maxRecDepth 100000 in
set_option maxHeartbeats 4000000 in
theorem tke_own1 (G : Nat → Prop) (g : Nat) (m : NM) (x : RX) (h : Hn) (vx vy : Value) (w : World) (hm : RA true G w g m x) (hG : GN G w) (hh : HOk w h vx vy) (hst : m.st = 2 ∨ m.st = 3 ∨ m.st = 4) (hs : m.sl = m.i) (hi : m.i < m.t.ns.length) (hsy : m.me.sy = true) (hN : NG ({ m with ck := keep4 m.ck 0 } : NM)) : Tke G g ({ m with ck := keep4 m.ck 0 } : NM).goOn h vx vy w := by
  unfold Tke
  have hb0 := (Below.refl w.heap.size w).alloc (Nat.le_refl _) (.cells #[.int .i64 h.a, .int .i64 h.b, vx, vy, .int .i64 h.o] 39)
  have hX0 := Blk.new w w.heap.size rfl #[.int .i64 h.a, .int .i64 h.b, vx, vy, .int .i64 h.o] 39
  have hm0 := hm.below hb0
  obtain ⟨Ax, cx, rfl, -⟩ := hh.x.at_
  obtain ⟨Ay, cy, rfl, -⟩ := hh.y.at_
  have c6 := hm0.c6
  have c8 := hm0.c8
  have c4 := hm0.c4
  have c17 := hm0.c17
  rw [hs] at c8
  obtain ⟨bl, off, cn, c0, hbl, ⟨d0, -, -, -⟩, hcn⟩ := hm0.defAt hi
  have d0 : (w.alloc (.cells #[.int .i64 h.a, .int .i64 h.b, .slice Ax h.x.length cx, .slice Ay h.y.length cy, .int .i64 h.o] 39)).cell? ⟨bl, off + m.i * 4, none⟩ = some (.bool m.me.sy) := d0
  rw [hsy] at d0
  have hG0 := hG.up hb0.size
  have hg := hm0.G_
  have hm0 := Lib.hid hm0
  have hN := Lib.hid hN
  clear hm hh hX0 hs
  unfold hdV
  obtain ⟨i, hie⟩ : ∃ i, m.i = i := ⟨_, rfl⟩
  obtain ⟨N, hNe⟩ : ∃ N, m.t.ns.length = N := ⟨_, rfl⟩
  rw [hie] at c8 c4 d0
  rw [hNe] at c0 hcn
  have hiN : i < N := by rw [← hie, ← hNe]; exact hi
  clear hie hNe hi
  rcases hst with e | e | e
  all_goals
    rw [e] at c6
    clear e
    go_enter Tryz.func37, Tryz.ntmps37
    go_wp2_with fail
    clear c6 c8 c4 c17 c0 d0
    generalize w.alloc (.cells #[.int .i64 h.a, .int .i64 h.b, .slice Ax h.x.length cx, .slice Ay h.y.length cy, .int .i64 h.o] 39) = w0 at *
    obtain ⟨cc, L, hcc, hup⟩ := hm0.out.clock
    have hM := Lib.hid (rmeasure_kt cc g _ L _ 0 w0 hcc hm0.out.cko)
    refine hM.out.mono ?_
    rintro _ w2 ⟨rfl, ⟨v', hc2, hf2⟩, o2⟩
    have h2 := hup _ _ _ hc2 o2 (fun k e => ⟨hf2 k e, keep4_ne _ _⟩) (keep4_len _ _ hm0.out.cko) (fun k hk => hG0 k hk)
    have k2 := Lib.hid ((kg_below (G := G) hb0).trans (o2.kg hg))
    have hO := Lib.hid (on_c true G g _ x w2 h2 (hG0.up o2.size) hN.out)
    unfold OnC at hO
    clear hM hcc hup hc2 hf2 o2 h2
    go_wp2_with fail
    refine hO.out.mono ?_
    rintro _ w3 ⟨rfl, h3, k3⟩
    have hf := Lib.hid h3
    have kf := Lib.hid (k2.out.trans k3)
    clear hO k2 h3 k3 hm0
    go_wp2
    exact bodyPost_ret (v := .tuple #[]) (results_none (by rfl) _ _ _) rfl ⟨rfl, ⟨_, hf.out⟩, kf.out⟩
set_option maxRecDepth 100000 in
set_option maxHeartbeats 4000000 in
theorem tke_own0 (G : Nat → Prop) (g : Nat) (m : NM) (x : RX) (h : Hn) (vx vy : Value) (w : World) (hm : RA true G w g m x) (hG : GN G w) (hh : HOk w h vx vy) (hst : m.st = 2 ∨ m.st = 3 ∨ m.st = 4) (hs : m.sl = m.i) (hi : m.i < m.t.ns.length) (hsy : m.me.sy = false) (hN : NG m) : Tke G g (m : NM).goOn h vx vy w := by
  unfold Tke
  have hb0 := (Below.refl w.heap.size w).alloc (Nat.le_refl _) (.cells #[.int .i64 h.a, .int .i64 h.b, vx, vy, .int .i64 h.o] 39)
  have hX0 := Blk.new w w.heap.size rfl #[.int .i64 h.a, .int .i64 h.b, vx, vy, .int .i64 h.o] 39
  have hm0 := hm.below hb0
  obtain ⟨Ax, cx, rfl, -⟩ := hh.x.at_
  obtain ⟨Ay, cy, rfl, -⟩ := hh.y.at_
  have c6 := hm0.c6
  have c8 := hm0.c8
  have c4 := hm0.c4
  have c17 := hm0.c17
  rw [hs] at c8
  obtain ⟨bl, off, cn, c0, hbl, ⟨d0, -, -, -⟩, hcn⟩ := hm0.defAt hi
  have d0 : (w.alloc (.cells #[.int .i64 h.a, .int .i64 h.b, .slice Ax h.x.length cx, .slice Ay h.y.length cy, .int .i64 h.o] 39)).cell? ⟨bl, off + m.i * 4, none⟩ = some (.bool m.me.sy) := d0
  rw [hsy] at d0
  have hG0 := hG.up hb0.size
  have hg := hm0.G_
  have hm0 := Lib.hid hm0
  have hN := Lib.hid hN
  clear hm hh hX0 hs
  unfold hdV
  obtain ⟨i, hie⟩ : ∃ i, m.i = i := ⟨_, rfl⟩
  obtain ⟨N, hNe⟩ : ∃ N, m.t.ns.length = N := ⟨_, rfl⟩
  rw [hie] at c8 c4 d0
  rw [hNe] at c0 hcn
  have hiN : i < N := by rw [← hie, ← hNe]; exact hi
  clear hie hNe hi
  rcases hst with e | e | e
  all_goals
    rw [e] at c6
    clear e
    go_enter Tryz.func37, Tryz.ntmps37
    go_wp2_with fail
    clear c6 c8 c4 c17 c0 d0
    generalize w.alloc (.cells #[.int .i64 h.a, .int .i64 h.b, .slice Ax h.x.length cx, .slice Ay h.y.length cy, .int .i64 h.o] 39) = w0 at *
    have k2 := Lib.hid (kg_below (G := G) hb0)
    have hO := Lib.hid (on_c _ G g _ x w0 hm0.out hG0 hN.out)
    unfold OnC at hO
    refine hO.out.mono ?_
    rintro _ w3 ⟨rfl, h3, k3⟩
    have hf := Lib.hid h3
    have kf := Lib.hid (k2.out.trans k3)
    clear hO k2 h3 k3 hm0
    go_wp2
    exact bodyPost_ret (v := .tuple #[]) (results_none (by rfl) _ _ _) rfl ⟨rfl, ⟨_, hf.out⟩, kf.out⟩
set_option maxRecDepth 100000 in
set_option maxHeartbeats 4000000 in
theorem tke_ownn (G : Nat → Prop) (g : Nat) (m : NM) (x : RX) (h : Hn) (vx vy : Value) (w : World) (hm : RA false G w g m x) (hG : GN G w) (hh : HOk w h vx vy) (hst : m.st = 2 ∨ m.st = 3 ∨ m.st = 4) (hs : m.sl = m.i) (hi : m.i < m.t.ns.length)  (hN : NG m) : Tke G g (m : NM).goOn h vx vy w := by
  unfold Tke
  have hb0 := (Below.refl w.heap.size w).alloc (Nat.le_refl _) (.cells #[.int .i64 h.a, .int .i64 h.b, vx, vy, .int .i64 h.o] 39)
  have hX0 := Blk.new w w.heap.size rfl #[.int .i64 h.a, .int .i64 h.b, vx, vy, .int .i64 h.o] 39
  have hm0 := hm.below hb0
  obtain ⟨Ax, cx, rfl, -⟩ := hh.x.at_
  obtain ⟨Ay, cy, rfl, -⟩ := hh.y.at_
  have c6 := hm0.c6
  have c8 := hm0.c8
  have c4 := hm0.c4
  have c17 := hm0.c17
  rw [hs] at c8
  obtain ⟨bl, off, cn, c0, hbl, ⟨d0, -, -, -⟩, hcn⟩ := hm0.defAt hi
  have d0 : (w.alloc (.cells #[.int .i64 h.a, .int .i64 h.b, .slice Ax h.x.length cx, .slice Ay h.y.length cy, .int .i64 h.o] 39)).cell? ⟨bl, off + m.i * 4, none⟩ = some (.bool m.me.sy) := d0
  have hG0 := hG.up hb0.size
  have hg := hm0.G_
  have hm0 := Lib.hid hm0
  have hN := Lib.hid hN
  clear hm hh hX0 hs
  unfold hdV
  obtain ⟨i, hie⟩ : ∃ i, m.i = i := ⟨_, rfl⟩
  obtain ⟨N, hNe⟩ : ∃ N, m.t.ns.length = N := ⟨_, rfl⟩
  rw [hie] at c8 c4 d0
  rw [hNe] at c0 hcn
  have hiN : i < N := by rw [← hie, ← hNe]; exact hi
  clear hie hNe hi
  rcases hst with e | e | e
  all_goals
    rw [e] at c6
    clear e
    go_enter Tryz.func37, Tryz.ntmps37
    go_wp2_with fail
    clear c6 c8 c4 c17 c0 d0
    generalize w.alloc (.cells #[.int .i64 h.a, .int .i64 h.b, .slice Ax h.x.length cx, .slice Ay h.y.length cy, .int .i64 h.o] 39) = w0 at *
    have k2 := Lib.hid (kg_below (G := G) hb0)
    have hO := Lib.hid (on_c _ G g _ x w0 hm0.out hG0 hN.out)
    unfold OnC at hO
    refine hO.out.mono ?_
    rintro _ w3 ⟨rfl, h3, k3⟩
    have hf := Lib.hid h3
    have kf := Lib.hid (k2.out.trans k3)
    clear hO k2 h3 k3 hm0
    go_wp2
    exact bodyPost_ret (v := .tuple #[]) (results_none (by rfl) _ _ _) rfl ⟨rfl, ⟨_, hf.out⟩, kf.out⟩
end Go.Proofs.YtpdenmcacaajkaaGreat
