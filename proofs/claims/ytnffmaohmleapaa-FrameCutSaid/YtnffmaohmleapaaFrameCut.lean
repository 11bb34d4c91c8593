/- FrameCut holds: a frame cut short, or with more behind, is none. For all frames, numbers and bytes. -/
import Derived.Test.YtnffmaohmleapaaFrP
import Derived.Test.YtnffmaohmleapaaExt
import Derived.Deep.CutBlock
import Derived.Deep.AppendLies
namespace Go.Proofs.Ytnffmaohmleapaa
open Go.ChangeShapes Go.WideShapes Go.ChangeAt Go.RowKit
open Go.ChangeMaps (open_string shut_string)
open Fr (St F)

/-- What is there behind an append, other blocks than the list's own. -/
theorem grown_cell {W W' : World} {v : Value} (h : W.grownBy W' v.ownBlock) : ∀ b o, b < W.heap.size → v.ownBlock ≠ some b → W'.cell? ⟨b, o, none⟩ = W.cell? ⟨b, o, none⟩ ∧ W'.frozen? ⟨b, o, none⟩ = W.frozen? ⟨b, o, none⟩ := fun b o hb hv => by
  obtain ⟨-, -, -, -, hk⟩ := h
  have e := hk b hb (fun q => hv q.symm)
  refine ⟨?_, ?_⟩
  · unfold World.cell?
    simp only [e]
  · unfold World.frozen?
    simp only [e]
/-- An empty frame in memory, at block g. -/
structure ZB (W : World) (g : Nat) : Prop where
  lt : g < W.heap.size
  c0 : W.cell? ⟨g, 0, none⟩ = some (.int .i64 0)
  c1 : W.cell? ⟨g, 1, none⟩ = some (.int .i64 0)
  c2 : W.cell? ⟨g, 2, none⟩ = some (.int .i64 0)
  c3 : W.cell? ⟨g, 3, none⟩ = some (.int .i64 0)
  c4 : W.cell? ⟨g, 4, none⟩ = some (.slice none 0 0)
  fz : ∀ i, W.frozen? ⟨g, i, none⟩ = false
theorem ZB.by {W W' : World} {g : Nat} (h : ZB W g) (hs : W.heap.size ≤ W'.heap.size) (hc : ∀ o, W'.cell? ⟨g, o, none⟩ = W.cell? ⟨g, o, none⟩ ∧ W'.frozen? ⟨g, o, none⟩ = W.frozen? ⟨g, o, none⟩) : ZB W' g :=
  ⟨by have := h.lt; omega, (hc 0).1.trans h.c0, (hc 1).1.trans h.c1, (hc 2).1.trans h.c2, (hc 3).1.trans h.c3, (hc 4).1.trans h.c4, fun i => (hc i).2.trans (h.fz i)⟩
theorem ZB.below {W W' : World} {g : Nat} (h : ZB W g) (hb : Below W.heap.size W W') : ZB W' g := h.by hb.size fun o => ⟨bcell hb _ _ h.lt, hb.frozen (p := ⟨g, o, none⟩) h.lt⟩
theorem ZB.alloc {W : World} {g : Nat} (h : ZB W g) (o : Obj) : ZB (W.alloc o) g := h.below ((Below.refl _ _).alloc (Nat.le_refl _) o)
theorem ZB.drew {W : World} {g : Nat} (h : ZB W g) : ZB W.drew g := h.below (Below.refl _ _).drew
theorem ZB.new (W : World) (g : Nat) (hg : g = W.heap.size) : ZB (W.alloc (.cells #[.int .i64 0, .int .i64 0, .int .i64 0, .int .i64 0, .slice none 0 0] 26)) g := by
  subst hg
  refine ⟨by simp, ?_, ?_, ?_, ?_, ?_, fun i => World.frozen?_alloc_new _ _ _ _⟩ <;> (rw [World.cell?_alloc_at _ _ _ _ rfl]; rfl)
theorem ZB.grown {W W' : World} {g gE : Nat} (h : ZB W g) (hs : W.heap.size ≤ W'.heap.size) (hg : W.grownBy W' (Value.slice (some ⟨gE, 0, none⟩) 0 0).ownBlock) (hne : gE ≠ g) : ZB W' g := h.by hs fun o => grown_cell hg g o h.lt (by simp [Value.ownBlock]; exact hne)
/-- A list of bytes in a new block. -/
structure LitB (W : World) (g : Nat) (l : List Int) : Prop where
  lt : g < W.heap.size
  cells : ∀ k, k < l.length → W.cell? ⟨g, k, none⟩ = some (bv l k)
theorem LitB.alloc {W : World} {g : Nat} {l : List Int} (h : LitB W g l) (o : Obj) : LitB (W.alloc o) g l := ⟨by have := h.lt; simp; omega, fun k hk => Lib.cell?_alloc_some o (h.cells k hk)⟩
theorem LitB.drew {W : World} {g : Nat} {l : List Int} (h : LitB W g l) : LitB W.drew g l := ⟨h.lt, h.cells⟩
theorem LitB.ext {W W' : World} {g : Nat} {l : List Int} {v v' : Value} (h : LitB W g l) (hx : Ext W W' v v') (hne : v.ownBlock ≠ some g) : LitB W' g l := ⟨Nat.lt_of_lt_of_le h.lt hx.size, fun k hk => hx.cell (h.cells k hk) hne⟩
theorem LitB.new (W : World) (g : Nat) (cs : Array Value) (t : TypeId) (l : List Int) (hg : g = W.heap.size) (hl : cs = (l.map (Value.int .u8)).toArray) : LitB (W.alloc (.cells cs t)) g l := ⟨by simp [hg], fun k hk => by
  rw [World.cell?_alloc_at _ _ _ _ hg, hl]
  unfold bv
  simp [List.getD_eq_getElem?_getD, hk]⟩
theorem LitB.sees {W : World} {g : Nat} {l : List Int} (h : LitB W g l) (n : Nat) (hn : n = l.length) (hm : n ≤ maxLen) : SeesL W W.heap.size (.slice (some ⟨g, 0, none⟩) n n) l :=
  ⟨some ⟨g, 0, none⟩, n, by rw [hn], by omega, hm, fun _ => ⟨g, 0, rfl, h.lt, fun k hk => by rw [Nat.zero_add]; exact h.cells k hk⟩, fun h => by cases h⟩

theorem step_pushX {P : Program} (w : World) {ops : Array Oper} {o : Oper} {a : Act} {K : Act → World → Prop} {Q : Exit → Act → World → Prop} {E : Prop} (hgd : o.guard = none) (s x : Operand) (t : TypeId) (ho : o.op = .call { callee := .builtin .append, args := #[s, x], argTypes := #[t, t] })
    (B : Nat) (hinf : (P.info? 5).map (fun i => (i.zero, i.size, i.bytes)) = some (some (.int .u8 0), 1, 1)) (ht : P.underlying t = some (.slice 5))
    (v : Value) (l m : List Int) (hs : a.eval s = v) (hown : OwnsL w B v l) (hsee : ∃ Bs, SeesL w Bs (a.eval x) m)
    (hB : B ≤ w.heap.size) (hroom : l.length + m.length ≤ 140737488355328)
    (h : ∀ v' w', OwnsL w' B v' (l ++ m) → Ext w w' v v' → K (a.put o.dst v') w') : if Region.wanted o (yielded ops a.tmps) = true then Oper.wp P o a w K Q else E := by
  obtain ⟨Bs, hsee⟩ := hsee
  exact step_pushL w hgd s x t ho B hinf ht v l hown hs Bs _ m rfl hsee hB hroom h
theorem LitB.below {W W' : World} {g : Nat} {l : List Int} (h : LitB W g l) (hb : Below W.heap.size W W') : LitB W' g l := ⟨Nat.lt_of_lt_of_le h.lt hb.size, fun k hk => (bcell hb _ _ h.lt).trans (h.cells k hk)⟩
theorem ZB.ext {W W' : World} {g : Nat} {v v' : Value} (h : ZB W g) (hx : Ext W W' v v') (hne : v.ownBlock ≠ some g) : ZB W' g := h.by hx.size fun o => grown_cell hx.grown g o h.lt hne
/-- All below a is as it was. -/
def Bw (a W : World) : Prop := Below a.heap.size a W
theorem Bw.refl (a : World) : Bw a a := Below.refl _ _
theorem Bw.alloc {a W : World} (h : Bw a W) (o : Obj) : Bw a (W.alloc o) := Below.alloc h h.size o
theorem Bw.drew {a W : World} (h : Bw a W) : Bw a W.drew := Below.drew h
theorem Bw.set {a W : World} (h : Bw a W) (g i : Nat) (x : Value) (hg : a.heap.size ≤ g) : Bw a (W.setCell ⟨g, i, none⟩ x) := Below.setCell h (p := ⟨g, i, none⟩) hg x
theorem Bw.trans {a W W' : World} (h : Bw a W) (k : Below W.heap.size W W') : Bw a W' := Below.trans h (k.mono h.size)
theorem Bw.ext {a W W' : World} {v v' : Value} (h : Bw a W) (hx : Ext W W' v v') (hv : ∀ j, v.ownBlock = some j → a.heap.size ≤ j) : Bw a W' := Below.trans h (hx.toBelow h.size hv)
/-- 'append' to an empty list, as one step of a region that draws its order: the list lies in a new block. -/
theorem step_grow0 {P : Program} (w : World) {ops : Array Oper} {o : Oper} {a : Act} {K : Act → World → Prop} {Q : Exit → Act → World → Prop} {E : Prop} (hgd : o.guard = none) (s x : Operand) (t : TypeId) (ho : o.op = .call { callee := .builtin .append, args := #[s, x], argTypes := #[t, t] })
    (hinf : (P.info? 5).map (fun i => (i.zero, i.size, i.bytes)) = some (some (.int .u8 0), 1, 1)) (ht : P.underlying t = some (.slice 5))
    (b : Nat) (hs : a.eval s = .slice (some ⟨b, 0, none⟩) 0 0) (Bs : Nat) (u : Value) (m : List Int) (hx : a.eval x = u) (hsee : SeesL w Bs u m) (hm : 0 < m.length) (hroom : m.length ≤ 140737488355328)
    (h : ∀ v' w', OwnsL w' w.heap.size v' m → Below w.heap.size w w' → K (a.put o.dst v') w') : if Region.wanted o (yielded ops a.tmps) = true then Oper.wp P o a w K Q else E := by
  have hw : Region.wanted o (yielded ops a.tmps) = true := by simp [Region.wanted, hgd]
  rw [if_pos hw]
  exact wp_growL w s x t ho w.heap.size hinf ht b 0 0 [] 0 rfl ⟨some ⟨b, 0, none⟩, 0, rfl, Nat.le_refl _, Nat.zero_le _, Sees.none_, fun h => by cases h⟩ hs Bs u m hx hsee hm (by omega) (Nat.le_refl _) (by simpa using hroom) fun v' w' h1 h2 => h v' w' (by simpa using h1) h2

set_option maxRecDepth 100000 in
set_option maxHeartbeats 40000000 in
theorem walk_frameCut (f : F) (v : Value) (t y : Int) (w : World) (h : InFrame w f v) (_ht : -9223372036854775808 ≤ t ∧ t ≤ 9223372036854775807) (hy : 0 ≤ y ∧ y ≤ 255) :
    Calls Try.prog 6 #[frV f v, .int .i64 t, .int .u8 y] w fun e w' => e = .returned (.bool true) ∧ Below w.heap.size w w' := by
  obtain ⟨hv, hd, -, -, hreach⟩ := h
  obtain ⟨A, c, rfl, c1, c2, -, -⟩ := hv.at_
  have R4 := fun W (hb : Below w.heap.size w W) => Lib.hid (is_ref f _ W w.heap.size (hv.below hb))
  cases hi : f.is
  · rw [hi] at R4
    unfold frV at R4 ⊢
    clear hi
    go_enter Try.func6, Try.ntmps6
    go_wp2_with fail
    refine (R4 _ ((Below.refl _ _).alloc (Nat.le_refl _) _)).out.mono ?_
    rintro e w1 ⟨rfl, hb⟩
    have hb := ((Below.refl w.heap.size w).alloc (Nat.le_refl _) _).trans (hb.mono (by simp))
    go_wp2
    go_ret
    exact ⟨rfl, hb⟩
  rw [hi] at R4
  have R1 := fun W (hb : Below w.heap.size w W) => encode_dev f _ W ((hv.below hb).more hb.size) hd
  obtain ⟨⟨k1, k3⟩, hmay, hlen⟩ := f.is_iff.1 hi
  have hLl := f.bytes_length
  have hLb : bytesL f.bytes := F.bytes_ok hi hd
  have hhl : 2 ≤ f.hl ∧ f.hl ≤ 6 := by unfold F.hl; split <;> omega
  unfold Enc at R1
  rw [(encR_is hi).1, (encR_is hi).2] at R1
  obtain ⟨hform, -, -⟩ := Fr.back hi f.st hmay
  obtain ⟨N, hN⟩ : ∃ N, N = f.bytes.length := ⟨_, rfl⟩
  have hN1 : 4 ≤ N ∧ N ≤ 16 := by omega
  have hmask := mask16 t
  obtain ⟨T, hT⟩ : ∃ T, T = (t % 65536).toNat := ⟨_, rfl⟩
  rw [← hT] at hmask
  obtain ⟨i0, hi0⟩ : ∃ i0, i0 = T % N := ⟨_, rfl⟩
  have hi1 : i0 < N := by rw [hi0]; exact Nat.mod_lt _ (by omega)
  have hrem : ((T : Nat) : Int) % ((N : Nat) : Int) = (i0 : Int) := by rw [hi0, Int.natCast_emod]
  have f1 : Fr.formB (f.bytes.take i0) f.st = false := Fr.cut_none hform (by omega)
  have f2 : Fr.formB (f.bytes ++ [y]) f.st = false := Fr.more_none hform y
  have b1 : bytesL (f.bytes.take i0) := fun x hx => hLb x (List.mem_of_mem_take hx)
  have b2 : bytesL (f.bytes ++ [y]) := fun x hx => by
    rcases List.mem_append.1 hx with hx | hx
    · exact hLb x hx
    · have : x = y := by simpa using hx
      omega
  have R2 := fun V W (hs : SeesL W W.heap.size V (f.bytes.take i0)) => decode_dev V _ f.st W hs b1
  have R3 := fun V W (hs : SeesL W W.heap.size V (f.bytes ++ [y])) => decode_dev V _ f.st W hs b2
  have e1 : ∀ l, Fr.formB l f.st = false → Fr.err l f.st = 2 ∧ Fr.res l f.st = Fr.zero := fun l h => ⟨by rw [Fr.err, h]; rfl, by rw [Fr.res, h]; rfl⟩
  unfold Dec at R2 R3
  rw [(e1 _ f1).1, (e1 _ f1).2] at R2
  rw [(e1 _ f2).1, (e1 _ f2).2] at R3
  clear f1 f2 b1 b2 e1 hform hLb hmay hT hi0 hi hhl hLl
  generalize f.bytes = L at *
  have Q1 := fun W hb => Lib.hid (R1 W hb)
  have Q2 := fun V W hs => Lib.hid (R2 V W hs)
  have Q3 := fun V W hs => Lib.hid (R3 V W hs)
  clear R1 R2 R3
  unfold frV at Q1 Q2 Q3 R4 ⊢
  unfold Fr.zero at Q2 Q3
  unfold stV at Q2 Q3
  go_enter Try.func6, Try.ntmps6
  go_wp2_with fail
  have hbox := Lib.hid (box5 w (.int .i64 f.k) (.int .i64 f.st.r) (.int .i64 f.st.s) (.int .i64 f.st.m) (.slice A f.d.length c) 26)
  generalize w.alloc (.cells #[.int .i64 f.k, .int .i64 f.st.r, .int .i64 f.st.s, .int .i64 f.st.m, .slice A f.d.length c] 26) = w0 at *
  have hz0 : w0.heap.size ≤ w.heap.size + 1 ∧ w.heap.size + 1 ≤ w0.heap.size := by have := hbox.out.size; omega
  refine (R4 _ hbox.out.below).out.mono ?_
  rintro e wa ⟨rfl, hb0⟩
  obtain ⟨z0, c00, c01, c02, c03, c04⟩ := hbox.out.cell wa hb0
  go_wp2_with fail
  refine (Q1 _ (hbox.out.below.trans (hb0.mono (by omega)))).out.mono ?_
  rintro e w1 ⟨v1, rfl, ho1, hb⟩
  have hb1 := hb0.trans (hb.mono hb0.size)
  obtain ⟨A1, d1, h1, g1, g2, -, -⟩ := ho1.sees.at_
  rw [← hN] at h1 g1
  subst h1
  have hs1 := ho1.sees
  obtain ⟨z1, c10, c11, c12, c13, c14⟩ := hbox.out.cell w1 hb1
  clear Q1 R4 hb hb0 c00 c01 c02 c03 c04 z0
  have g3 : i0 ≤ N := by omega
  have hsT : SeesL w1 w1.heap.size (.slice A1 i0 d1) (L.take i0) := by
    obtain ⟨A', c', hv1, q1, q2, hs, hn⟩ := hs1.at_
    have e : (Value.slice A1 N d1) = .slice A' L.length c' := hv1
    injection e with e1 e2 e3
    subst e1; subst e3
    have hlT : (L.take i0).length = i0 := by rw [List.length_take]; omega
    refine ⟨A1, d1, by rw [hlT], by omega, q2, ?_, fun h => by have := hn h; omega⟩
    rw [hlT]
    exact (hs.less (by omega)).alike fun k hk => by simp [bv, List.getD_eq_getElem?_getD, hk]
  have CS := fun (W : World) (hb : Below w1.heap.size w1 W) => (⟨(hbox.out.cell W (hb1.trans (hb.mono hb1.size))).2.2.1, (hbox.out.cell W (hb1.trans (hb.mono hb1.size))).2.2.2.1, (hbox.out.cell W (hb1.trans (hb.mono hb1.size))).2.2.2.2.1⟩ : _ ∧ _ ∧ _)
  have p2 : (i0 : Int) ≤ (N : Int) := by omega
  have p3 : (i0 : Nat) ≤ d1 := by omega
  have p0 : ((N : Nat) : Int) ≠ 0 := by omega
  have p4 : (((N : Nat) : Int) == 0) = false := by simpa using p0
  have htm : Int.tmod ((T : Nat) : Int) ((N : Nat) : Int) = (i0 : Int) := by rw [Int.tmod_eq_emod_of_nonneg (by omega)]; exact hrem
  have hwi : IntKind.i64.wrap (i0 : Int) = (i0 : Int) := IntWalk.i64_in _ (by omega)
  have HL := Lib.hid hN
  have HT := Lib.hid hsT
  clear hsT hN
  go_wp2_with fail
  go_cut [10] from 13 (fun s10 W => s10 = .int .i64 2 ∧ Below w1.heap.size w1 W)
  case first =>
    go_region_with (first
        | ((go_at_call 15; refine (Q2 (.slice A1 i0 d1) _ ?_).out.mono ?_); (focus (refine SeesL.more (B := w1.heap.size) ?_ ?_; (repeat' (first | exact HT.out | (with_reducible refine SeesL.drew ?_) | (with_reducible refine SeesL.alloc ?_ _) | exact Nat.le_refl _ | (simp; done) | fail)))); rintro e w3 ⟨v3, rfl, ho3, hb3'⟩; have hbw7 : Below w1.heap.size w1 w3 := (by refine Below.trans ?_ (hb3'.mono ?_) <;> (repeat' (first | exact hbw7 | exact hb5 | exact hb3 | exact Below.refl _ _ | (with_reducible refine Below.setCell ?_ ?_ _) | (with_reducible refine Below.alloc ?_ ?_ _) | (with_reducible refine below_drewN ?_ _) | (with_reducible refine Below.drew ?_) | exact Nat.le_refl _ | exact hb3.size | exact hb5.size | exact hbw7.size | (simp; done) | (simp; omega) | (have hq := hb3.size; simp; omega) | (have hq := hb5.size; simp; omega) | (have hq := hbw7.size; simp; omega) | fail))); obtain ⟨A2, d2, rfl⟩ : ∃ A d, v3 = .slice A 0 d := (by obtain ⟨A, d, h, -⟩ := ho3.sees.at_; exact ⟨A, d, h⟩); try (first | (refine (?_ : ZB w3 (w1.heap.size) → _) ?_; rotate_left 1; (focus (refine ZB.below ?_ hb3'; ((focus (repeat' (first | (with_reducible refine ZB.new _ _ ?_) | (with_reducible refine ZB.drew ?_) | (with_reducible refine ZB.alloc ?_ _) | rfl | (simp; done) | fail))); done))); intro zb3; skip) | fail); try (obtain ⟨zl, y0, y1, y2, y3, y4, yf⟩ := zb3; have yf0 := yf 0; have yf1 := yf 1; have yf2 := yf 2; have yf3 := yf 3; have yf4 := yf 4))
        | fail)
    all_goals
      go_wp2_with fail
      go_meet
      refine ⟨rfl, ?_⟩
      (repeat' (first | exact hbw7 | exact hb5 | exact hb3 | exact Below.refl _ _ | (with_reducible refine Below.setCell ?_ ?_ _) | (with_reducible refine Below.alloc ?_ ?_ _) | (with_reducible refine below_drewN ?_ _) | (with_reducible refine Below.drew ?_) | exact Nat.le_refl _ | exact hb3.size | exact hb5.size | exact hbw7.size | (simp; done) | (simp; omega) | (have hq := hb3.size; simp; omega) | (have hq := hb5.size; simp; omega) | (have hq := hbw7.size; simp; omega) | fail))
  case rest =>
    obtain ⟨rfl, hbc⟩ := hcut
    have hb2 := hb1.trans (hbc.mono hb1.size)
    clear Q2 HT CS p0 p2 p3 p4
    have CS := fun (W : World) (hb : Below wc.heap.size wc W) => (⟨(hbox.out.cell W (hb2.trans (hb.mono hb2.size))).2.2.1, (hbox.out.cell W (hb2.trans (hb.mono hb2.size))).2.2.2.1, (hbox.out.cell W (hb2.trans (hb.mono hb2.size))).2.2.2.2.1⟩ : _ ∧ _ ∧ _)
    have SB := fun (W : World) (hb : Below wc.heap.size wc W) => hs1.below (hbc.trans (hb.mono hbc.size))
    have hLn : 0 < L.length := by have := HL.out; omega
    obtain ⟨m0, m1, m2⟩ := CS wc (Below.refl _ _)
    go_wp2_with fail
    go_cut [12] from 41 (fun s12 W => s12 = .int .i64 2 ∧ Below wc.heap.size wc W)
    case first =>
      have hbw0 := Bw.refl wc
      go_region_held3 (fun w' => (w'.cell? ⟨w.heap.size, 1, none⟩ = some (.int .i64 f.st.r) ∧ w'.cell? ⟨w.heap.size, 2, none⟩ = some (.int .i64 f.st.s) ∧ w'.cell? ⟨w.heap.size, 3, none⟩ = some (.int .i64 f.st.m)))
        ((refine CS _ ?_; show Bw wc _; (repeat' (first | (with_reducible exact hbw7) | (with_reducible exact hbw5) | (with_reducible exact hbw3) | (with_reducible exact Bw.refl _) | (with_reducible refine Bw.alloc ?_ _) | (with_reducible refine Bw.drew ?_) | (with_reducible refine Bw.set ?_ _ _ _ ?_) | exact hbw5.size | exact hbw3.size | exact hbw7.size | exact Nat.le_refl _ | (have hq := hbw3.size; omega) | omega))))
        (first
        | ((refine step_grow0 _ rfl (.tmp 42) (.tmp 43) 24 rfl infoU8 Try.underlying24 _ rfl w1.heap.size (.slice A1 N d1) L rfl (SB _ ?_) hLn ?_ ?_); (focus (show Bw wc _; (repeat' (first | (with_reducible exact hbw7) | (with_reducible exact hbw5) | (with_reducible exact hbw3) | (with_reducible exact Bw.refl _) | (with_reducible refine Bw.alloc ?_ _) | (with_reducible refine Bw.drew ?_))); done)); (focus (have hq := HL.out; omega)); intro v3 w3 ho3 hb3; have hlo3 := ho3.lt; have hbw3 : Bw wc w3 := Bw.trans (by (repeat' (first | (with_reducible exact hbw7) | (with_reducible exact hbw5) | (with_reducible exact hbw3) | (with_reducible exact Bw.refl _) | (with_reducible refine Bw.alloc ?_ _) | (with_reducible refine Bw.drew ?_)))) hb3; have ho3 := ho3.base (B := wc.heap.size) (by simp; try omega))
        | ((refine step_pushX _ rfl (.tmp 44) (.tmp 46) 24 rfl wc.heap.size infoU8 Try.underlying24 v3 L [y] rfl ?_ ?_ ?_ ?_ ?_); (focus ((repeat' (first | exact ho3 | (with_reducible refine OwnsL.alloc ?_ _) | (with_reducible refine OwnsL.drew ?_))); done)); (focus (go_simp; refine ⟨_, LitB.sees ?_ 1 rfl (by simp [maxLen])⟩; (repeat' (first | ((with_reducible refine LitB.new _ _ _ _ _ ?_ ?_); (focus (first | (rfl; done) | (simp; done))); (focus (rfl; done))) | (with_reducible refine LitB.alloc ?_ _) | (with_reducible refine LitB.drew ?_) | (with_reducible refine LitB.below ?_ hb3))); done)); (focus (have hq := hbw3.size; simp; omega)); (focus (have hq := HL.out; simp; omega)); intro v5 w5 ho5 hx5; have hbw5 : Bw wc w5 := Bw.ext (by (repeat' (first | (with_reducible exact hbw7) | (with_reducible exact hbw5) | (with_reducible exact hbw3) | (with_reducible exact Bw.refl _) | (with_reducible refine Bw.alloc ?_ _) | (with_reducible refine Bw.drew ?_)))) hx5 (fun j hj => (ho3.lt j hj).1))
        | ((go_at_call 15; refine (Q3 v5 _ ?_).out.mono ?_); (focus (refine SeesL.more (B := w5.heap.size) ?_ ?_; (repeat' (first | exact ho5.sees | (with_reducible refine SeesL.drew ?_) | (with_reducible refine SeesL.alloc ?_ _) | exact Nat.le_refl _ | (simp; done))); done)); rintro e w7 ⟨v7, rfl, ho7, hb7⟩; have hbw7 : Bw wc w7 := Bw.trans (by (repeat' (first | (with_reducible exact hbw7) | (with_reducible exact hbw5) | (with_reducible exact hbw3) | (with_reducible exact Bw.refl _) | (with_reducible refine Bw.alloc ?_ _) | (with_reducible refine Bw.drew ?_)))) hb7; obtain ⟨A7, d7, rfl⟩ : ∃ A d, v7 = .slice A 0 d := (by obtain ⟨A, d, h, -⟩ := ho7.sees.at_; exact ⟨A, d, h⟩); (first | ((refine (?_ : ZB w7 (wc.heap.size) → _) ?_; rotate_left 1); (focus ((with_reducible refine ZB.below ?_ hb7); (repeat' (first | ((with_reducible refine ZB.new _ _ ?_); (focus (first | (rfl; done) | (simp; done)))) | (with_reducible refine ZB.alloc ?_ _) | (with_reducible refine ZB.drew ?_) | ((with_reducible refine ZB.ext ?_ hx5 ?_)) | (with_reducible refine ZB.below ?_ hb3) | (intro e4; have e5 := hlo3 _ e4; simp at e5 <;> omega))); done)); intro zb7; (obtain ⟨zl, y0, y1, y2, y3, y4, yf⟩ := zb7; have yf0 := yf 0; have yf1 := yf 1; have yf2 := yf 2; have yf3 := yf 3; have yf4 := yf 4)) | ((refine (?_ : ZB w7 (wc.heap.size + 1) → _) ?_; rotate_left 1); (focus ((with_reducible refine ZB.below ?_ hb7); (repeat' (first | ((with_reducible refine ZB.new _ _ ?_); (focus (first | (rfl; done) | (simp; done)))) | (with_reducible refine ZB.alloc ?_ _) | (with_reducible refine ZB.drew ?_) | ((with_reducible refine ZB.ext ?_ hx5 ?_)) | (with_reducible refine ZB.below ?_ hb3) | (intro e4; have e5 := hlo3 _ e4; simp at e5 <;> omega))); done)); intro zb7; (obtain ⟨zl, y0, y1, y2, y3, y4, yf⟩ := zb7; have yf0 := yf 0; have yf1 := yf 1; have yf2 := yf 2; have yf3 := yf 3; have yf4 := yf 4)) | ((refine (?_ : ZB w7 (wc.heap.size + 1 + 1) → _) ?_; rotate_left 1); (focus ((with_reducible refine ZB.below ?_ hb7); (repeat' (first | ((with_reducible refine ZB.new _ _ ?_); (focus (first | (rfl; done) | (simp; done)))) | (with_reducible refine ZB.alloc ?_ _) | (with_reducible refine ZB.drew ?_) | ((with_reducible refine ZB.ext ?_ hx5 ?_)) | (with_reducible refine ZB.below ?_ hb3) | (intro e4; have e5 := hlo3 _ e4; simp at e5 <;> omega))); done)); intro zb7; (obtain ⟨zl, y0, y1, y2, y3, y4, yf⟩ := zb7; have yf0 := yf 0; have yf1 := yf 1; have yf2 := yf 2; have yf3 := yf 3; have yf4 := yf 4)) | ((refine (?_ : ZB w7 (w3.heap.size) → _) ?_; rotate_left 1); (focus ((with_reducible refine ZB.below ?_ hb7); (repeat' (first | ((with_reducible refine ZB.new _ _ ?_); (focus (first | (rfl; done) | (simp; done)))) | (with_reducible refine ZB.alloc ?_ _) | (with_reducible refine ZB.drew ?_) | ((with_reducible refine ZB.ext ?_ hx5 ?_)) | (with_reducible refine ZB.below ?_ hb3) | (intro e4; have e5 := hlo3 _ e4; simp at e5 <;> omega))); done)); intro zb7; (obtain ⟨zl, y0, y1, y2, y3, y4, yf⟩ := zb7; have yf0 := yf 0; have yf1 := yf 1; have yf2 := yf 2; have yf3 := yf 3; have yf4 := yf 4)) | ((refine (?_ : ZB w7 (w3.heap.size + 1) → _) ?_; rotate_left 1); (focus ((with_reducible refine ZB.below ?_ hb7); (repeat' (first | ((with_reducible refine ZB.new _ _ ?_); (focus (first | (rfl; done) | (simp; done)))) | (with_reducible refine ZB.alloc ?_ _) | (with_reducible refine ZB.drew ?_) | ((with_reducible refine ZB.ext ?_ hx5 ?_)) | (with_reducible refine ZB.below ?_ hb3) | (intro e4; have e5 := hlo3 _ e4; simp at e5 <;> omega))); done)); intro zb7; (obtain ⟨zl, y0, y1, y2, y3, y4, yf⟩ := zb7; have yf0 := yf 0; have yf1 := yf 1; have yf2 := yf 2; have yf3 := yf 3; have yf4 := yf 4)) | ((refine (?_ : ZB w7 (w5.heap.size) → _) ?_; rotate_left 1); (focus ((with_reducible refine ZB.below ?_ hb7); (repeat' (first | ((with_reducible refine ZB.new _ _ ?_); (focus (first | (rfl; done) | (simp; done)))) | (with_reducible refine ZB.alloc ?_ _) | (with_reducible refine ZB.drew ?_) | ((with_reducible refine ZB.ext ?_ hx5 ?_)) | (with_reducible refine ZB.below ?_ hb3) | (intro e4; have e5 := hlo3 _ e4; simp at e5 <;> omega))); done)); intro zb7; (obtain ⟨zl, y0, y1, y2, y3, y4, yf⟩ := zb7; have yf0 := yf 0; have yf1 := yf 1; have yf2 := yf 2; have yf3 := yf 3; have yf4 := yf 4)) | skip))
        | fail)
      all_goals
        go_wp2_with fail
        go_meet
        refine ⟨rfl, ?_⟩
        show Bw wc _
        (repeat' (first | (with_reducible exact hbw7) | (with_reducible refine Bw.alloc ?_ _) | (with_reducible refine Bw.drew ?_) | (with_reducible refine Bw.set ?_ _ _ _ ?_) | exact hbw5.size | exact hbw3.size | exact hbw7.size | exact Nat.le_refl _ | (have hq := hbw3.size; omega) | omega))
    case rest =>
      obtain ⟨rfl, hbd⟩ := hcut
      have hb8 := hb2.trans (hbd.mono hb2.size)
      clear Q3 CS SB m0 m1 m2 hs1 HL hbd hbc
      go_wp2_with (go_at_call 14; refine (knownFr_any _).mono ?_; rintro e w9 ⟨rfl, hb9⟩)
      go_ret
      exact ⟨by simp, (hbox.out.below.trans (hb8.mono (by omega))).trans (hb9.mono (by have := hb8.size; omega))⟩

/-! ### THE ROW's STEP around the walk. -/
theorem own_frameCut : ownKnob Try.prog.godebug = none := by kernel_rfl
theorem laidOut_frameCut : laidOutB Try.prog = true := by kernel_rfl
set_option maxRecDepth 100000 in
theorem lifted_frameCut (os : Os) (started : os.Started) (H : Type) (enc : TypeId × Value → H) :
    ReturnsInHanded {} Try.checked os 6 .any (Rows.frameCutSpec.pre6 enc Try.prog Try.f6 Rows.frameCutRow.domain false) (Rows.frameCutSpec.post enc Try.prog Try.f6 false true false false) := by
  refine returnsInHanded_of_change_sized (C := Try.checked) own_frameCut started (by kernel_rfl) Try.func6
    (ChangeSpec.witness6 (enc := enc) (C := Try.checked) false ⟨#[], #[.agg #[.int .i64 0, .int .i64 0, .int .i64 0, .int .i64 0, .slice none 0 0], .int .i64 0, .int .u8 0], []⟩ 8 (by kernel_rfl) (by kernel_rfl) (by kernel_rfl) (by kernel_rfl)) ?_
  intro W base args ds gs before hval0 hW hcnd hsz0 _
  have hval : ∀ (j : Nat) t v, Try.f6.params[j]? = some t → args[j]? = some v → Value.okWide Try.prog W .any base t v := hval0
  have hW' := hW
  obtain ⟨p, q, hA0, hV, rfl, hfz, hnd⟩ := hW
  have hA : DataW.TrodAll enc Try.prog W 0 (fun _ => true) true Try.f6.params.toList args.toList ds p := hA0
  have hsz : (DataW.weightsEach Try.prog (Try.f6.params.toList ++ Rows.frameCutSpec.plain.varTypes Try.prog) (ds ++ gs)).all (· ≤ reachBytes) = true := hsz0
  rw [Try.params6] at hA hval hsz
  obtain ⟨v0, vs0, d0, ds0, p0, q0, hargs, rfl, rfl, h0, r0⟩ := trodAll_cons hA
  obtain ⟨v1, vs1, d1, ds1, p1, q1, rfl, rfl, rfl, h1, r1⟩ := trodAll_cons r0
  obtain ⟨v2, vs2, d2, ds2, p2, q2, rfl, rfl, rfl, h2, r2⟩ := trodAll_cons r1
  obtain ⟨rfl, rfl, rfl⟩ := trodAll_nil r2
  obtain rfl : args = #[v0, v1, v2] := by cases args; simp_all
  obtain ⟨rfl, rfl⟩ := trodVars_none hV
  obtain ⟨y0, x0, rfl, s0⟩ := sees_frame Try.underlying26 (by kernel_rfl) ⟨rfl, rfl⟩ ⟨rfl, rfl⟩ ⟨rfl, rfl⟩ Try.underlying23 (by kernel_rfl) ⟨rfl, rfl⟩ ⟨rfl, rfl⟩ ⟨rfl, rfl⟩ Try.underlying3 (by kernel_rfl) Try.underlying24 Try.underlying5 (by kernel_rfl) (by kernel_rfl) (by kernel_rfl) (hval 0 26 v0 rfl rfl) (fun n hn => of_decide_eq_true (List.all_eq_true.1 hsz _ (DataW.weights_mem_each (j := 0) rfl rfl n hn))) h0
  have k0 := h0
  have lt0 : ∀ x ∈ p0, x.block < W.heap.size := by obtain ⟨m, hm⟩ := k0; exact DataW.trod_lt m _ _ _ hm
  obtain ⟨a1, rfl, rfl, rfl, w1⟩ := open_int Try.underlying3 (hval 1 3 v1 rfl rfl) h1
  obtain ⟨a2, rfl, rfl, rfl, w2⟩ := open_int Try.underlying5 (hval 2 5 v2 rfl rfl) h2
  clear hA0 hval0
  refine (walk_frameCut y0 x0 a1 a2 W s0 (bounds_i64 w1) (bounds_u8 w2)).mono fun e W' ⟨he, bel⟩ => ?_
  subst he
  exact ⟨_, rfl, _, _, _, [], _, [], hW', trodAll_mk1 (shut_bool Try.underlying4 _), (trodAll_cons_mk (Below.trod laidOut_frameCut (by kernel_rfl) (of_decide_eq_true (by kernel_rfl)) k0 bel lt0) (trodAll_cons_mk (shut_int Try.underlying3 w1) (trodAll_cons_mk (shut_int Try.underlying5 w2) trodAll_mk0))), rfl, bel.frame _, fun h => by cases h⟩

theorem over_frameCut : Rows.frameCutRow.holds Try.pinned (OpenSpec.ofChange Rows.frameCutSpec) :=
  OpenClaim.holds_of_wide 6 Try.f6 rfl rfl rfl rfl rfl rfl rfl ⟨rfl, rfl, rfl, rfl, rfl⟩ rfl rfl rfl rfl rfl (by kernel_rfl) Try.func6 (by kernel_rfl)
    (of_decide_eq_true (by kernel_rfl)) (by unfold Func.isWrapper; first | (rw [if_pos (by decide +kernel)]; kernel_rfl) | (rw [if_neg (by decide +kernel)]; exact ⟨rfl, rfl⟩))
    (fun os started H enc _ => lifted_frameCut os started H enc)

theorem proved_frameCut : Rows.FrameCutSaid := over_frameCut
end Go.Proofs.Ytnffmaohmleapaa
