/- The contract of matronref4.Pack. -/
import Derived.Test.YtmddokenjdlgfaaBlk
namespace Go.Proofs.Ytmddokenjdlgfaa
open Go.RowKit
open Tb (D T)

/-- A list of bytes in a new block. -/
structure LitB (W : World) (g : Nat) (l : List Int) : Prop where
  lt : g < W.heap.size
  cells : ∀ k, k < l.length → W.cell? ⟨g, k, none⟩ = some (bv l k)
theorem LitB.alloc {W : World} {g : Nat} {l : List Int} (h : LitB W g l) (o : Obj) : LitB (W.alloc o) g l := ⟨by have := h.lt; simp; omega, fun k hk => Lib.cell?_alloc_some o (h.cells k hk)⟩
theorem LitB.drew {W : World} {g : Nat} {l : List Int} (h : LitB W g l) : LitB W.drew g l := ⟨h.lt, h.cells⟩
theorem LitB.ext {W W' : World} {g : Nat} {l : List Int} {v v' : Value} (h : LitB W g l) (hx : Ext W W' v v') (hne : v.ownBlock ≠ some g) : LitB W' g l := ⟨Nat.lt_of_lt_of_le h.lt hx.size, fun k hk => hx.cell (h.cells k hk) hne⟩
theorem LitB.new (W : World) (g : Nat) (cs : Array Value) (t : TypeId) (l : List Int) (hg : g = W.heap.size) (hl : cs = (l.map (Value.int .u8)).toArray) : LitB (W.alloc (.cells cs t)) g l := ⟨by simp [hg], fun k hk => by
  rw [World.cell?_alloc_at _ _ _ _ hg, hl]
  unfold bv
  simp [List.getD_eq_getElem?_getD, hk]⟩
theorem LitB.sees {W : World} {g : Nat} {l : List Int} (h : LitB W g l) (n : Nat) (hn : n = l.length) (hm : n ≤ maxLen) : SeesL W W.heap.size (.slice (some ⟨g, 0, none⟩) n n) l :=
  ⟨some ⟨g, 0, none⟩, n, by rw [hn], by omega, hm, fun _ => ⟨g, 0, rfl, h.lt, fun k hk => by rw [Nat.zero_add]; exact h.cells k hk⟩, fun h => by cases h⟩

theorem step_pushX {P : Program} (w : World) {ops : Array Oper} {o : Oper} {a : Act} {K : Act → World → Prop} {Q : Exit → Act → World → Prop} {E : Prop} (hgd : o.guard = none) (s x : Operand) (t : TypeId) (ho : o.op = .call { callee := .builtin .append, args := #[s, x], argTypes := #[t, t] })
    (B : Nat) (hinf : (P.info? 5).map (fun i => (i.zero, i.size, i.bytes)) = some (some (.int .u8 0), 1, 1)) (ht : P.underlying t = some (.slice 5))
    (v : Value) (l m : List Int) (hs : a.eval s = v) (hown : OwnsL w B v l) (hsee : ∃ Bs, SeesL w Bs (a.eval x) m)
    (hB : B ≤ w.heap.size) (hroom : l.length + m.length ≤ 140737488355328)
    (h : ∀ v' w', OwnsL w' B v' (l ++ m) → Ext w w' v v' → K (a.put o.dst v') w') : if Region.wanted o (yielded ops a.tmps) = true then Oper.wp P o a w K Q else E := by
  obtain ⟨Bs, hsee⟩ := hsee
  exact step_pushL w hgd s x t ho B hinf ht v l hown hs Bs _ m rfl hsee hB hroom h
def ExtE (w W : World) (v : Value) : Prop := ∃ v', Ext w W v v'
theorem ExtE.refl (w : World) (v : Value) : ExtE w w v := ⟨v, Ext.refl w v⟩
theorem ExtE.alloc {w W : World} {v : Value} (h : ExtE w W v) (o : Obj) : ExtE w (W.alloc o) v := by
  obtain ⟨v', h⟩ := h
  exact ⟨v', h.alloc o⟩
theorem ExtE.drew {w W : World} {v : Value} (h : ExtE w W v) : ExtE w W.drew v := by
  obtain ⟨v', h⟩ := h
  exact ⟨v', h.drew⟩

set_option maxRecDepth 100000 in
set_option maxHeartbeats 20000000 in
theorem pack_rf (t : T) (v : Value) (w : World) (B : Nat) (hB : B ≤ w.heap.size) (hv : SeesT w B v t.ns) :
    Calls Try.prog 16 #[tabV t v] w (Pk w t) := by
  have his := fun W (hb : Below w.heap.size w W) => is_rf t v W B (Nat.le_trans hB hb.size) (hv.below (hb.mono hB))
  obtain ⟨A, c, rfl, h1, h2, h3, -⟩ := hv.at_
  have h3 := h3.more hB
  unfold Pk pkR pkE
  cases hi : t.is
  · rw [hi] at his
    have his := fun W hb => Lib.hid (his W hb)
    clear hi h3 hv
    obtain ⟨l, dr, wi, lm⟩ := t
    unfold tabV at his ⊢
    simp only at his h1 ⊢
    have hbox := Lib.hid (box4 w (.slice A l.length c) (.int .i64 dr) (.int .i64 wi) (.int .i64 lm) 24)
    go_enter Try.func16, Try.ntmps16
    go_wp2_with fail
    refine (his _ hbox.out.below).out.mono ?_
    rintro e w1 ⟨rfl, hb⟩
    have hb := hbox.out.below.trans (hb.mono hbox.out.below.size)
    go_wp2
    go_ret2
    exact ⟨_, rfl, OwnsL.nil, hb⟩
  · rw [hi] at his
    have his := fun W hb => Lib.hid (his W hb)
    have hm := Tb.T.may hi
    obtain ⟨l, dr, wi, lm⟩ := t
    have hby : T.bytes ⟨l, dr, wi, lm⟩ = ([77, 84, 82, 78, (l.length : Int)] ++ Tb.nodesB l) ++ Tb.two dr ++ Tb.two wi ++ Tb.two lm := rfl
    simp only [if_true]
    rw [hby]
    obtain ⟨m4, m8, mn, mdr, mwi, mlm⟩ := hm
    simp only at m4 m8 mn mdr mwi mlm h1 h3
    have hwn : IntKind.u8.wrap ((l.length : Nat) : Int) = l.length := by rw [IntKind.wrap_u8]; omega
    clear hi hby hv
    unfold tabV at his ⊢
    simp only at his ⊢
    have hbox := Lib.hid (box4 w (.slice A l.length c) (.int .i64 dr) (.int .i64 wi) (.int .i64 lm) 24)
    have hlen : ∀ k, (Tb.nodesB (l.take k)).length ≤ 32 := fun k => by rw [Tb.nodesB_length, List.length_take]; omega
    have hlen2 := Lib.hid hlen
    clear hlen
    have htk := Lib.hid (Tb.nodesB_take l)
    unfold maxLen at h2
    go_enter Try.func16, Try.ntmps16
    go_wp2_with fail
    generalize w.alloc (.cells #[.slice A l.length c, .int .i64 dr, .int .i64 wi, .int .i64 lm] 24) = w0 at *
    have hz0 : w0.heap.size ≤ w.heap.size + 1 ∧ w.heap.size + 1 ≤ w0.heap.size := by have := hbox.out.size; omega
    refine (his _ hbox.out.below).out.mono ?_
    rintro e w1 ⟨rfl, hb1⟩
    clear his
    have K := Lib.hid hbox.out.cell
    obtain ⟨-, c0, c1, c2, c3⟩ := K.out w1 hb1
    have kc := Lib.run_convert_bytes_const (P := Try.prog) w1 25 5 #[.int .u8 77, .int .u8 84, .int .u8 82, .int .u8 78] 4 4 Try.underlying25 Try.underlying5
    have a0 := Lib.cell?_alloc_some (.cells #[.int .u8 77, .int .u8 84, .int .u8 82, .int .u8 78] 5 (4, 5)) c0
    have hm0 := sees_marked w1 5 #[.int .u8 77, .int .u8 84, .int .u8 82, .int .u8 78] (4, 5) [77, 84, 82, 78] rfl _ (Nat.lt_succ_self _) (by simp [maxLen]) _ 4 4 rfl rfl rfl
    have hb1a := hb1.alloc hb1.size (.cells #[.int .u8 77, .int .u8 84, .int .u8 82, .int .u8 78] 5 (4, 5))
    have hsX := sees_lit (w1.alloc (.cells #[.int .u8 77, .int .u8 84, .int .u8 82, .int .u8 78] 5 (4, 5))) 5 #[.int .u8 (l.length : Int)] [(l.length : Int)] rfl (w1.heap.size + 2) (by simp) (by simp [maxLen]) (w1.heap.size + 1) 1 1 (by simp) rfl rfl
    go_wp2_with (at_builtin; go_loud (refine wpList_growL _ rfl (.tmp 12) (.tmp 17) 25 rfl w0.heap.size infoU8 Try.underlying25 _ _ _ [77, 84, 82, 78] _ rfl (hm0.alloc _) rfl _ _ [(l.length : Int)] rfl hsX (by simp) (by simp) (by simp; have := hb1.size; omega) (by simp) ?_))
    intro v5 w5 ho5 hb5
    have hb5 := hb1a.trans (Below.trans ((Below.refl _ _).alloc (Nat.le_refl _) _) (hb5.mono (by simp)) |>.mono hb1a.size)
    have ho5 : OwnsL w5 w0.heap.size v5 ([77, 84, 82, 78, (l.length : Int)] ++ Tb.nodesB (l.take 0)) := by simpa [Tb.nodesB] using ho5
    clear kc a0 hm0 hb1a c0 c1 c2 c3 hb1 hsX
    go_wp2
    go_loopw [4, 5] (fun u i wr => ∃ k : Nat, k ≤ l.length ∧ i = .int .i64 k ∧ OwnsL wr w0.heap.size u ([77, 84, 82, 78, (l.length : Int)] ++ Tb.nodesB (l.take k)) ∧ Below w0.heap.size w0 wr) (fun _ i _ => l.length - (intOf i).toNat)
    case atStart => exact ⟨0, by omega, rfl, ho5, hb5⟩
    case round =>
      obtain ⟨k, hk, rfl, ho, hb⟩ := hrel
      obtain ⟨-, d0, d1, d2, d3⟩ := K.out wr hb
      have hbw := hbox.out.below.trans (hb.mono (by omega))
      by_cases hlt : k < l.length
      · obtain ⟨b, off, rfl, hbb, hd⟩ := h3.below hbw (by omega)
        obtain ⟨e0, e1, e2, e3⟩ := hd k hlt
        have q1 : decide ((k : Int) < (l.length : Nat)) = true := by simp; omega
        have hmk := mn (l.getD k default) (by rw [List.getD_eq_getElem?_getD, List.getElem?_eq_getElem hlt]; exact List.getElem_mem hlt)
        have htk1 := Lib.hid (htk.out k hlt)
        generalize l.getD k default = d at *
        obtain ⟨sy, inf, li, sz⟩ := d
        simp only at e0 e1 e2 e3 hmk
        have hoH := Lib.hid ho
        have hln := hlen2.out k
        have hws : IntKind.u8.wrap sz = sz := by rw [IntKind.wrap_u8]; omega
        generalize hAcc : [77, 84, 82, 78, (l.length : Int)] ++ Tb.nodesB (l.take k) = acc at *
        have hal : acc.length ≤ 37 := by rw [← hAcc, List.length_append]; simp; omega
        have hAcc2 := Lib.hid hAcc
        clear hAcc
        have hvl := ho.lt
        obtain ⟨f, hf⟩ : ∃ f, Tb.flag ⟨sy, inf, li, sz⟩ = f := ⟨_, rfl⟩
        have hnb : Tb.nodeB ⟨sy, inf, li, sz⟩ = [f] ++ Tb.two li ++ [sz] := by rw [← hf]; rfl
        have hnb := Lib.hid hnb
        have hfx : f = (if sy then 1 else 0) + (if inf then 2 else 0) := hf.symm
        clear ho hln hf
        have h2li : 0 ≤ li ∧ li ≤ 65535 := by omega
        have hbx := Lib.hid (box4 wr (.bool sy) (.bool inf) (.int .i64 li) (.int .i64 sz) 42)
        go_upto_if 32 with fail
        clear e0 e1 e2 e3 hd d0 d1 d2 d3
        have hb2 := hb.trans (hbx.out.below.mono hb.size)
        have ho2 := hoH.out.alloc (.cells #[.bool sy, .bool inf, .int .i64 li, .int .i64 sz] 42)
        generalize wr.alloc (.cells #[.bool sy, .bool inf, .int .i64 li, .int .i64 sz] 42) = w2 at *
        have hc := hbx.out.cell w2 (Below.refl _ _)
        have hcl := Lib.hid hc
        obtain ⟨-, x0, x1, x2, x3⟩ := hc
        go_cut [7] from 33 to 34 (fun s7 W => s7 = .int .u8 (if sy then 1 else 0) ∧ W = w2)
        case first =>
          cases sy
          all_goals
            go_wp2
            go_meet
            exact ⟨rfl, rfl⟩
        case rest =>
          obtain ⟨rfl, rfl⟩ := hcut
          go_upto_if 36 with fail
          go_cut [7] from 37 to 38 (fun s7 W => s7 = .int .u8 f ∧ W = wc)
          case first =>
            cases sy <;> cases inf <;> simp only [if_true, if_false, Bool.false_eq_true, Int.zero_add, Int.add_zero] at hfx ⊢
            all_goals
              subst hfx
              go_wp2
              go_meet
              exact ⟨rfl, rfl⟩
          case rest =>
            obtain ⟨rfl, rfl⟩ := hcut
            have hw2 : wr.heap.size < wc.heap.size := hcl.out.1
            clear hfx
            have K2 := Lib.hid (show ∀ W, ExtE wc W u4 → (W.cell? ⟨wr.heap.size, 2, none⟩ = some (.int .i64 li) ∧ W.cell? ⟨wr.heap.size, 3, none⟩ = some (.int .i64 sz)) from fun W h => by
              obtain ⟨v', h⟩ := h
              have hne : u4.ownBlock ≠ some wr.heap.size := fun e => by have := (hvl _ e).2; omega
              exact ⟨h.cell x2 hne, h.cell x3 hne⟩)
            have hvl : ∀ j, u4.ownBlock = some j → w0.heap.size ≤ j ∧ j < wc.heap.size := fun j hj => ⟨(hvl j hj).1, by have := (hvl j hj).2; omega⟩
            have htw := fun W => Lib.hid (two_rf li h2li W)
            have hzc := hb2.size
            clear x0 x1 x2 x3
            go_wp2_with fail
            go_region_held3 (fun W => (W.cell? ⟨wr.heap.size, 2, none⟩ = some (.int .i64 li) ∧ W.cell? ⟨wr.heap.size, 3, none⟩ = some (.int .i64 sz)))
              ((refine K2.out _ ?_; (repeat' (first | exact ⟨_, x51⟩ | exact ⟨_, x46⟩ | exact ⟨_, x42⟩ | (with_reducible refine ExtE.alloc ?_ _) | (with_reducible refine ExtE.drew ?_) | (with_reducible exact ExtE.refl _ _)))))
              (first
                | ((go_at_call 29; refine (htw _).out.mono ?_); rintro e w3 ⟨rfl, rfl⟩)
                | ((refine step_pushX _ rfl (.tmp 39) (.tmp 41) 25 rfl w0.heap.size infoU8 Try.underlying25 u4 (acc) ([f]) rfl ?_ ?_ ?_ ?_ ?_); (focus ((repeat' (first | exact ho46 | exact ho42 | exact ho2 | (with_reducible refine OwnsL.alloc ?_ _) | (with_reducible refine OwnsL.drew ?_))); done)); (focus (go_simp; refine ⟨_, LitB.sees ?_ 1 rfl (by simp [maxLen])⟩; ((repeat' (first | ((with_reducible refine LitB.new _ _ _ _ _ ?_ ?_); (focus (first | (rfl; done) | (simp; done))); (focus (rfl; done))) | (with_reducible refine LitB.alloc ?_ _) | (with_reducible refine LitB.drew ?_) | (with_reducible refine LitB.ext ?_ hx46 ?_) | (with_reducible refine LitB.ext ?_ hx42 ?_) | (intro e4; have e5 := (ho42.lt _ e4).2; have e7 := hx42.size; rcases hx42.lies _ e4 with e6 | e6; (focus (simp at e6 e5 e7 <;> omega)); (focus (have e8 := (hvl _ e6).2; first | omega | (simp at e5 e8 <;> omega)))) | (intro e4; have e5 := (hvl _ e4).2; first | omega | (simp at e5 <;> omega)))); done))); (focus (first | (have q := x46.size; simp; omega) | (have q := x42.size; simp; omega) | (simp; omega))); (focus (simp [Tb.two]; omega)); intro v42 w42 ho42 hx42; have x42 : Ext wc w42 u4 v42 := Ext.trans (by (repeat' (first | exact x46 | exact x42 | exact Ext.refl _ _ | (with_reducible refine Ext.alloc ?_ _) | (with_reducible refine Ext.drew ?_)))) hx42)
                | ((refine step_pushX _ rfl (.tmp 42) (.tmp 45) 25 rfl w0.heap.size infoU8 Try.underlying25 v42 (acc ++ [f]) (Tb.two li) rfl ?_ ?_ ?_ ?_ ?_); (focus ((repeat' (first | exact ho46 | exact ho42 | exact ho2 | (with_reducible refine OwnsL.alloc ?_ _) | (with_reducible refine OwnsL.drew ?_))); done)); (focus (go_simp; refine ⟨_, LitB.sees ?_ 2 rfl (by simp [maxLen])⟩; ((repeat' (first | ((with_reducible refine LitB.new _ _ _ _ _ ?_ ?_); (focus (first | (rfl; done) | (simp; done))); (focus (rfl; done))) | (with_reducible refine LitB.alloc ?_ _) | (with_reducible refine LitB.drew ?_) | (with_reducible refine LitB.ext ?_ hx46 ?_) | (with_reducible refine LitB.ext ?_ hx42 ?_) | (intro e4; have e5 := (ho42.lt _ e4).2; have e7 := hx42.size; rcases hx42.lies _ e4 with e6 | e6; (focus (simp at e6 e5 e7 <;> omega)); (focus (have e8 := (hvl _ e6).2; first | omega | (simp at e5 e8 <;> omega)))) | (intro e4; have e5 := (hvl _ e4).2; first | omega | (simp at e5 <;> omega)))); done))); (focus (first | (have q := x46.size; simp; omega) | (have q := x42.size; simp; omega) | (simp; omega))); (focus (simp [Tb.two]; omega)); intro v46 w46 ho46 hx46; have x46 : Ext wc w46 u4 v46 := Ext.trans (by (repeat' (first | exact x46 | exact x42 | exact Ext.refl _ _ | (with_reducible refine Ext.alloc ?_ _) | (with_reducible refine Ext.drew ?_)))) hx46)
                | ((refine step_pushX _ rfl (.tmp 46) (.tmp 50) 25 rfl w0.heap.size infoU8 Try.underlying25 v46 (acc ++ [f] ++ Tb.two li) ([sz]) rfl ?_ ?_ ?_ ?_ ?_); (focus ((repeat' (first | exact ho46 | exact ho42 | exact ho2 | (with_reducible refine OwnsL.alloc ?_ _) | (with_reducible refine OwnsL.drew ?_))); done)); (focus (go_simp; refine ⟨_, LitB.sees ?_ 1 rfl (by simp [maxLen])⟩; ((repeat' (first | ((with_reducible refine LitB.new _ _ _ _ _ ?_ ?_); (focus (first | (rfl; done) | (simp; done))); (focus (rfl; done))) | (with_reducible refine LitB.alloc ?_ _) | (with_reducible refine LitB.drew ?_) | (with_reducible refine LitB.ext ?_ hx46 ?_) | (with_reducible refine LitB.ext ?_ hx42 ?_) | (intro e4; have e5 := (ho42.lt _ e4).2; have e7 := hx42.size; rcases hx42.lies _ e4 with e6 | e6; (focus (simp at e6 e5 e7 <;> omega)); (focus (have e8 := (hvl _ e6).2; first | omega | (simp at e5 e8 <;> omega)))) | (intro e4; have e5 := (hvl _ e4).2; first | omega | (simp at e5 <;> omega)))); done))); (focus (first | (have q := x46.size; simp; omega) | (have q := x42.size; simp; omega) | (simp; omega))); (focus (simp [Tb.two]; omega)); intro v51 w51 ho51 hx51; have x51 : Ext wc w51 u4 v51 := Ext.trans (by (repeat' (first | exact x46 | exact x42 | exact Ext.refl _ _ | (with_reducible refine Ext.alloc ?_ _) | (with_reducible refine Ext.drew ?_)))) hx51)
                | fail)
            all_goals
              have hfin : OwnsL w51 w0.heap.size v51 ([77, 84, 82, 78, (l.length : Int)] ++ Tb.nodesB (l.take (k + 1))) := by
                rw [htk1.out, ← List.append_assoc, hAcc2.out, hnb.out]
                simpa using ho51
              have hb7 := hb2.trans (x51.toBelow (B := w0.heap.size) hzc (fun j hj => (hvl j hj).1))
              clear ho51 ho46 ho42 hx42 hx46 hx51 K2
              go_wp2
              exact ⟨⟨k + 1, by omega, by go_num, hfin, hb7⟩, by simp [intOf]; omega⟩
      · obtain rfl : k = l.length := by omega
        have q1 : decide ((l.length : Int) < (l.length : Nat)) = false := by simp
        rw [List.take_length] at ho
        have hln := hlen2.out l.length
        rw [List.take_length] at hln
        generalize hAcc : [77, 84, 82, 78, (l.length : Int)] ++ Tb.nodesB l = acc at *
        have hal : acc.length ≤ 37 := by rw [← hAcc, List.length_append]; simp; omega
        have hAcc2 := Lib.hid hAcc
        have ho2 := ho
        have hvl := ho.lt
        have hzc := hb.size
        have K2 := Lib.hid (show ∀ W, ExtE wr W u4 → (W.cell? ⟨w.heap.size, 1, none⟩ = some (.int .i64 dr) ∧ W.cell? ⟨w.heap.size, 2, none⟩ = some (.int .i64 wi) ∧ W.cell? ⟨w.heap.size, 3, none⟩ = some (.int .i64 lm)) from fun W h => by
          obtain ⟨v', h⟩ := h
          exact (K.out W (hb.trans (h.toBelow hb.size (fun j hj => (hvl j hj).1)))).2.2)
        have m1 : 0 ≤ dr ∧ dr ≤ 65535 := by omega
        have m2 : 0 ≤ wi ∧ wi ≤ 65535 := by omega
        have m3 : 0 ≤ lm ∧ lm ≤ 65535 := by omega
        have htw := fun n (h : 0 ≤ n ∧ n ≤ 65535) W => Lib.hid (two_rf n h W)
        clear hAcc hln ho
        go_wp2_with fail
        clear d0 d1 d2 d3
        go_region_held3 (fun W => (W.cell? ⟨w.heap.size, 1, none⟩ = some (.int .i64 dr) ∧ W.cell? ⟨w.heap.size, 2, none⟩ = some (.int .i64 wi) ∧ W.cell? ⟨w.heap.size, 3, none⟩ = some (.int .i64 lm)))
          ((refine K2.out _ ?_; (repeat' (first | exact ⟨_, x51⟩ | exact ⟨_, x46⟩ | exact ⟨_, x42⟩ | (with_reducible refine ExtE.alloc ?_ _) | (with_reducible refine ExtE.drew ?_) | (with_reducible exact ExtE.refl _ _)))))
          (first
            | ((go_at_call 29; first | with_reducible refine (htw dr m1 _).out.mono ?_ | with_reducible refine (htw wi m2 _).out.mono ?_ | with_reducible refine (htw lm m3 _).out.mono ?_); rintro e w3 ⟨rfl, rfl⟩)
            | ((refine step_pushX _ rfl (.tmp 52) (.tmp 55) 25 rfl w0.heap.size infoU8 Try.underlying25 u4 (acc) (Tb.two dr) rfl ?_ ?_ ?_ ?_ ?_); (focus ((repeat' (first | exact ho46 | exact ho42 | exact ho2 | (with_reducible refine OwnsL.alloc ?_ _) | (with_reducible refine OwnsL.drew ?_))); done)); (focus (go_simp; refine ⟨_, LitB.sees ?_ 2 rfl (by simp [maxLen])⟩; ((repeat' (first | ((with_reducible refine LitB.new _ _ _ _ _ ?_ ?_); (focus (first | (rfl; done) | (simp; done))); (focus (rfl; done))) | (with_reducible refine LitB.alloc ?_ _) | (with_reducible refine LitB.drew ?_) | (with_reducible refine LitB.ext ?_ hx46 ?_) | (with_reducible refine LitB.ext ?_ hx42 ?_) | (intro e4; have e5 := (ho42.lt _ e4).2; have e7 := hx42.size; rcases hx42.lies _ e4 with e6 | e6; (focus (simp at e6 e5 e7 <;> omega)); (focus (have e8 := (hvl _ e6).2; first | omega | (simp at e5 e8 <;> omega)))) | (intro e4; have e5 := (hvl _ e4).2; first | omega | (simp at e5 <;> omega)))); done))); (focus (first | (have q := x46.size; simp; omega) | (have q := x42.size; simp; omega) | (simp; omega))); (focus (simp [Tb.two]; omega)); intro v42 w42 ho42 hx42; have x42 : Ext wr w42 u4 v42 := Ext.trans (by (repeat' (first | exact x46 | exact x42 | exact Ext.refl _ _ | (with_reducible refine Ext.alloc ?_ _) | (with_reducible refine Ext.drew ?_)))) hx42)
            | ((refine step_pushX _ rfl (.tmp 56) (.tmp 59) 25 rfl w0.heap.size infoU8 Try.underlying25 v42 (acc ++ Tb.two dr) (Tb.two wi) rfl ?_ ?_ ?_ ?_ ?_); (focus ((repeat' (first | exact ho46 | exact ho42 | exact ho2 | (with_reducible refine OwnsL.alloc ?_ _) | (with_reducible refine OwnsL.drew ?_))); done)); (focus (go_simp; refine ⟨_, LitB.sees ?_ 2 rfl (by simp [maxLen])⟩; ((repeat' (first | ((with_reducible refine LitB.new _ _ _ _ _ ?_ ?_); (focus (first | (rfl; done) | (simp; done))); (focus (rfl; done))) | (with_reducible refine LitB.alloc ?_ _) | (with_reducible refine LitB.drew ?_) | (with_reducible refine LitB.ext ?_ hx46 ?_) | (with_reducible refine LitB.ext ?_ hx42 ?_) | (intro e4; have e5 := (ho42.lt _ e4).2; have e7 := hx42.size; rcases hx42.lies _ e4 with e6 | e6; (focus (simp at e6 e5 e7 <;> omega)); (focus (have e8 := (hvl _ e6).2; first | omega | (simp at e5 e8 <;> omega)))) | (intro e4; have e5 := (hvl _ e4).2; first | omega | (simp at e5 <;> omega)))); done))); (focus (first | (have q := x46.size; simp; omega) | (have q := x42.size; simp; omega) | (simp; omega))); (focus (simp [Tb.two]; omega)); intro v46 w46 ho46 hx46; have x46 : Ext wr w46 u4 v46 := Ext.trans (by (repeat' (first | exact x46 | exact x42 | exact Ext.refl _ _ | (with_reducible refine Ext.alloc ?_ _) | (with_reducible refine Ext.drew ?_)))) hx46)
            | ((refine step_pushX _ rfl (.tmp 60) (.tmp 63) 25 rfl w0.heap.size infoU8 Try.underlying25 v46 (acc ++ Tb.two dr ++ Tb.two wi) (Tb.two lm) rfl ?_ ?_ ?_ ?_ ?_); (focus ((repeat' (first | exact ho46 | exact ho42 | exact ho2 | (with_reducible refine OwnsL.alloc ?_ _) | (with_reducible refine OwnsL.drew ?_))); done)); (focus (go_simp; refine ⟨_, LitB.sees ?_ 2 rfl (by simp [maxLen])⟩; ((repeat' (first | ((with_reducible refine LitB.new _ _ _ _ _ ?_ ?_); (focus (first | (rfl; done) | (simp; done))); (focus (rfl; done))) | (with_reducible refine LitB.alloc ?_ _) | (with_reducible refine LitB.drew ?_) | (with_reducible refine LitB.ext ?_ hx46 ?_) | (with_reducible refine LitB.ext ?_ hx42 ?_) | (intro e4; have e5 := (ho42.lt _ e4).2; have e7 := hx42.size; rcases hx42.lies _ e4 with e6 | e6; (focus (simp at e6 e5 e7 <;> omega)); (focus (have e8 := (hvl _ e6).2; first | omega | (simp at e5 e8 <;> omega)))) | (intro e4; have e5 := (hvl _ e4).2; first | omega | (simp at e5 <;> omega)))); done))); (focus (first | (have q := x46.size; simp; omega) | (have q := x42.size; simp; omega) | (simp; omega))); (focus (simp [Tb.two]; omega)); intro v51 w51 ho51 hx51; have x51 : Ext wr w51 u4 v51 := Ext.trans (by (repeat' (first | exact x46 | exact x42 | exact Ext.refl _ _ | (with_reducible refine Ext.alloc ?_ _) | (with_reducible refine Ext.drew ?_)))) hx51)
            | fail)
        all_goals
          have hb7 := hb.trans (x51.toBelow (B := w0.heap.size) hb.size (fun j hj => (hvl j hj).1))
          have hfin : OwnsL w51 w.heap.size v51 ([77, 84, 82, 78, (l.length : Int)] ++ Tb.nodesB l ++ Tb.two dr ++ Tb.two wi ++ Tb.two lm) := by
            rw [hAcc2.out]
            exact ho51.base (by omega)
          have hbf := hbox.out.below.trans (hb7.mono (by omega))
          clear ho51 ho46 ho42 hx42 hx46 hx51 K2 htw ho2
          go_wp2
          go_ret2
          exact ⟨_, rfl, by simpa using hfin, hbf⟩
end Go.Proofs.Ytmddokenjdlgfaa
