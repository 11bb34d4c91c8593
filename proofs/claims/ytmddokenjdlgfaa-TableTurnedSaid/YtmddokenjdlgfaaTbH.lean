/- The contract of Pack. -/
import Derived.Test.YtmddokenjdlgfaaTbG
namespace Go.Proofs.Ytmddokenjdlgfaa
open Go.RowKit
open Tb (D T)

/-- What is written of a table, and the error. -/
def pkR (t : T) : List Int := if t.is then t.bytes else []
def pkE (t : T) : Int := if t.is then 0 else 1
def Pk (w : World) (t : T) (e : Ending) (w' : World) : Prop := ∃ v, e = .returned (.tuple #[v, .int .i64 (pkE t)]) ∧ OwnsL w' w.heap.size v (pkR t) ∧ Below w.heap.size w w'

set_option maxRecDepth 100000 in
set_option maxHeartbeats 4000000 in
theorem pack_tb (t : T) (v : Value) (w : World) (B : Nat) (hB : B ≤ w.heap.size) (hv : SeesT w B v t.ns) :
    Calls Try.prog 15 #[tabV t v] w (Pk w t) := by
  have his := fun W (hb : Below w.heap.size w W) => is_tb t v W B (Nat.le_trans hB hb.size) (hv.below (hb.mono hB))
  obtain ⟨A, c, rfl, h1, h2, h3, -⟩ := hv.at_
  have h3 := h3.more hB
  unfold Pk pkR pkE
  cases hi : t.is
  · rw [hi] at his
    have his := fun W hb => Lib.hid (his W hb)
    clear hi h3 hv
    obtain ⟨l, dr, wi, lm⟩ := t
    unfold tabV at his ⊢
    simp only at his h1 ⊢
    have hbox := Lib.hid (box4 w (.slice A l.length c) (.int .i64 dr) (.int .i64 wi) (.int .i64 lm) 24)
    go_enter Try.func15, Try.ntmps15
    go_wp2_with fail
    refine (his _ hbox.out.below).out.mono ?_
    rintro e w1 ⟨rfl, hb⟩
    have hb := hbox.out.below.trans (hb.mono hbox.out.below.size)
    go_wp2
    go_ret2
    exact ⟨_, rfl, OwnsL.nil, hb⟩
  · rw [hi] at his
    have his := fun W hb => Lib.hid (his W hb)
    have hm := Tb.T.may hi
    obtain ⟨l, dr, wi, lm⟩ := t
    have hby : T.bytes ⟨l, dr, wi, lm⟩ = ([77, 84, 82, 78, (l.length : Int)] ++ Tb.nodesB l) ++ Tb.two dr ++ Tb.two wi ++ Tb.two lm := rfl
    simp only [if_true]
    rw [hby]
    obtain ⟨m4, m8, mn, mdr, mwi, mlm⟩ := hm
    simp only at m4 m8 mn mdr mwi mlm h1 h3
    have hwn : IntKind.u8.wrap ((l.length : Nat) : Int) = l.length := by rw [IntKind.wrap_u8]; omega
    clear hi hby hv
    unfold tabV at his ⊢
    simp only at his ⊢
    have hbox := Lib.hid (box4 w (.slice A l.length c) (.int .i64 dr) (.int .i64 wi) (.int .i64 lm) 24)
    have hlen : ∀ k, (Tb.nodesB (l.take k)).length ≤ 32 := fun k => by rw [Tb.nodesB_length, List.length_take]; omega
    have hlen2 := Lib.hid hlen
    clear hlen
    have htk := Lib.hid (Tb.nodesB_take l)
    unfold maxLen at h2
    go_enter Try.func15, Try.ntmps15
    go_wp2_with fail
    generalize w.alloc (.cells #[.slice A l.length c, .int .i64 dr, .int .i64 wi, .int .i64 lm] 24) = w0 at *
    have hz0 : w0.heap.size ≤ w.heap.size + 1 ∧ w.heap.size + 1 ≤ w0.heap.size := by have := hbox.out.size; omega
    refine (his _ hbox.out.below).out.mono ?_
    rintro e w1 ⟨rfl, hb1⟩
    clear his
    have K := Lib.hid hbox.out.cell
    obtain ⟨-, c0, c1, c2, c3⟩ := K.out w1 hb1
    have kc := Lib.run_convert_bytes_const (P := Try.prog) w1 25 5 #[.int .u8 77, .int .u8 84, .int .u8 82, .int .u8 78] 4 4 Try.underlying25 Try.underlying5
    have a0 := Lib.cell?_alloc_some (.cells #[.int .u8 77, .int .u8 84, .int .u8 82, .int .u8 78] 5 (4, 5)) c0
    have hm0 := sees_marked w1 5 #[.int .u8 77, .int .u8 84, .int .u8 82, .int .u8 78] (4, 5) [77, 84, 82, 78] rfl _ (Nat.lt_succ_self _) (by simp [maxLen]) _ 4 4 rfl rfl rfl
    have hb1a := hb1.alloc hb1.size (.cells #[.int .u8 77, .int .u8 84, .int .u8 82, .int .u8 78] 5 (4, 5))
    have hsX := sees_lit (w1.alloc (.cells #[.int .u8 77, .int .u8 84, .int .u8 82, .int .u8 78] 5 (4, 5))) 5 #[.int .u8 (l.length : Int)] [(l.length : Int)] rfl (w1.heap.size + 2) (by simp) (by simp [maxLen]) (w1.heap.size + 1) 1 1 (by simp) rfl rfl
    go_wp2_with (at_builtin; go_loud (refine wpList_growL _ rfl (.tmp 11) (.tmp 16) 25 rfl w0.heap.size infoU8 Try.underlying25 _ _ _ [77, 84, 82, 78] _ rfl (hm0.alloc _) rfl _ _ [(l.length : Int)] rfl hsX (by simp) (by simp) (by simp; have := hb1.size; omega) (by simp) ?_))
    intro v5 w5 ho5 hb5
    have hb5 := hb1a.trans (Below.trans ((Below.refl _ _).alloc (Nat.le_refl _) _) (hb5.mono (by simp)) |>.mono hb1a.size)
    have ho5 : OwnsL w5 w0.heap.size v5 ([77, 84, 82, 78, (l.length : Int)] ++ Tb.nodesB (l.take 0)) := by simpa [Tb.nodesB] using ho5
    obtain ⟨-, d0, d1, d2, d3⟩ := K.out w5 hb5
    clear kc a0 hm0 hb1a c0 c1 c2 c3 hb1
    go_wp2
    go_loopw [4, 21] (fun u i wr => ∃ k : Nat, k ≤ l.length ∧ i = .int .i64 k ∧ OwnsL wr w0.heap.size u ([77, 84, 82, 78, (l.length : Int)] ++ Tb.nodesB (l.take k)) ∧ Below w0.heap.size w0 wr) (fun _ i _ => l.length - (intOf i).toNat)
    case atStart => exact ⟨0, by omega, rfl, ho5, hb5⟩
    case round =>
      obtain ⟨k, hk, rfl, ho, hb⟩ := hrel
      obtain ⟨-, d0, d1, d2, d3⟩ := K.out wr hb
      have hbw := hbox.out.below.trans (hb.mono (by omega))
      by_cases hlt : k < l.length
      · obtain ⟨b, off, rfl, hbb, hd⟩ := h3.below hbw (by omega)
        obtain ⟨e0, e1, e2, e3⟩ := hd k hlt
        have q1 : decide ((k : Int) < (l.length : Nat)) = true := by simp; omega
        have hmk := mn (l.getD k default) (by rw [List.getD_eq_getElem?_getD, List.getElem?_eq_getElem hlt]; exact List.getElem_mem hlt)
        have htk1 := Lib.hid (htk.out k hlt)
        generalize l.getD k default = d at *
        have hfl := fun W => Lib.hid (flags_tb d W)
        unfold dV at hfl
        have hbx := Lib.hid (box4 wr (.bool d.sy) (.bool d.inf) (.int .i64 d.li) (.int .i64 d.sz) 42)
        have hpair := fun v l n W ho hB hn hl => Lib.hid (appendPair_tb v l n W w0.heap.size ho hB hn hl)
        have hoH := Lib.hid ho
        have hln := hlen2.out k
        have hws : IntKind.u8.wrap d.sz = d.sz := by rw [IntKind.wrap_u8]; omega
        generalize hAcc : [77, 84, 82, 78, (l.length : Int)] ++ Tb.nodesB (l.take k) = acc at *
        have hal : acc.length ≤ 37 := by rw [← hAcc, List.length_append]; simp; omega
        have hAcc2 := Lib.hid hAcc
        clear hAcc
        have hvl := ho.lt
        have hvb : ∀ j, u4.ownBlock = some j → w0.heap.size ≤ j := fun j hj => (ho.lt j hj).1
        clear ho hln
        go_wp2_with fail
        clear e0 e1 e2 e3 hd d0 d1 d2 d3
        have hb2 := hb.trans (hbx.out.below.mono hb.size)
        have ho2 := hoH.out.alloc (.cells #[.bool d.sy, .bool d.inf, .int .i64 d.li, .int .i64 d.sz] 42)
        generalize wr.alloc (.cells #[.bool d.sy, .bool d.inf, .int .i64 d.li, .int .i64 d.sz] 42) = w2 at *
        have K2 := Lib.hid (show ∀ W, (∃ v', Ext w2 W u4 v') → (W.cell? ⟨wr.heap.size, 0, none⟩ = some (.bool d.sy) ∧ W.cell? ⟨wr.heap.size, 1, none⟩ = some (.bool d.inf) ∧ W.cell? ⟨wr.heap.size, 2, none⟩ = some (.int .i64 d.li) ∧ W.cell? ⟨wr.heap.size, 3, none⟩ = some (.int .i64 d.sz)) from fun W h => by
          obtain ⟨v', h⟩ := h
          obtain ⟨-, x0, x1, x2, x3⟩ := hbx.out.cell w2 (Below.refl _ _)
          have hne : u4.ownBlock ≠ some wr.heap.size := fun e => by have := (hvl _ e).2; omega
          exact ⟨h.cell x0 hne, h.cell x1 hne, h.cell x2 hne, h.cell x3 hne⟩)
        have x0 := Ext.refl w2 u4
        clear hvl
        go_region_held3 (fun W => (W.cell? ⟨wr.heap.size, 0, none⟩ = some (.bool d.sy) ∧ W.cell? ⟨wr.heap.size, 1, none⟩ = some (.bool d.inf) ∧ W.cell? ⟨wr.heap.size, 2, none⟩ = some (.int .i64 d.li) ∧ W.cell? ⟨wr.heap.size, 3, none⟩ = some (.int .i64 d.sz)))
          ((refine K2.out _ ?_; (first | exact ⟨_, x0⟩ | exact ⟨_, x0.drew⟩ | exact ⟨_, x3⟩ | exact ⟨_, x3.alloc _⟩ | exact ⟨_, x5⟩ | exact ⟨_, x6⟩)))
          (first
            | ((go_at_call 28; refine (hfl _).out.mono ?_); rintro e w3 ⟨rfl, hb3⟩; have x3 := x0.drew.below hb3; have ho3 := ho2.drew.below hb3 (Nat.le_refl _); have hz3 := Nat.le_trans hb2.size x3.size)
            | ((refine step_pushL _ rfl (.tmp 25) (.tmp 28) 25 rfl w0.heap.size infoU8 Try.underlying25 u4 acc ?_ rfl (w3.heap.size + 1) (.slice (some ⟨w3.heap.size, 0, none⟩) 1 1) [Tb.flag d] rfl ?_ ?_ ?_ ?_); exact ho3.alloc _; exact (sees_lit w3 5 _ [Tb.flag d] rfl _ (Nat.lt_succ_self _) (by simp [maxLen]) _ _ _ rfl rfl rfl); (focus (simp; omega)); (focus (simp; omega)); intro v5 w5 ho5 hx5; have x5 := (x3.alloc (.cells #[.int .u8 (Tb.flag d)] 5)).trans hx5)
            | ((go_at_call 27; refine (hpair v5 (acc ++ [Tb.flag d]) d.li _ ho5 ?_ ?_ ?_).out.mono ?_); (focus (have := x5.size; have := hb2.size; omega)); (focus omega); (focus (simp; omega)); rintro e w6 ⟨v6, rfl, ho6, hx6⟩; have x6 := x5.trans hx6)
            | fail)
        obtain ⟨d0, d1, d2, d3⟩ := K2.out _ ⟨_, x6⟩
        have hb6 := hb2.trans (x6.toBelow (B := w0.heap.size) hb2.size hvb)
        have hL : OwnsL w6 w0.heap.size v6 (acc ++ [Tb.flag d] ++ Tb.two d.li) := ho6
        have hsX := sees_lit w6 5 #[.int .u8 d.sz] [d.sz] rfl (w6.heap.size + 1) (by simp) (by simp [maxLen]) w6.heap.size 1 1 rfl rfl rfl
        clear K2 hpair hfl ho5 ho6 ho3 hb3 x0 x3 x5 hoH ho2
        go_wp2_with (at_builtin; go_loud (refine wpList_pushL _ rfl (.tmp 33) (.tmp 37) 25 rfl w0.heap.size infoU8 Try.underlying25 v6 (acc ++ [Tb.flag d] ++ Tb.two d.li) (hL.alloc _) rfl _ _ [d.sz] rfl hsX (by simp; have := hb6.size; omega) (by simp [Tb.two]; omega) ?_))
        intro v7 w7 ho7 hx7
        have hfin : OwnsL w7 w0.heap.size v7 ([77, 84, 82, 78, (l.length : Int)] ++ Tb.nodesB (l.take (k + 1))) := by
          rw [htk1.out, ← List.append_assoc, hAcc2.out]
          simpa [Tb.nodeB, Tb.two] using ho7
        have hb7 := hb6.trans (((Ext.refl w6 v6).alloc (.cells #[.int .u8 d.sz] 5)).trans hx7 |>.toBelow (B := w0.heap.size) hb6.size (fun j hj => (hL.lt j hj).1))
        clear ho7 hL hsX
        go_wp2
        exact ⟨⟨k + 1, by omega, by go_num, hfin, hb7⟩, by simp [intOf]; omega⟩
      · obtain rfl : k = l.length := by omega
        have q1 : decide ((l.length : Int) < (l.length : Nat)) = false := by simp
        rw [List.take_length] at ho
        have hpair := fun v l n W ho hB hn hl => Lib.hid (appendPair_tb v l n W w0.heap.size ho hB hn hl)
        have hln := hlen2.out l.length
        rw [List.take_length] at hln
        generalize hAcc : [77, 84, 82, 78, (l.length : Int)] ++ Tb.nodesB l = acc at *
        have hal : acc.length ≤ 37 := by rw [← hAcc, List.length_append]; simp; omega
        have hAcc2 := Lib.hid hAcc
        have hoH := Lib.hid ho
        have hvl := Lib.hid (fun j hj => (ho.lt j hj).1)
        clear hAcc ho hln
        go_wp2_with fail
        refine (hpair u4 acc dr wr hoH.out hb.size (by omega) (by omega)).out.mono ?_
        rintro e w2 ⟨v2, rfl, ho2, hx2⟩
        have hb2 := hb.trans (hx2.toBelow hb.size hvl.out)
        obtain ⟨-, y0, y1, y2, y3⟩ := K.out w2 hb2
        go_wp2_with fail
        refine (hpair v2 _ wi w2 ho2 hb2.size (by omega) (by simp [Tb.two]; omega)).out.mono ?_
        rintro e w3 ⟨v3, rfl, ho3, hx3⟩
        have hb3 := hb2.trans (hx3.toBelow hb2.size (fun j hj => (ho2.lt j hj).1))
        obtain ⟨-, z0, z1, z2, z3⟩ := K.out w3 hb3
        clear y0 y1 y2 y3 hx2 hx3
        go_wp2_with fail
        refine (hpair v3 _ lm w3 ho3 hb3.size (by omega) (by simp [Tb.two]; omega)).out.mono ?_
        rintro e w4 ⟨v4, rfl, ho4, hx4⟩
        have hb4 := hb3.trans (hx4.toBelow hb3.size (fun j hj => (ho3.lt j hj).1))
        have hfin : OwnsL w4 w.heap.size v4 ([77, 84, 82, 78, (l.length : Int)] ++ Tb.nodesB l ++ Tb.two dr ++ Tb.two wi ++ Tb.two lm) := by
          rw [hAcc2.out]
          exact ho4.base (by omega)
        have hbf := hbox.out.below.trans (hb4.mono (by omega))
        clear ho2 ho3 ho4 hpair hoH
        go_wp2
        go_ret2
        exact ⟨_, rfl, by simpa using hfin, hbf⟩
end Go.Proofs.Ytmddokenjdlgfaa
