/- Texts TbF, TbG, TbH, Mem, BlkA, Blk, TbJ, TbK, TbL in one. For what each says in front of its theorems. -/
import Derived.Laws.ResultCell
import Derived.Lib.SmallJoins
import Derived.Deep.CutBlock
import Derived.BigRegion
import Derived.Test.YtpdenmcacaajkaaGreatPB1
import Derived.Test.YtpdenmcacaajkaaGreatPB4
import Derived.Test.YtpdenmcacaajkaaGreatPB5
import Derived.Test.YtpdenmcacaajkaaGreatPB6
/-! ### TbF -/
namespace Go.Proofs.YtpdenmcacaajkaaGreat
open Go.RowKit
open Tb (D T)

set_option maxRecDepth 100000 in
set_option maxHeartbeats 4000000 in
theorem is_rf (t : T) (v : Value) (w : World) (B : Nat) (hB : B ≤ w.heap.size) (hv : SeesT w B v t.ns) :
    Calls Tryz.prog 22 #[tabV t v] w fun e w' => e = .returned (.bool t.is) ∧ Below w.heap.size w w' := by
  obtain ⟨A, c, rfl, h1, h2, h3, -⟩ := hv.at_
  obtain ⟨l, dr, wi, lm⟩ := t
  simp only at h1 h3
  have h3 := h3.more hB
  have hin := fun n a b W => Lib.hid (in_tb n a b W)
  have hres : T.is ⟨l, dr, wi, lm⟩ = ((Tb.wi l.length 4 8 && (Tb.oks l l.length && decide (4 ≤ Tb.syn l l.length))) && (Tb.wi dr 0 1000 && (Tb.wi wi (4 * dr + 2) 1000 && Tb.wi lm wi 1000))) := rfl
  rw [hres]
  clear hres hv
  unfold maxLen at h2
  unfold tabV
  simp only
  have hq : ∀ n a b t, Tb.wi n a b = t → ∀ W, Hid (Calls Tryz.prog 61 #[.int .i64 n, .int .i64 a, .int .i64 b] W fun e w' => e = .returned (.bool t) ∧ W = w') := by
    rintro n a b t rfl W
    exact hin n a b W
  have hbox := Lib.hid (box4 w (.slice A l.length c) (.int .i64 dr) (.int .i64 wi) (.int .i64 lm) 29)
  cases q0 : Tb.wi l.length 4 8
  · have f0 := hq _ _ _ _ q0
    clear hin hq q0 h3
    go_enter Tryz.func22, Tryz.ntmps22
    go_wp2_with fail
    refine (f0 _).out.mono ?_
    rintro e w1 ⟨rfl, rfl⟩
    go_wp2
    go_ret
    exact ⟨by simp, hbox.out.below⟩
  cases q1 : Tb.wi dr 0 1000
  · have f0 := hq _ _ _ _ q0
    have f1 := hq _ _ _ _ q1
    clear q0 q1 hq hin h3
    go_enter Tryz.func22, Tryz.ntmps22
    go_wp2_with fail
    refine (f0 _).out.mono ?_
    rintro e w1 ⟨rfl, rfl⟩
    go_wp2_with fail
    refine (f1 _).out.mono ?_
    rintro e w2 ⟨rfl, rfl⟩
    go_wp2
    go_ret
    exact ⟨by simp, hbox.out.below⟩
  have wr0 : IntKind.i64.wrap (4 * dr) = 4 * dr := IntWalk.i64_in _ (by have := (Tb.wi_iff _ _ _).1 q1; omega)
  have wr1 : IntKind.i64.wrap (4 * dr + 2) = 4 * dr + 2 := IntWalk.i64_in _ (by have := (Tb.wi_iff _ _ _).1 q1; omega)
  cases q2 : Tb.wi wi (4 * dr + 2) 1000
  · have f0 := hq _ _ _ _ q0
    have f1 := hq _ _ _ _ q1
    have f2 := hq _ _ _ _ q2
    clear q0 q1 q2 hq hin h3
    go_enter Tryz.func22, Tryz.ntmps22
    go_wp2_with fail
    refine (f0 _).out.mono ?_
    rintro e w1 ⟨rfl, rfl⟩
    go_wp2_with fail
    refine (f1 _).out.mono ?_
    rintro e w2 ⟨rfl, rfl⟩
    go_wp2_with fail
    refine (f2 _).out.mono ?_
    rintro e w2 ⟨rfl, rfl⟩
    go_wp2
    go_ret
    exact ⟨by simp, hbox.out.below⟩
  cases q3 : Tb.wi lm wi 1000
  · have f0 := hq _ _ _ _ q0
    have f1 := hq _ _ _ _ q1
    have f2 := hq _ _ _ _ q2
    have f3 := hq _ _ _ _ q3
    clear q0 q1 q2 q3 hq hin h3
    go_enter Tryz.func22, Tryz.ntmps22
    go_wp2_with fail
    refine (f0 _).out.mono ?_
    rintro e w1 ⟨rfl, rfl⟩
    go_wp2_with fail
    refine (f1 _).out.mono ?_
    rintro e w2 ⟨rfl, rfl⟩
    go_wp2_with fail
    refine (f2 _).out.mono ?_
    rintro e w2 ⟨rfl, rfl⟩
    go_wp2_with fail
    refine (f3 _).out.mono ?_
    rintro e w2 ⟨rfl, rfl⟩
    go_wp2
    go_ret
    exact ⟨by simp, hbox.out.below⟩
  have f0 := hq _ _ _ _ q0
  have f1 := hq _ _ _ _ q1
  have f2 := hq _ _ _ _ q2
  have f3 := hq _ _ _ _ q3
  have hn8 : l.length ≤ 8 := by have := (Tb.wi_iff _ _ _).1 q0; omega
  have hn4 : 4 ≤ l.length := by have := (Tb.wi_iff _ _ _).1 q0; omega
  clear q0 q1 q2 q3 hq
  have hS := Lib.hid (Tb.oks_succ l)
  have hbad := fun k hk h => Lib.hid (Tb.oks_bad (l := l) (k := k) hk h)
  have hsy := Lib.hid (Tb.syn_le l)
  have hs0 := Lib.hid (Tb.has_zero l)
  have hs1 := Lib.hid (Tb.has_succ l)
  have hm2 : IntKind.i64.wrap (2 * (l.length : Int)) = 2 * l.length := IntWalk.i64_in _ (by omega)
  go_enter Tryz.func22, Tryz.ntmps22
  go_wp2_with fail
  refine (f0 _).out.mono ?_
  rintro e w1 ⟨rfl, rfl⟩
  go_wp2_with fail
  refine (f1 _).out.mono ?_
  rintro e w2 ⟨rfl, rfl⟩
  go_wp2_with fail
  refine (f2 _).out.mono ?_
  rintro e w2 ⟨rfl, rfl⟩
  go_wp2_with fail
  refine (f3 _).out.mono ?_
  rintro e w2 ⟨rfl, rfl⟩
  clear f0 f1 f2 f3
  go_wp2
  generalize w.alloc (.cells #[.slice A l.length c, .int .i64 dr, .int .i64 wi, .int .i64 lm] 29) = w0 at *
  have hz0 : w0.heap.size = w.heap.size + 1 := hbox.out.size
  go_loopw [4, 5] (fun s i wr => ∃ k : Nat, k ≤ l.length ∧ i = .int .i64 k ∧ s = .int .i64 (Tb.syn l k) ∧ Hid (Tb.oks l k = true) ∧ Below w0.heap.size w0 wr) (fun _ i _ => l.length - (intOf i).toNat)
  case atStart => exact ⟨0, by omega, rfl, rfl, rfl, Below.refl _ _⟩
  case round =>
    obtain ⟨k, hk, rfl, rfl, hok, hb⟩ := hrel
    have hsk := hsy.out k
    have hbw := hbox.out.below.trans (hb.mono (by omega))
    obtain ⟨-, b0, b1, b2, b3⟩ := hbox.out.cell wr hb
    by_cases hlt : k < l.length
    · obtain ⟨b, off, rfl, hbb, hd⟩ := h3.below hbw (by omega)
      obtain ⟨e0, e1, e2, e3⟩ := hd k hlt
      have q1 : decide ((k : Int) < (l.length : Nat)) = true := by simp; omega
      have hokk : Tb.ok l k = (Tb.wi (l.getD k default).li (2 * l.length) 200 && Tb.wi (l.getD k default).sz 1 8 && !Tb.has l k (l.getD k default).li) := rfl
      have hsyn0 : Tb.syn l (k + 1) = Tb.syn l k + (if (l.getD k default).sy then 1 else 0) := rfl
      generalize hdd0 : l.getD k default = d at *
      have hdd := Lib.hid hdd0
      have hsyn := Lib.hid hsyn0
      clear hdd0 hsyn0
      obtain ⟨sy, inf, li, sz⟩ := d
      simp only at e0 e1 e2 e3 hokk hsyn
      cases ha : Tb.wi li (2 * l.length) 200
      · have hA := hin li (2 * l.length) 200
        rw [ha] at hA
        have hfin := hbad k hlt (by rw [hokk, ha]; rfl)
        clear ha hokk hbad hS hs0 hs1
        go_wp2_with (go_at_call 61; refine (hA _).out.mono ?_; rintro e w1 ⟨rfl, rfl⟩)
        all_goals
          go_ret
          exact ⟨by rw [hfin.out]; simp, hbw.alloc hbw.size _⟩
      cases hz : Tb.wi sz 1 8
      · have hA := hin li (2 * l.length) 200
        rw [ha] at hA
        have hZ := hin sz 1 8
        rw [hz] at hZ
        have hfin := hbad k hlt (by rw [hokk, ha, hz]; rfl)
        clear ha hz hokk hbad hS hs0 hs1
        go_wp2_with (go_at_call 61; first | (with_reducible refine (hA _).out.mono ?_; rintro e w1 ⟨rfl, rfl⟩) | (refine (hZ _).out.mono ?_; rintro e w1 ⟨rfl, rfl⟩))
        all_goals
          go_ret
          exact ⟨by rw [hfin.out]; simp, hbw.alloc hbw.size _⟩
      have hA := hin li (2 * l.length) 200
      rw [ha] at hA
      have hZ := hin sz 1 8
      rw [hz] at hZ
      have hokk2 := Lib.hid (show Tb.ok l k = !Tb.has l k li by rw [hokk, ha, hz]; simp)
      have hokS := hS.out k
      rw [hok.out, hokk2.out] at hokS
      have hokS := Lib.hid hokS
      have hsy1 : ∃ S : Nat, S ≤ 8 ∧ Hid (Tb.syn l (k + 1) = S) ∧ (sy = true → (S : Int) = Tb.syn l k + 1) ∧ (sy = false → (S : Int) = Tb.syn l k) := by
        refine ⟨Tb.syn l (k + 1), by have := hsy.out (k + 1); omega, Lib.hid rfl, ?_, ?_⟩ <;> (rintro rfl; rw [hsyn.out]; simp)
      clear ha hz hokk hsyn
      cases sy
      all_goals
        go_wp2_with fail
      (focus
        have hbx := Lib.hid (box4 wr (.bool false) (.bool inf) (.int .i64 li) (.int .i64 sz) 60)
        generalize wr.alloc (.cells #[.bool false, .bool inf, .int .i64 li, .int .i64 sz] 60) = w2 at *)
      rotate_left 1
      (focus
        have hbx := Lib.hid (box4 wr (.bool true) (.bool inf) (.int .i64 li) (.int .i64 sz) 60)
        generalize wr.alloc (.cells #[.bool true, .bool inf, .int .i64 li, .int .i64 sz] 60) = w2 at *)
      all_goals
        have hb2 := hb.trans (hbx.out.below.mono hb.size)
        obtain ⟨S, hS8, hsS, hsT, hsF⟩ := hsy1
        refine (hA _).out.mono ?_
        rintro e w3 ⟨rfl, rfl⟩
        obtain ⟨hz2, d0, d1, d2, d3⟩ := hbx.out.cell w2 (Below.refl _ _)
        go_wp2_with fail
        refine (hZ _).out.mono ?_
        rintro e w3 ⟨rfl, rfl⟩
        have bb := Lib.hid (hbox.out.cell)
        have hb3 := Lib.hid h3
        have hs0 := Lib.hid (hs0.out li)
        clear e0 e1 e2 e3 hd b0 b1 b2 b3 h3 hA hZ d0 d1 d2 d3
        go_wp2
        go_loopw [7] (fun j wq => ∃ i : Nat, i ≤ k ∧ j = .int .i64 i ∧ Hid (Tb.has l i li = false) ∧ Below w2.heap.size w2 wq) (fun j _ => k - (intOf j).toNat)
        case atStart => exact ⟨0, by omega, rfl, hs0, Below.refl _ _⟩
        case round =>
          obtain ⟨j, hj, rfl, hnot, hbq⟩ := hrel
          have hbq2 := hb2.trans (hbq.mono hb2.size)
          obtain ⟨-, b0, b1, b2, b3⟩ := bb.out _ hbq2
          obtain ⟨-, d0, d1, d2, d3⟩ := hbx.out.cell _ hbq
          have hbq3 := hbox.out.below.trans (hbq2.mono (by omega))
          obtain ⟨bx, offx, hA, hbb', hd⟩ := hb3.out.below hbq3 (by omega)
          obtain ⟨e0, e1, e2, e3⟩ := hd j (by omega)
          have hA0 := hA
          simp only [Option.some.injEq, Addr.mk.injEq, and_true] at hA0
          obtain ⟨rfl, rfl⟩ := hA0
          clear hA hb3 bb hS hbox
          by_cases hjk : j < k
          · have q5 : decide ((j : Int) < (k : Nat)) = true := by simp; omega
            have p1 : (0 : Int) ≤ (j : Nat) := by omega
            have p2 : ((j : Nat) : Int) < (l.length : Nat) := by omega
            have hnext := Lib.hid (hs1.out j (by omega) li)
            generalize hx : (l.getD j default).li = x at *
            have hx := Lib.hid hx
            by_cases hxx : x = li
            · have hnx : Tb.has l (j + 1) li = true := by rw [hnext.out]; simp [hxx]
              have hfin := hbad k hlt (by rw [hokk2.out]; simp [Tb.has_mono (show j + 1 ≤ k by omega) hnx])
              subst hxx
              go_wp2_with fail
              go_quiet (fail)
              go_wp2
              go_ret
              exact ⟨by rw [hfin.out]; simp, below_drewN hbq3 _⟩
            · have hnx : Hid (Tb.has l (j + 1) li = false) := by
                have := hnext.out
                rw [hnot.out] at this
                exact this.trans (by simp [hxx])
              go_wp2_with fail
              go_quiet (fail)
              go_wp2
              exact ⟨⟨j + 1, by omega, by go_num, hnx, below_drewN hbq _⟩, by simp [intOf]; omega⟩
          · obtain rfl : j = k := by omega
            have q5 : decide ((j : Int) < (j : Nat)) = false := by simp
            go_wp2
            exact ⟨⟨j + 1, by omega, by go_num, by rw [hsS.out]; first | exact congrArg (Value.int .i64) (hsT (by simp)).symm | exact congrArg (Value.int .i64) (hsF (by simp)).symm, Lib.hid (by rw [hokS.out, hnot.out]; rfl), hbq2⟩, by simp [intOf]; omega⟩
    · obtain rfl : k = l.length := by omega
      have q1 : decide ((l.length : Int) < (l.length : Nat)) = false := by simp
      go_wp2
      go_ret
      exact ⟨by rw [hok.out]; simp; omega, hbw⟩
end Go.Proofs.YtpdenmcacaajkaaGreat

/-! ### TbG -/
namespace Go.Proofs.YtpdenmcacaajkaaGreat
open Go.RowKit
open Tb (D T)

theorem two_ok (n : Int) (h : 0 ≤ n ∧ n ≤ 65535) : IntKind.u8.wrap (n / 256) = n / 256 ∧ IntKind.u8.wrap n = n % 256 := by
  rw [IntKind.wrap_u8, IntKind.wrap_u8]
  omega
/-- A node of the call's own goes behind a list. -/
theorem info_def : (Tryz.prog.info? 60).map (fun i => (i.zero, i.size, i.bytes)) = some (some (.agg #[.bool false, .bool false, .int .i64 0, .int .i64 0]), 4, 24) := by kernel_rfl
theorem OwnsD.snoc {w : World} {B : Nat} {v : Value} {l : List D} {d : D} (h : w.ownsRow B 60 4 v (l.length + 1) (l.flatMap dc ++ dc d)) : OwnsD w B v (l ++ [d]) := by
  unfold OwnsD
  rw [List.length_append, List.flatMap_append]
  simpa using h
theorem defs_room {n : Nat} (h : n ≤ 100000) : n + 1 ≤ maxLen ∧ (n + 1) * 24 ≤ 140737488355328 := ⟨by unfold maxLen; omega, by omega⟩
theorem src_def (w : World) (d : D) (g n c : Nat) (hn : n = 1) (hd : AtD w g 0 d) : Src w (.slice (some ⟨g, 0, none⟩) n c) 4 1 (dc d) := by
  subst hn
  refine .inr ⟨_, c, rfl, rfl, fun j x hj => ?_, fun x hx => ?_⟩
  · match j, hj with
    | 0, hj => simp [dc] at hj; subst hj; exact hd.c0
    | 1, hj => simp [dc] at hj; subst hj; exact hd.c1
    | 2, hj => simp [dc] at hj; subst hj; exact hd.c2
    | 3, hj => simp [dc] at hj; subst hj; exact hd.c3
    | j + 4, hj => simp [dc] at hj
  · simp only [dc, List.mem_cons, List.not_mem_nil, or_false] at hx
    rcases hx with rfl | rfl | rfl | rfl <;> rfl
theorem atD_new (w : World) (d : D) (t : TypeId) (g : Nat) (hg : g = w.heap.size) : AtD (w.alloc (.cells #[.bool d.sy, .bool d.inf, .int .i64 d.li, .int .i64 d.sz] t)) g 0 d :=
  ⟨by rw [World.cell?_alloc_at _ _ _ _ hg]; rfl, by rw [World.cell?_alloc_at _ _ _ _ hg]; rfl, by rw [World.cell?_alloc_at _ _ _ _ hg]; rfl, by rw [World.cell?_alloc_at _ _ _ _ hg]; rfl⟩
end Go.Proofs.YtpdenmcacaajkaaGreat

/-! ### TbH -/
namespace Go.Proofs.YtpdenmcacaajkaaGreat
open Go.RowKit
open Tb (D T)

/-- What is written of a table, and the error. -/
def pkR (t : T) : List Int := if t.is then t.bytes else []
def pkE (t : T) : Int := if t.is then 0 else 1
def Pk (w : World) (t : T) (e : Ending) (w' : World) : Prop := ∃ v, e = .returned (.tuple #[v, .int .i64 (pkE t)]) ∧ OwnsL w' w.heap.size v (pkR t) ∧ Below w.heap.size w w'

end Go.Proofs.YtpdenmcacaajkaaGreat

/-! ### Mem -/
namespace Go.Proofs.YtpdenmcacaajkaaGreat
open Go.RowKit

/-- A block that is known whole. -/
def Blk (W : World) (g : Nat) (cs : Array Value) (t : TypeId) : Prop := W.heap[g]? = some (.cells cs t (0, 0))
section
variable {W W' : World} {g : Nat} {cs : Array Value} {t : TypeId}
theorem Blk.lt (h : Blk W g cs t) : g < W.heap.size := (Array.getElem?_eq_some_iff.1 h).1
theorem Blk.cell (h : Blk W g cs t) (i : Nat) {x : Value} (hx : cs[i]? = some x) : W.cell? ⟨g, i, none⟩ = some x := by
  rw [← hx]; simp [World.cell?, show W.heap[g]? = _ from h]
theorem Blk.frozen (h : Blk W g cs t) (i : Nat) : W.frozen? ⟨g, i, none⟩ = false := by simp [World.frozen?, show W.heap[g]? = _ from h]
theorem Blk.new (W : World) (g : Nat) (hg : g = W.heap.size) (cs : Array Value) (t : TypeId) : Blk (W.alloc (.cells cs t)) g cs t := by
  subst hg; exact heap_alloc_new W _
theorem Blk.below (h : Blk W g cs t) {B : Nat} (hb : Below B W W') (hB : g < B) : Blk W' g cs t := (hb.block g hB).trans h
theorem Blk.alloc (h : Blk W g cs t) (o : Obj) : Blk (W.alloc o) g cs t := (Below.heap_alloc W o g h.lt).trans h
theorem Blk.drew (h : Blk W g cs t) : Blk W.drew g cs t := h
theorem Blk.drewN (h : Blk W g cs t) (n : Nat) : Blk (W.drewN n) g cs t := h.below (below_drewN (Below.refl (g + 1) W) n) (Nat.lt_succ_self _)
theorem Blk.set (h : Blk W g cs t) (i : Nat) (x : Value) : Blk (W.setCell ⟨g, i, none⟩ x) g (cs.setIfInBounds i x) t := Joins.block_setCell h x
theorem Blk.eq {cs' : Array Value} (h : Blk W g cs t) (e : cs = cs') : Blk W g cs' t := e ▸ h
theorem Blk.other (h : Blk W g cs t) (p : Addr) (hp : g ≠ p.block) (x : Value) : Blk (W.setCell p x) g cs t := (Below.heap_setCell W p x g hp).trans h
end
/-- But for block g, all that there was is as it was. -/
def Only (g : Nat) (w w' : World) : Prop := w.grownBy w' (some g)
section
variable {g : Nat} {w w1 w2 : World}
theorem Only.refl (g : Nat) (w : World) : Only g w w := World.grownBy.refl _ _
theorem Only.set (h : Only g w w1) (i : Nat) (x : Value) : Only g w (w1.setCell ⟨g, i, none⟩ x) := ⟨h.os, h.tape, h.output, by simpa [World.setCell] using h.size, fun k hk hne => (Below.heap_setCell w1 ⟨g, i, none⟩ x k (fun e => hne (by rw [e]))).trans (h.block k hk hne)⟩
theorem Only.drew (h : Only g w w1) : Only g w w1.drew := ⟨h.os, h.tape, h.output, h.size, h.block⟩
theorem Only.trans (h : Only g w w1) (k : Only g w1 w2) : Only g w w2 := ⟨k.os.trans h.os, k.tape.trans h.tape, k.output.trans h.output, Nat.le_trans h.size k.size, fun i hi hne => (k.block i (Nat.lt_of_lt_of_le hi h.size) hne).trans (h.block i hi hne)⟩
theorem Only.below {B : Nat} (h : Only g w w1) (hB : B ≤ g) (hg : g < w.heap.size) : Below B w w1 := ⟨h.os, h.tape, h.output, h.size, fun i hi => h.block i (by omega) (by intro e; cases e; omega)⟩
theorem only_of_below (g : Nat) (h : Below w.heap.size w w1) : Only g w w1 := ⟨h.os, h.tape, h.output, h.size, fun i hi _ => h.block i hi⟩
theorem Blk.only {g' : Nat} {cs : Array Value} {t : TypeId} (h : Blk w g' cs t) (k : Only g w w1) (hne : g' ≠ g) : Blk w1 g' cs t := (k.block g' h.lt (by intro e; cases e; exact hne rfl)).trans h
end
end Go.Proofs.YtpdenmcacaajkaaGreat

/-! ### BlkA -/
namespace Go.Proofs.YtpdenmcacaajkaaGreat
open Go.RowKit
open Tb (D T)

section
variable {W W' : World} {g : Nat} {cs : Array Value} {t : TypeId}
theorem Blk.ext (h : Blk W g cs t) {v v' : Value} (hx : Ext W W' v v') (hne : v.ownBlock ≠ some g) : Blk W' g cs t := (hx.grown.block g h.lt (fun e => hne e.symm)).trans h
end
theorem blk4 (X : World) (g : Nat) (a b c d a' b' c' d' : Value) (t : TypeId) (h : Blk X g #[a, b, c, d] t) : Blk ((((X.setCell ⟨g, 0, none⟩ a').setCell ⟨g, 1, none⟩ b').setCell ⟨g, 2, none⟩ c').setCell ⟨g, 3, none⟩ d') g #[a', b', c', d'] t := by
  have := (((h.set 0 a').set 1 b').set 2 c').set 3 d'
  simpa using this
theorem OwnsD.setOther {W : World} {B : Nat} {v : Value} {l : List D} (h : OwnsD W B v l) (p : Addr) (x : Value) (hp : v.ownBlock ≠ some p.block) : OwnsD (W.setCell p x) B v l :=
  World.ownsRow.kept (row := some p.block) h ⟨rfl, rfl, rfl, by simp [World.setCell], fun k _ hk => Below.heap_setCell W p x k (fun e => hk (by rw [e]))⟩ (.inr hp)
theorem OwnsD.lt {w : World} {B : Nat} {v : Value} {l : List D} (h : OwnsD w B v l) : ∀ j, v.ownBlock = some j → B ≤ j ∧ j < w.heap.size := World.ownsRow.lt h

def sliceLen : Value → Nat
  | .slice _ n _ => n
  | _ => 0
theorem and_one (a : Int) (h : 0 ≤ a ∧ a < 256) : bits BinOp.and IntKind.u8 a 1 = a % 2 := by
  have : ∀ x : Fin 256, bits BinOp.and IntKind.u8 (x.val : Int) 1 = (x.val : Int) % 2 := by decide +kernel
  have := this ⟨a.toNat, by omega⟩
  simp only [Int.toNat_of_nonneg h.1] at this
  exact this
theorem and_two (a : Int) (h : 0 ≤ a ∧ a < 256) : bits BinOp.and IntKind.u8 a 2 = a / 2 % 2 * 2 := by
  have : ∀ x : Fin 256, bits BinOp.and IntKind.u8 (x.val : Int) 2 = (x.val : Int) / 2 % 2 * 2 := by decide +kernel
  have := this ⟨a.toNat, by omega⟩
  simp only [Int.toNat_of_nonneg h.1] at this
  exact this

end Go.Proofs.YtpdenmcacaajkaaGreat

/-! ### Blk -/

/-! ### TbJ -/
namespace Go.Proofs.YtpdenmcacaajkaaGreat
open Go.RowKit
open Tb (D T)

def someD (i : Nat) : D := ⟨decide ((i : Int) < 4), ((i : Int) % 2 == 0), 20 + (i : Int), 1 + (i : Int) % 8⟩
def someL (n : Nat) : List D := (List.range n).map someD
def someT (n : Nat) : T := ⟨someL n, 1, 10, 20⟩
theorem someL_length (n : Nat) : (someL n).length = n := by simp [someL]
theorem someL_succ (n : Nat) : someL (n + 1) = someL n ++ [someD n] := by simp [someL, List.range_succ]

end Go.Proofs.YtpdenmcacaajkaaGreat

/-! ### TbK -/
namespace Go.Proofs.YtpdenmcacaajkaaGreat
open Go.RowKit
open Tb (D T)

theorem someT_is : ∀ n, 4 ≤ n → n ≤ 8 → (someT n).is = true := by
  intro n h4 h8
  have : n = 4 ∨ n = 5 ∨ n = 6 ∨ n = 7 ∨ n = 8 := by omega
  rcases this with rfl | rfl | rfl | rfl | rfl <;> decide +kernel
theorem known_len : (someT 4).bytes.length = 27 := by decide +kernel
theorem known_head : (someT 4).bytes.take 4 = [77, 84, 82, 78] := by decide +kernel
theorem text_mtrn : textL [77, 84, 82, 78] = { data := #[77, 84, 82, 78] } := by decide +kernel
/-- What is seen of a list's first part. -/
theorem OwnsL.first {w : World} {B : Nat} {g n c : Nat} {l : List Int} (h : OwnsL w B (.slice (some ⟨g, 0, none⟩) n c) l) (m : Nat) (hm : m ≤ l.length) : SeesL w w.heap.size (.slice (some ⟨g, 0, none⟩) m c) (l.take m) := by
  obtain ⟨A, c', hv, h1, h2, h3, h4⟩ := h.sees.at_
  simp only [Value.slice.injEq] at hv
  obtain ⟨rfl, rfl, rfl⟩ := hv
  have hl : (l.take m).length = m := by rw [List.length_take]; omega
  refine ⟨_, c, by rw [hl], by omega, h2, ?_, fun h => by cases h⟩
  rw [hl]
  exact (h3.less hm).alike fun k hk => by unfold bv; simp [List.getD_eq_getElem?_getD, hk]

end Go.Proofs.YtpdenmcacaajkaaGreat

/-! ### TbL -/
namespace Go.Proofs.YtpdenmcacaajkaaGreat
open Go.RowKit
open Tb (D T)

def csV (r s m : Int) : Value := .agg #[.int .i64 r, .int .i64 s, .int .i64 m]
/-- The next slot, and round. -/
def nxS (n s : Int) : Int := if s + 1 < n then s + 1 else 0
def nxR (n r s : Int) : Int := if s + 1 < n then r else if r < 65535 then r + 1 else 0

theorem mask16 (a : Int) : bits BinOp.and IntKind.i64 a 65535 = (((a % 65536).toNat : Nat) : Int) := by
  show IntKind.i64.wrap ((BitVec.ofInt 64 a &&& BitVec.ofInt 64 65535).toNat : Int) = _
  rw [BitVec.toNat_and, show (BitVec.ofInt 64 65535).toNat = 2 ^ 16 - 1 by decide, Nat.and_two_pow_sub_one_eq_mod, BitVec.toNat_ofInt, IntKind.wrap_i64]
  omega

set_option maxHeartbeats 4000000 in
theorem next_tb (A : Option Addr) (n c : Nat) (dr wi lm r s m : Int) (w : World) (hn : 1 ≤ n ∧ n ≤ 8) (hs : 0 ≤ s ∧ s < n) (hr : 0 ≤ r ∧ r ≤ 65535) :
    Calls Tryz.prog 122 #[.agg #[.slice A n c, .int .i64 dr, .int .i64 wi, .int .i64 lm], csV r s m] w fun e w' => e = .returned (csV (nxR n r s) (nxS n s) m) ∧ Below w.heap.size w w' := by
  unfold csV nxR nxS
  have hcase : s + 1 < n ∨ (¬ s + 1 < n ∧ r < 65535) ∨ (¬ s + 1 < n ∧ ¬ r < 65535) := by omega
  rcases hcase with c1 | ⟨c1, c2⟩ | ⟨c1, c2⟩
  · rw [if_pos c1, if_pos c1]
    have q1 : s < (n : Int) - 1 := by omega
    go_enter Tryz.func122, Tryz.ntmps122
    go_wp2
    refine bodyPost_ret (v := .agg #[.int .i64 r, .int .i64 (s + 1), .int .i64 m]) ?_ rfl ⟨rfl, ?_⟩
    · rw [results_cell rfl]
      go_simp
    · (repeat' (first | (with_reducible exact Below.refl _ _) | (with_reducible refine Below.setCell ?_ ?_ _) | (with_reducible refine Below.alloc ?_ ?_ _) | exact Nat.le_refl _ | (simp; done) | (simp; omega)))
  · rw [if_neg c1, if_neg c1, if_pos c2]
    have q1 : ¬ s < (n : Int) - 1 := by omega
    go_enter Tryz.func122, Tryz.ntmps122
    go_wp2
    refine bodyPost_ret (v := .agg #[.int .i64 (r + 1), .int .i64 0, .int .i64 m]) ?_ rfl ⟨rfl, ?_⟩
    · rw [results_cell rfl]
      go_simp
    · (repeat' (first | (with_reducible exact Below.refl _ _) | (with_reducible refine Below.setCell ?_ ?_ _) | (with_reducible refine Below.alloc ?_ ?_ _) | exact Nat.le_refl _ | (simp; done) | (simp; omega)))
  · rw [if_neg c1, if_neg c1, if_neg c2]
    have q1 : ¬ s < (n : Int) - 1 := by omega
    go_enter Tryz.func122, Tryz.ntmps122
    go_wp2
    refine bodyPost_ret (v := .agg #[.int .i64 0, .int .i64 0, .int .i64 m]) ?_ rfl ⟨rfl, ?_⟩
    · rw [results_cell rfl]
      go_simp
    · (repeat' (first | (with_reducible exact Below.refl _ _) | (with_reducible refine Below.setCell ?_ ?_ _) | (with_reducible refine Below.alloc ?_ ?_ _) | exact Nat.le_refl _ | (simp; done) | (simp; omega)))
set_option maxHeartbeats 4000000 in
theorem next_rf (A : Option Addr) (n c : Nat) (dr wi lm r s m : Int) (w : World) (hn : 1 ≤ n ∧ n ≤ 8) (hs : 0 ≤ s ∧ s < n) (hr : 0 ≤ r ∧ r ≤ 65535) :
    Calls Tryz.prog 132 #[.agg #[.slice A n c, .int .i64 dr, .int .i64 wi, .int .i64 lm], csV r s m] w fun e w' => e = .returned (csV (nxR n r s) (nxS n s) m) ∧ Below w.heap.size w w' := by
  unfold csV nxR nxS
  by_cases c1 : s + 1 < n
  · rw [if_pos c1, if_pos c1]
    have q1 : ¬ (n : Int) ≤ s + 1 := by omega
    go_enter Tryz.func132, Tryz.ntmps132
    go_wp2
    refine bodyPost_ret (v := .agg #[.int .i64 r, .int .i64 (s + 1), .int .i64 m]) ?_ rfl ⟨rfl, ?_⟩
    · rw [results_cell rfl]
      go_simp
    · (repeat' (first | (with_reducible exact Below.refl _ _) | (with_reducible refine Below.setCell ?_ ?_ _) | (with_reducible refine Below.alloc ?_ ?_ _) | exact Nat.le_refl _ | (simp; done) | (simp; omega)))
  · rw [if_neg c1, if_neg c1]
    have q1 : (n : Int) ≤ s + 1 := by omega
    have hR : (if r < 65535 then r + 1 else 0) = bits BinOp.and IntKind.i64 (r + 1) 65535 := by rw [mask16]; split <;> omega
    rw [hR]
    clear hR
    go_enter Tryz.func132, Tryz.ntmps132
    go_wp2
    refine bodyPost_ret (v := .agg #[.int .i64 (bits BinOp.and IntKind.i64 (r + 1) 65535), .int .i64 0, .int .i64 m]) ?_ rfl ⟨rfl, ?_⟩
    · rw [results_cell rfl]
      go_simp
    · (repeat' (first | (with_reducible exact Below.refl _ _) | (with_reducible refine Below.setCell ?_ ?_ _) | (with_reducible refine Below.alloc ?_ ?_ _) | exact Nat.le_refl _ | (simp; done) | (simp; omega)))
end Go.Proofs.YtpdenmcacaajkaaGreat
