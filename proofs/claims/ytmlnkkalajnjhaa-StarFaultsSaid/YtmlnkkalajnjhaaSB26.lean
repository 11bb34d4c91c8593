/- Texts TbB, TbC, TbD, TbE, GdE in one. For what each says in front of its theorems. -/
import Derived.Deep.RegionHeld3
import Derived.Deep.RegionLaw
import Derived.RegionTactic
import Derived.BigQuiet
import Derived.Test.YtmlnkkalajnjhaaSB25
/-! ### TbB -/
namespace Go.Proofs.Ytmlnkkalajnjhaa
open Go.RowKit
open Tb (D T)

theorem within_tb (n a b : Int) (w : World) : Calls Try.prog 51 #[.int .i64 n, .int .i64 a, .int .i64 b] w fun e w' => e = .returned (.bool (Tb.wi n a b)) ∧ w = w' := by
  unfold Tb.wi
  by_cases h : a ≤ n
  all_goals
    go_enter Try.func51, Try.ntmps51
    go_wp2
    go_ret
    exact ⟨by simp [*] <;> omega, rfl⟩
theorem asks_tb (d : D) (n : Int) (q : Nat) (w : World) (hq : w.cell? ⟨q, 0, none⟩ = some (.int .i64 n)) :
    Calls Try.prog 74 #[dV d, .pointer (some ⟨q, 0, none⟩)] w fun e w' => e = .returned (.bool (decide (d.li = n))) ∧ Below w.heap.size w w' := by
  unfold dV
  have hq2 := fun o => Lib.cell?_alloc_some o hq
  go_enter Try.func74, Try.ntmps74
  go_wp2
  go_ret
  exact ⟨rfl, (Below.refl _ _).alloc (Nat.le_refl _) _⟩

theorem index_tb (A : Option Addr) (c : Nat) (l : List D) (n : Int) (q : Nat) (w : World) (hs : SeesD w w.heap.size A l) (hlen : l.length ≤ c) (hc : c ≤ maxLen) (hq : w.cell? ⟨q, 0, none⟩ = some (.int .i64 n)) :
    Calls Try.prog 83 #[.slice A l.length c, .func (.func 74) #[] #[.pointer (some ⟨q, 0, none⟩)]] w fun e w' =>
      ∃ r : Int, e = .returned (.int .i64 r) ∧ decide (0 ≤ r) = Tb.has l l.length n ∧ Below w.heap.size w w' := by
  have hqlt := World.block_lt_of_cell? w _ hq
  unfold maxLen at hc
  have h0 := Lib.hid (Tb.has_zero l n)
  have hS := Lib.hid (Tb.has_succ l)
  go_enter Try.func83, Try.ntmps83
  go_wp2
  go_loopw [8] (fun i wr => ∃ k : Nat, k ≤ l.length ∧ i = .int .i64 k ∧ Hid (Tb.has l k n = false) ∧ Below w.heap.size w wr) (fun i _ => l.length - (intOf i).toNat)
  case atStart => exact ⟨0, by omega, rfl, h0, Below.refl _ _⟩
  case round =>
    obtain ⟨k, hk, rfl, hn, hb⟩ := hrel
    by_cases hlt : k < l.length
    · obtain ⟨b, off, rfl, hbb, hd⟩ := hs.below hb (by omega)
      obtain ⟨e0, e1, e2, e3⟩ := hd k hlt
      have q1 : decide ((k : Int) < (l.length : Nat)) = true := by simp; omega
      have hq2 := (hb.cell (p := ⟨q, 0, none⟩) hqlt).trans hq
      have hcall := Lib.hid (asks_tb (l.getD k default) n q wr hq2)
      unfold dV at hcall
      generalize hdd : l.getD k default = d at *
      have hdd := Lib.hid hdd
      cases hdn : decide (d.li = n)
      all_goals
        rw [hdn] at hcall
        go_wp2_with fail
        refine hcall.out.mono ?_
        rintro e w1 ⟨rfl, hb1⟩
        have hb2 := hb.trans (hb1.mono hb.size)
        clear hcall
        go_wp2
      · go_roundw
        case rel => exact ⟨k + 1, by omega, by go_num, Lib.hid (by rw [hS.out k hlt, hn.out, hdd.out]; exact hdn), hb2⟩
        case measure => simp [intOf]; omega
      · go_ret
        refine ⟨k, rfl, ?_, hb2⟩
        have hT : Tb.has l (k + 1) n = true := by rw [hS.out k hlt, hdd.out, hdn]; simp
        rw [Tb.has_more hlt hT]
        simp
    · obtain rfl : k = l.length := by omega
      have q1 : decide ((l.length : Int) < (l.length : Nat)) = false := by simp
      go_wp2
      go_ret
      exact ⟨-1, rfl, by rw [hn.out]; decide, hb⟩
end Go.Proofs.Ytmlnkkalajnjhaa

/-! ### TbC -/
namespace Go.Proofs.Ytmlnkkalajnjhaa
open Go.RowKit
open Tb (D T)

theorem contains_tb (A : Option Addr) (c : Nat) (l : List D) (n : Int) (q : Nat) (w : World) (hs : SeesD w w.heap.size A l) (hlen : l.length ≤ c) (hc : c ≤ maxLen) (hq : w.cell? ⟨q, 0, none⟩ = some (.int .i64 n)) :
    Calls Try.prog 73 #[.slice A l.length c, .func (.func 74) #[] #[.pointer (some ⟨q, 0, none⟩)]] w fun e w' =>
      e = .returned (.bool (Tb.has l l.length n)) ∧ Below w.heap.size w w' := by
  have hI := Lib.hid (index_tb A c l n q w hs hlen hc hq)
  generalize Tb.has l l.length n = h at *
  go_enter Try.func73, Try.ntmps73
  go_wp2_with fail
  refine hI.out.mono ?_
  rintro e w1 ⟨r, rfl, hr, hb⟩
  have hr2 : decide (r ≥ 0) = h := by rw [← hr]
  clear hI
  go_wp2
  go_ret
  exact ⟨by simp [← hr], hb⟩
theorem listens_tb (A : Option Addr) (c : Nat) (l : List D) (n : Int) (w : World) (hs : SeesD w w.heap.size A l) (hlen : l.length ≤ c) (hc : c ≤ maxLen) :
    Calls Try.prog 63 #[.slice A l.length c, .int .i64 n] w fun e w' => e = .returned (.bool (Tb.has l l.length n)) ∧ Below w.heap.size w w' := by
  have hb0 := (Below.refl w.heap.size w).alloc (Nat.le_refl _) (.cells #[.int .i64 n] 3)
  have hI := contains_tb A c l n w.heap.size (w.alloc (.cells #[.int .i64 n] 3)) ((hs.below hb0).more (by simp)) hlen hc (by rw [World.cell?_alloc_at _ _ _ _ rfl]; rfl)
  have hI := Lib.hid hI
  have hmf : ∀ (fn : Fn) (first cap : Array Value) (w : World), (Instr.makeFunc fn first cap).run Try.prog w = .ok (.func fn first cap) w := fun _ _ _ _ => rfl
  generalize Tb.has l l.length n = h at *
  go_enter Try.func63, Try.ntmps63
  go_wp2_with fail
  refine hI.out.mono ?_
  rintro e w1 ⟨rfl, hb⟩
  have hb1 := hb0.trans (hb.mono (by simp))
  clear hI
  go_wp2
  go_ret
  exact ⟨rfl, hb1⟩
end Go.Proofs.Ytmlnkkalajnjhaa

/-! ### TbD -/
namespace Go.Proofs.Ytmlnkkalajnjhaa
open Go.RowKit
open Tb (D T)

/-- A new block of four cells, and what reads it behind calls. -/
structure Box4 (w w0 : World) (x0 x1 x2 x3 : Value) : Prop where
  size : w0.heap.size = w.heap.size + 1
  below : Below w.heap.size w w0
  cell : ∀ W, Below w0.heap.size w0 W → w.heap.size < W.heap.size ∧ W.cell? ⟨w.heap.size, 0, none⟩ = some x0 ∧ W.cell? ⟨w.heap.size, 1, none⟩ = some x1 ∧ W.cell? ⟨w.heap.size, 2, none⟩ = some x2 ∧ W.cell? ⟨w.heap.size, 3, none⟩ = some x3
theorem bcelld {W w1 : World} {B : Nat} (hb : Below B W w1) : ∀ b o, b < B → w1.cell? ⟨b, o, none⟩ = W.cell? ⟨b, o, none⟩ := fun b o h => hb.cell (p := ⟨b, o, none⟩) h
theorem box4 (w : World) (x0 x1 x2 x3 : Value) (t : TypeId) : Box4 w (w.alloc (.cells #[x0, x1, x2, x3] t)) x0 x1 x2 x3 := by
  refine ⟨by simp, (Below.refl _ _).alloc (Nat.le_refl _) _, fun W hb => ?_⟩
  have hz := hb.size
  have hc := bcelld hb
  simp only [World.size_alloc] at hz
  refine ⟨by omega, ?_, ?_, ?_, ?_⟩ <;> (rw [hc _ _ (by simp), World.cell?_alloc_at _ _ _ _ rfl]; rfl)

set_option maxRecDepth 100000 in
set_option maxHeartbeats 2000000 in
theorem areNodes_tb (A : Option Addr) (c : Nat) (l : List D) (w : World) (hs : SeesD w w.heap.size A l) (hlen : l.length ≤ c) (hc : c ≤ maxLen) :
    Calls Try.prog 50 #[.slice A l.length c] w fun e w' => e = .returned (.bool (Tb.are l)) ∧ Below w.heap.size w w' := by
  have hin := fun n a b W => Lib.hid (within_tb n a b W)
  have hli := fun k (_ : k < l.length) n W (hb : Below w.heap.size w W) => listens_tb A c (l.take k) n W
  have hc' := hc
  unfold maxLen at hc
  unfold Tb.are
  cases hn : Tb.wi l.length 4 8
  · have h1 := Lib.hid hn
    clear hn
    go_enter Try.func50, Try.ntmps50
    go_wp2_with fail
    refine (hin _ _ _ _).out.mono ?_
    rintro e w1 ⟨rfl, rfl⟩
    rw [h1.out]
    go_wp2
    go_ret
    exact ⟨by simp, Below.refl _ _⟩
  · have h1 := Lib.hid hn
    have hn8 : l.length ≤ 8 := by have := (Tb.wi_iff _ _ _).1 hn; omega
    have hn4 : 4 ≤ l.length := by have := (Tb.wi_iff _ _ _).1 hn; omega
    clear hn
    go_enter Try.func50, Try.ntmps50
    go_wp2_with fail
    refine (hin _ _ _ _).out.mono ?_
    rintro e w1 ⟨rfl, rfl⟩
    rw [h1.out]
    go_wp2
    have hS := Lib.hid (Tb.oks_succ l)
    have hbad := fun k hk h => Lib.hid (Tb.oks_bad (l := l) (k := k) hk h)
    have hsy := Lib.hid (Tb.syn_le l)
    go_loopw [3, 12] (fun s i wr => ∃ k : Nat, k ≤ l.length ∧ i = .int .i64 k ∧ s = .int .i64 (Tb.syn l k) ∧ Hid (Tb.oks l k = true) ∧ Below w.heap.size w wr) (fun _ i _ => l.length - (intOf i).toNat)
    case atStart => exact ⟨0, by omega, rfl, rfl, rfl, Below.refl _ _⟩
    case round =>
      obtain ⟨k, hk, rfl, rfl, hok, hb⟩ := hrel
      have hsk := hsy.out k
      by_cases hlt : k < l.length
      · obtain ⟨b, off, rfl, hbb, hd⟩ := hs.below hb (by omega)
        obtain ⟨e0, e1, e2, e3⟩ := hd k hlt
        have q1 : decide ((k : Int) < (l.length : Nat)) = true := by simp; omega
        have hL := hli k hlt (l.getD k default).li
        have htl : (l.take k).length = k := by rw [List.length_take]; omega
        have hhas := Tb.has_take l k (by omega) (l.getD k default).li
        rw [htl] at hL hhas
        have hokk : Tb.ok l k = (Tb.wi (l.getD k default).li (2 * l.length) 200 && Tb.wi (l.getD k default).sz 1 8 && !Tb.has l k (l.getD k default).li) := rfl
        rw [hhas] at hL
        have hsyn0 : Tb.syn l (k + 1) = Tb.syn l k + (if (l.getD k default).sy then 1 else 0) := rfl
        generalize hdd0 : l.getD k default = d at *
        have hdd := Lib.hid hdd0
        have hsyn := Lib.hid hsyn0
        clear hhas hdd0 hsyn0
        generalize Tb.has l k d.li = h at *
        have hbox := Lib.hid (box4 wr (.bool d.sy) (.bool d.inf) (.int .i64 d.li) (.int .i64 d.sz) 80)
        have hb0 := hb.trans (hbox.out.below.mono hb.size)
        have hm2 : IntKind.i64.wrap (2 * (l.length : Int)) = 2 * l.length := IntWalk.i64_in _ (by omega)
        have hq : ∀ n a b t, Tb.wi n a b = t → ∀ W, Hid (Calls Try.prog 51 #[.int .i64 n, .int .i64 a, .int .i64 b] W fun e w' => e = .returned (.bool t) ∧ w' = W) := by
          rintro n a b t rfl W
          exact (hin n a b W).out.mono fun e w' h => ⟨h.1, h.2.symm⟩
        cases ha : Tb.wi d.li (2 * l.length) 200
        · have hA := hq _ _ _ _ ha
          have hfin := hbad k hlt (by rw [hokk, ha]; rfl)
          go_wp2_with fail
          generalize wr.alloc (.cells #[.bool d.sy, .bool d.inf, .int .i64 d.li, .int .i64 d.sz] 80) = w0 at *
          obtain ⟨hz, c0, c1, c2, c3⟩ := hbox.out.cell w0 (Below.refl _ _)
          clear hs hd hL hli hbad hS hsy hbox e0 e1 e2 e3 ha hq hin
          go_quiet (first | (go_at_call 51; refine Calls.quiet_of_same (hA _).out))
          go_wp2
          go_ret
          exact ⟨by rw [hfin.out]; simp, below_drewN hb0 _⟩
        · cases hz : Tb.wi d.sz 1 8
          · have hA := hq _ _ _ _ ha
            have hZ := hq _ _ _ _ hz
            have hfin := hbad k hlt (by rw [hokk, ha, hz]; rfl)
            go_wp2_with fail
            generalize wr.alloc (.cells #[.bool d.sy, .bool d.inf, .int .i64 d.li, .int .i64 d.sz] 80) = w0 at *
            obtain ⟨hz, c0, c1, c2, c3⟩ := hbox.out.cell w0 (Below.refl _ _)
            clear hs hd hL hli hbad hS hsy hbox e0 e1 e2 e3 ha hq hin
            go_quiet (first | (go_at_call 51; first | with_reducible refine Calls.quiet_of_same (hA _).out | refine Calls.quiet_of_same (hZ _).out))
            go_wp2
            go_ret
            exact ⟨by rw [hfin.out]; simp, below_drewN hb0 _⟩
          · have hA := Lib.hid ha
            have hZ := Lib.hid hz
            have hokk2 := Lib.hid (show Tb.ok l k = !h by rw [hokk, ha, hz]; simp)
            clear ha hz hokk hq
            go_wp2_with fail
            clear e0 e1 e2 e3
            generalize wr.alloc (.cells #[.bool d.sy, .bool d.inf, .int .i64 d.li, .int .i64 d.sz] 80) = w0 at *
            have K := Lib.hid (show ∀ W, Below w0.heap.size w0 W → W.cell? ⟨wr.heap.size, 2, none⟩ = some (.int .i64 d.li) ∧ W.cell? ⟨wr.heap.size, 3, none⟩ = some (.int .i64 d.sz) from fun W h => (hbox.out.cell W h).2.2.2)
            have hb00 := Below.refl w0.heap.size w0
            have hL2 : ∀ W, Below w.heap.size w W → Hid (Calls Try.prog 63 #[.slice (some ⟨b, off, none⟩) k c, .int .i64 d.li] W fun e w' => e = .returned (.bool h) ∧ Below W.heap.size W w') := fun W hbw => hL W hbw (SeesD.more (fun h0 => by
              obtain ⟨b', off', hA', hb', hc'⟩ := (hs.below hbw) (by omega)
              refine ⟨b', off', hA', hb', fun j hj => ?_⟩
              have := hc' j (by rw [htl] at hj; omega)
              rw [htl] at hj
              have e : (l.take k).getD j default = l.getD j default := by simp [List.getD_eq_getElem?_getD, hj]
              rw [e]; exact this) hbw.size) (by omega) hc'
            clear hL hli hs hd
            have q2 : (0 : Int) ≤ (k : Nat) := by omega
            have q3 : ((k : Nat) : Int) ≤ (c : Nat) := by omega
            have q4 : IntKind.i64.wrap (k : Nat) = k := IntWalk.i64_in _ (by omega)
            cases h
            all_goals
              go_region_held3 (fun W => W.cell? ⟨wr.heap.size, 2, none⟩ = some (.int .i64 d.li) ∧ W.cell? ⟨wr.heap.size, 3, none⟩ = some (.int .i64 d.sz))
                ((refine K.out _ ?_; repeat' (first | exact hb3 | exact hb00 | (with_reducible refine Below.drew ?_))))
                (first
                  | ((go_at_call 51; refine (hin _ _ _ _).out.mono ?_; rintro e w3 ⟨rfl, rfl⟩; (first | rw [hA.out] | rw [hZ.out])))
                  | ((go_at_call 63; refine (hL2 _ ?_).out.mono ?_); (repeat' (first | exact hb0 | (with_reducible refine Below.drew ?_))); rintro e w3 ⟨rfl, hb⟩; have hb3 := hb00.drew.trans (hb.mono hb00.size))
                  | fail)
            · have hokS := hS.out k
              rw [hok.out, hokk2.out] at hokS
              have hokS := Lib.hid hokS
              have c0 := (hbox.out.cell _ hb3).2.1
              go_wp2_with fail
              all_goals
                refine ⟨⟨k + 1, by omega, by go_num, ?_, Lib.hid (by rw [hokS.out]; rfl), hb0.trans (hb3.mono hb0.size)⟩, by simp [intOf]; omega⟩
                rw [hsyn.out]
                simp [*]
            · have hfin := hbad k hlt (by rw [hokk2.out]; rfl)
              go_wp2
              go_ret
              exact ⟨by rw [hfin.out]; simp, hb0.trans (hb3.mono hb0.size)⟩
      · obtain rfl : k = l.length := by omega
        have q1 : decide ((l.length : Int) < (l.length : Nat)) = false := by simp
        have hle := hsy.out l.length
        go_wp2
        go_ret
        exact ⟨by rw [hok.out]; simp; omega, hb⟩
end Go.Proofs.Ytmlnkkalajnjhaa

/-! ### TbE -/
namespace Go.Proofs.Ytmlnkkalajnjhaa
open Go.RowKit
open Tb (D T)

/-- The bounds of an int. -/
def i64 (x : Int) : Prop := -9223372036854775808 ≤ x ∧ x ≤ 9223372036854775807

set_option maxHeartbeats 2000000 in
theorem is_tb (t : T) (v : Value) (w : World) (B : Nat) (hB : B ≤ w.heap.size) (hv : SeesT w B v t.ns) :
    Calls Try.prog 33 #[tabV t v] w fun e w' => e = .returned (.bool t.is) ∧ Below w.heap.size w w' := by
  obtain ⟨A, c, rfl, h1, h2, h3, -⟩ := hv.at_
  obtain ⟨ns, dr, wi, lm⟩ := t
  simp only at h1 h3
  have hn := fun W (hb : Below w.heap.size w W) => areNodes_tb A c ns W (((h3.more hB).below hb).more hb.size) h1 h2
  have hin := fun n a b W => Lib.hid (within_tb n a b W)
  have hres : T.is ⟨ns, dr, wi, lm⟩ = (Tb.are ns && (Tb.wi dr 0 1000 && (Tb.wi wi (4 * dr + 2) 1000 && Tb.wi lm wi 1000))) := rfl
  rw [hres]
  clear hres hv h3
  unfold maxLen at h2
  unfold tabV
  simp only
  generalize Tb.are ns = q at *
  have hn := fun W hb => Lib.hid (hn W hb)
  generalize ns.length = n at *
  have hq : ∀ n a b t, Tb.wi n a b = t → ∀ W, Hid (Calls Try.prog 51 #[.int .i64 n, .int .i64 a, .int .i64 b] W fun e w' => e = .returned (.bool t) ∧ W = w') := by
    rintro n a b t rfl W
    exact hin n a b W
  have hbox := Lib.hid (box4 w (.slice A n c) (.int .i64 dr) (.int .i64 wi) (.int .i64 lm) 41)
  cases q
  · go_enter Try.func33, Try.ntmps33
    go_wp2_with fail
    refine (hn _ hbox.out.below).out.mono ?_
    rintro e w1 ⟨rfl, hb⟩
    go_wp2
    go_ret
    exact ⟨rfl, hbox.out.below.trans (hb.mono hbox.out.below.size)⟩
  cases q1 : Tb.wi dr 0 1000
  · have f1 := hq _ _ _ _ q1
    clear q1 hq hin
    go_enter Try.func33, Try.ntmps33
    go_wp2_with fail
    refine (hn _ hbox.out.below).out.mono ?_
    rintro e w1 ⟨rfl, hb⟩
    obtain ⟨-, c0, c1, c2, c3⟩ := hbox.out.cell w1 hb
    go_wp2_with fail
    refine (f1 _).out.mono ?_
    rintro e w2 ⟨rfl, rfl⟩
    go_wp2
    go_ret
    exact ⟨rfl, hbox.out.below.trans (hb.mono hbox.out.below.size)⟩
  have wr0 : IntKind.i64.wrap (4 * dr) = 4 * dr := IntWalk.i64_in _ (by have := (Tb.wi_iff _ _ _).1 q1; omega)
  have wr1 : IntKind.i64.wrap (4 * dr + 2) = 4 * dr + 2 := IntWalk.i64_in _ (by have := (Tb.wi_iff _ _ _).1 q1; omega)
  cases q2 : Tb.wi wi (4 * dr + 2) 1000
  · have f1 := hq _ _ _ _ q1
    have f2 := hq _ _ _ _ q2
    clear q1 q2 hq hin
    go_enter Try.func33, Try.ntmps33
    go_wp2_with fail
    refine (hn _ hbox.out.below).out.mono ?_
    rintro e w1 ⟨rfl, hb⟩
    obtain ⟨-, c0, c1, c2, c3⟩ := hbox.out.cell w1 hb
    go_wp2_with fail
    refine (f1 _).out.mono ?_
    rintro e w2 ⟨rfl, rfl⟩
    go_wp2_with fail
    refine (f2 _).out.mono ?_
    rintro e w2 ⟨rfl, rfl⟩
    go_wp2
    go_ret
    exact ⟨rfl, hbox.out.below.trans (hb.mono hbox.out.below.size)⟩
  · have f1 := hq _ _ _ _ q1
    have f2 := hq _ _ _ _ q2
    clear q1 q2 hq
    generalize hr : Tb.wi lm wi 1000 = r at *
    have f3 := fun W => hin lm wi 1000 W
    rw [hr] at f3
    clear hr hin
    go_enter Try.func33, Try.ntmps33
    go_wp2_with fail
    refine (hn _ hbox.out.below).out.mono ?_
    rintro e w1 ⟨rfl, hb⟩
    obtain ⟨-, c0, c1, c2, c3⟩ := hbox.out.cell w1 hb
    go_wp2_with fail
    refine (f1 _).out.mono ?_
    rintro e w2 ⟨rfl, rfl⟩
    go_wp2_with fail
    refine (f2 _).out.mono ?_
    rintro e w2 ⟨rfl, rfl⟩
    go_wp2_with fail
    refine (f3 _).out.mono ?_
    rintro e w2 ⟨rfl, rfl⟩
    go_wp2
    go_ret
    exact ⟨rfl, hbox.out.below.trans (hb.mono hbox.out.below.size)⟩
end Go.Proofs.Ytmlnkkalajnjhaa

/-! ### GdE -/
namespace Go.Proofs.Ytmlnkkalajnjhaa
open Go.RowKit
open Tb (D T)

/-- A guardian of a table. -/
def newG (t : T) : G := { sy := fun k => (t.ns.getD k default).sy, n := t.ns.length, wi := t.wi, lm := t.lm, l := [], now := 0, kn := false, slot := 0, si := 0 }
/-- With the first k nodes' syncs alone. -/
def partG (t : T) (k : Nat) : G := { newG t with sy := fun j => if j < k then (t.ns.getD j default).sy else false }
theorem partG_all (t : T) : partG t t.ns.length = newG t := by
  have e : (fun j => if j < t.ns.length then (t.ns.getD j default).sy else false) = fun j => (t.ns.getD j default).sy := by
    funext j
    split
    · rfl
    · rename_i h
      rw [List.getD_eq_getElem?_getD, List.getElem?_eq_none (by omega)]
      rfl
  unfold partG
  rw [e]
  rfl
theorem partG_next (t : T) (k : Nat) (hk : k < 8) : (grd (partG t k)).setIfInBounds k (.bool (t.ns.getD k default).sy) = grd (partG t (k + 1)) := by
  rcases (by omega : k = 0 ∨ k = 1 ∨ k = 2 ∨ k = 3 ∨ k = 4 ∨ k = 5 ∨ k = 6 ∨ k = 7) with rfl | rfl | rfl | rfl | rfl | rfl | rfl | rfl <;> simp [grd, partG, newG]
set_option maxRecDepth 100000 in
set_option maxHeartbeats 4000000 in
theorem new_no (t : T) (v : Value) (w : World) (hv : SeesT w w.heap.size v t.ns) (ht : t.is = false) :
    Calls Try.prog 34 #[tabV t v] w fun e w' => e = .returned (.tuple #[.pointer none, .int .i64 1]) ∧ Below w.heap.size w w' := by
  obtain ⟨A, c, rfl, -, -, -, -⟩ := hv.at_
  have hB0 := (Below.refl w.heap.size w).alloc (Nat.le_refl _) (.cells #[.slice A t.ns.length c, .int .i64 t.dr, .int .i64 t.wi, .int .i64 t.lm] 41)
  have hX := Blk.new w _ rfl #[.slice A t.ns.length c, .int .i64 t.dr, .int .i64 t.wi, .int .i64 t.lm] 41
  have hI := Lib.hid (is_tb t (.slice A t.ns.length c) (w.alloc (.cells #[.slice A t.ns.length c, .int .i64 t.dr, .int .i64 t.wi, .int .i64 t.lm] 41)) w.heap.size (by simp) (hv.below hB0))
  rw [ht] at hI
  unfold tabV at hI ⊢
  clear hv ht
  obtain ⟨ns, dr, wi, lm⟩ := t
  simp only at hI hX hB0 ⊢
  have t0 := hX.cell 0 (x := .slice A ns.length c) rfl
  have t1 := hX.cell 1 (x := .int .i64 dr) rfl
  have t2 := hX.cell 2 (x := .int .i64 wi) rfl
  have t3 := hX.cell 3 (x := .int .i64 lm) rfl
  go_enter Try.func34, Try.ntmps34
  go_wp2_with fail
  refine hI.out.mono ?_
  rintro e w2 ⟨rfl, hb2⟩
  go_wp2
  go_ret2
  exact ⟨rfl, hB0.trans (hb2.mono hB0.size)⟩
set_option maxRecDepth 100000 in
set_option maxHeartbeats 4000000 in
theorem new_yes (t : T) (v : Value) (w : World) (hv : SeesT w w.heap.size v t.ns) (ht : t.is = true) :
    Calls Try.prog 34 #[tabV t v] w fun e w' => ∃ g, e = .returned (.tuple #[.pointer (some ⟨g, 0, none⟩), .int .i64 0]) ∧ w.heap.size ≤ g ∧ GAt w' g (newG t) ∧ Below w.heap.size w w' := by
  have hmay := Tb.T.may ht
  obtain ⟨A, c, rfl, v1, v2, v3, -⟩ := hv.at_
  have hB0 := (Below.refl w.heap.size w).alloc (Nat.le_refl _) (.cells #[.slice A t.ns.length c, .int .i64 t.dr, .int .i64 t.wi, .int .i64 t.lm] 41)
  have hX := Blk.new w _ rfl #[.slice A t.ns.length c, .int .i64 t.dr, .int .i64 t.wi, .int .i64 t.lm] 41
  have hI := Lib.hid (is_tb t (.slice A t.ns.length c) (w.alloc (.cells #[.slice A t.ns.length c, .int .i64 t.dr, .int .i64 t.wi, .int .i64 t.lm] 41)) w.heap.size (by simp) (hv.below hB0))
  rw [ht] at hI
  unfold tabV at hI ⊢
  have HV := Lib.hid v3
  clear hv v3
  have t0 := hX.cell 0 (x := .slice A t.ns.length c) rfl
  have t1 := hX.cell 1 (x := .int .i64 t.dr) rfl
  have t2 := hX.cell 2 (x := .int .i64 t.wi) rfl
  have t3 := hX.cell 3 (x := .int .i64 t.lm) rfl
  go_enter Try.func34, Try.ntmps34
  go_wp2_with fail
  refine hI.out.mono ?_
  rintro e w2 ⟨rfl, hb2⟩
  have HX : Hid (∀ W, Below w2.heap.size w2 W → W.cell? ⟨w.heap.size, 0, none⟩ = some (.slice A t.ns.length c) ∧ W.cell? ⟨w.heap.size, 2, none⟩ = some (.int .i64 t.wi) ∧ W.cell? ⟨w.heap.size, 3, none⟩ = some (.int .i64 t.lm)) := Lib.hid fun W hW => by
    have hz := hb2.size
    simp only [World.size_alloc] at hz
    have hx := (hX.below hb2 hX.lt).below hW (by omega)
    exact ⟨hx.cell 0 rfl, hx.cell 2 rfl, hx.cell 3 rfl⟩
  obtain ⟨u0, u2, u3⟩ := HX.out w2 (Below.refl _ _)
  have hb0 := Below.refl w2.heap.size w2
  have HN := fun W (hW : W.heap.size = w2.heap.size) => Lib.hid (show Calls Try.prog 52 #[.int .i64 t.lm] W fun e w' => e = .returned (.pointer (some ⟨w2.heap.size, 0, none⟩)) ∧ ClkAt w' w2.heap.size t.lm [] ∧ Below w2.heap.size W w' ∧ w'.heap.size = w2.heap.size + 1 from hW ▸ new_cl t.lm W)
  go_wp2_with fail
  go_cut [4] from 10 (fun s4 W => ∃ g, s4 = .pointer (some ⟨g, 0, none⟩) ∧ w2.heap.size ≤ g ∧ GAt W g (partG t 0) ∧ Below w2.heap.size w2 W)
  case first =>
    go_region_with (first
      | ((go_at_call 52; (with_reducible refine (HN _ ?_).out.mono ?_)); (first | rfl | simp); rintro e w3 ⟨rfl, hc3, hb3, hz3⟩; obtain ⟨k0, k1, k2, k3, k4, k5⟩ := hc3.cells; have hb1 := hb0.drew.trans hb3; obtain ⟨u0, u2, u3⟩ := HX.out _ hb1)
      | fail)
    all_goals
      go_wp2_with fail
      go_meet
      refine ⟨_, rfl, ?_, ⟨Blk.new _ _ ?_ _ _, by simp [partG, newG]⟩, ?_⟩
      · omega
      · first | exact hz3.symm | (simp; omega)
      · exact hb1.alloc hb1.size _
  case rest =>
    obtain ⟨g, rfl, hg, hG, hb⟩ := hcut
    have HS := Lib.hid (partG_all t)
    have HP := fun k hk => Lib.hid (partG_next t k hk)
    have hn8 := hmay.n8
    obtain ⟨u0, u2, u3⟩ := HX.out _ hb
    clear HX HN hI hX t0 t1 t2 t3
    go_wp2
    go_loopw [25] (fun i wr => ∃ k : Nat, k ≤ t.ns.length ∧ i = .int .i64 k ∧ GAt wr g (partG t k) ∧ Below w2.heap.size w2 wr) (fun i _ => t.ns.length - (intOf i).toNat)
    case atStart => exact ⟨0, by omega, rfl, hG, hb⟩
    case round =>
      obtain ⟨k, hk, rfl, hGk, hbk⟩ := hrel
      by_cases hlt : k < t.ns.length
      · have q1 : decide ((k : Int) < (t.ns.length : Int)) = true := decide_eq_true (by omega)
        have hS := HV.out.below ((hB0.trans (hb2.mono hB0.size)).trans (hbk.mono (by have := hb2.size; simp at this; omega)))
        obtain ⟨b, off, rfl, hbb, hd⟩ := hS (by omega)
        obtain ⟨d0, d1, d2, d3⟩ := hd k hlt
        have i1 : (0 : Int) ≤ (k : Int) := by omega
        have i2 : (k : Int) < 8 := by omega
        have i3 : (k : Int) < (t.ns.length : Int) := by omega
        have HPk := Lib.hid (HP k (by omega)).out
        generalize t.ns.getD k default = d at *
        have hbA := (Below.refl wr.heap.size wr).alloc (Nat.le_refl _) (.cells #[.bool d.sy, .bool d.inf, .int .i64 d.li, .int .i64 d.sz] 80)
        have hGA := hGk.below hbA hGk.lt
        have e0 := (Blk.new wr _ rfl #[.bool d.sy, .bool d.inf, .int .i64 d.li, .int .i64 d.sz] 80).cell 0 (x := .bool d.sy) rfl
        have hb2A := hbk.trans (hbA.mono hbk.size)
        go_wp2_with fail
        generalize wr.alloc (.cells #[.bool d.sy, .bool d.inf, .int .i64 d.li, .int .i64 d.sz] 80) = wA at *
        clear d0 d1 d2 d3 hd hS hbA hGk hbk
        have fk := hGA.1.frozen k
        have ck := hGA.1.cell k (grd_sy _ k (by omega))
        have HG := Lib.hid hGA
        have HB := Lib.hid hb2A
        clear hGA hb2A
        go_region
        go_wp2
        go_roundw
        case rel => exact ⟨k + 1, by omega, by go_num, ⟨(HG.out.1.set k (.bool d.sy)).drew.eq HPk.out, HG.out.2⟩, (HB.out.setCell (p := ⟨g, k, none⟩) hg _).drew⟩
        case measure => simp [intOf]; omega
      · have q1 : decide ((k : Int) < (t.ns.length : Int)) = false := decide_eq_false (by omega)
        obtain rfl : k = t.ns.length := by omega
        go_wp2
        go_ret2
        exact ⟨g, rfl, by have := hb2.size; simp at this; omega, HS.out ▸ hGk, (hB0.trans (hb2.mono hB0.size)).trans (hbk.mono (by have := hb2.size; simp at this; omega))⟩
end Go.Proofs.Ytmlnkkalajnjhaa
