/- The contract of areNodes. -/
import Derived.Test.YthigojakapgllaaTbC
import Derived.BigQuiet
namespace Go.Proofs.Ythigojakapgllaa
open Go.RowKit
open Tb (D T)

/-- A new block of four cells, and what reads it behind calls. -/
structure Box4 (w w0 : World) (x0 x1 x2 x3 : Value) : Prop where
  size : w0.heap.size = w.heap.size + 1
  below : Below w.heap.size w w0
  cell : ∀ W, Below w0.heap.size w0 W → w.heap.size < W.heap.size ∧ W.cell? ⟨w.heap.size, 0, none⟩ = some x0 ∧ W.cell? ⟨w.heap.size, 1, none⟩ = some x1 ∧ W.cell? ⟨w.heap.size, 2, none⟩ = some x2 ∧ W.cell? ⟨w.heap.size, 3, none⟩ = some x3
theorem bcell {W w1 : World} {B : Nat} (hb : Below B W w1) : ∀ b o, b < B → w1.cell? ⟨b, o, none⟩ = W.cell? ⟨b, o, none⟩ := fun b o h => hb.cell (p := ⟨b, o, none⟩) h
theorem box4 (w : World) (x0 x1 x2 x3 : Value) (t : TypeId) : Box4 w (w.alloc (.cells #[x0, x1, x2, x3] t)) x0 x1 x2 x3 := by
  refine ⟨by simp, (Below.refl _ _).alloc (Nat.le_refl _) _, fun W hb => ?_⟩
  have hz := hb.size
  have hc := bcell hb
  simp only [World.size_alloc] at hz
  refine ⟨by omega, ?_, ?_, ?_, ?_⟩ <;> (rw [hc _ _ (by simp), World.cell?_alloc_at _ _ _ _ rfl]; rfl)

set_option maxRecDepth 100000 in
set_option maxHeartbeats 2000000 in
theorem areNodes_tb (A : Option Addr) (c : Nat) (l : List D) (w : World) (hs : SeesD w w.heap.size A l) (hlen : l.length ≤ c) (hc : c ≤ maxLen) :
    Calls Try.prog 30 #[.slice A l.length c] w fun e w' => e = .returned (.bool (Tb.are l)) ∧ Below w.heap.size w w' := by
  have hin := fun n a b W => Lib.hid (within_tb n a b W)
  have hli := fun k (_ : k < l.length) n W (hb : Below w.heap.size w W) => listens_tb A c (l.take k) n W
  have hc' := hc
  unfold maxLen at hc
  unfold Tb.are
  cases hn : Tb.wi l.length 4 8
  · have h1 := Lib.hid hn
    clear hn
    go_enter Try.func30, Try.ntmps30
    go_wp2_with fail
    refine (hin _ _ _ _).out.mono ?_
    rintro e w1 ⟨rfl, rfl⟩
    rw [h1.out]
    go_wp2
    go_ret
    exact ⟨by simp, Below.refl _ _⟩
  · have h1 := Lib.hid hn
    have hn8 : l.length ≤ 8 := by have := (Tb.wi_iff _ _ _).1 hn; omega
    have hn4 : 4 ≤ l.length := by have := (Tb.wi_iff _ _ _).1 hn; omega
    clear hn
    go_enter Try.func30, Try.ntmps30
    go_wp2_with fail
    refine (hin _ _ _ _).out.mono ?_
    rintro e w1 ⟨rfl, rfl⟩
    rw [h1.out]
    go_wp2
    have hS := Lib.hid (Tb.oks_succ l)
    have hbad := fun k hk h => Lib.hid (Tb.oks_bad (l := l) (k := k) hk h)
    have hsy := Lib.hid (Tb.syn_le l)
    go_loopw [3, 12] (fun s i wr => ∃ k : Nat, k ≤ l.length ∧ i = .int .i64 k ∧ s = .int .i64 (Tb.syn l k) ∧ Hid (Tb.oks l k = true) ∧ Below w.heap.size w wr) (fun _ i _ => l.length - (intOf i).toNat)
    case atStart => exact ⟨0, by omega, rfl, rfl, rfl, Below.refl _ _⟩
    case round =>
      obtain ⟨k, hk, rfl, rfl, hok, hb⟩ := hrel
      have hsk := hsy.out k
      by_cases hlt : k < l.length
      · obtain ⟨b, off, rfl, hbb, hd⟩ := hs.below hb (by omega)
        obtain ⟨e0, e1, e2, e3⟩ := hd k hlt
        have q1 : decide ((k : Int) < (l.length : Nat)) = true := by simp; omega
        have hL := hli k hlt (l.getD k default).li
        have htl : (l.take k).length = k := by rw [List.length_take]; omega
        have hhas := Tb.has_take l k (by omega) (l.getD k default).li
        rw [htl] at hL hhas
        have hokk : Tb.ok l k = (Tb.wi (l.getD k default).li (2 * l.length) 200 && Tb.wi (l.getD k default).sz 1 8 && !Tb.has l k (l.getD k default).li) := rfl
        rw [hhas] at hL
        have hsyn0 : Tb.syn l (k + 1) = Tb.syn l k + (if (l.getD k default).sy then 1 else 0) := rfl
        generalize hdd0 : l.getD k default = d at *
        have hdd := Lib.hid hdd0
        have hsyn := Lib.hid hsyn0
        clear hhas hdd0 hsyn0
        generalize Tb.has l k d.li = h at *
        have hbox := Lib.hid (box4 wr (.bool d.sy) (.bool d.inf) (.int .i64 d.li) (.int .i64 d.sz) 62)
        have hb0 := hb.trans (hbox.out.below.mono hb.size)
        have hm2 : IntKind.i64.wrap (2 * (l.length : Int)) = 2 * l.length := IntWalk.i64_in _ (by omega)
        have hq : ∀ n a b t, Tb.wi n a b = t → ∀ W, Hid (Calls Try.prog 31 #[.int .i64 n, .int .i64 a, .int .i64 b] W fun e w' => e = .returned (.bool t) ∧ w' = W) := by
          rintro n a b t rfl W
          exact (hin n a b W).out.mono fun e w' h => ⟨h.1, h.2.symm⟩
        cases ha : Tb.wi d.li (2 * l.length) 200
        · have hA := hq _ _ _ _ ha
          have hfin := hbad k hlt (by rw [hokk, ha]; rfl)
          go_wp2_with fail
          generalize wr.alloc (.cells #[.bool d.sy, .bool d.inf, .int .i64 d.li, .int .i64 d.sz] 62) = w0 at *
          obtain ⟨hz, c0, c1, c2, c3⟩ := hbox.out.cell w0 (Below.refl _ _)
          clear hs hd hL hli hbad hS hsy hbox e0 e1 e2 e3 ha hq hin
          go_quiet (first | (go_at_call 31; refine Calls.quiet_of_same (hA _).out))
          go_wp2
          go_ret
          exact ⟨by rw [hfin.out]; simp, below_drewN hb0 _⟩
        · cases hz : Tb.wi d.sz 1 8
          · have hA := hq _ _ _ _ ha
            have hZ := hq _ _ _ _ hz
            have hfin := hbad k hlt (by rw [hokk, ha, hz]; rfl)
            go_wp2_with fail
            generalize wr.alloc (.cells #[.bool d.sy, .bool d.inf, .int .i64 d.li, .int .i64 d.sz] 62) = w0 at *
            obtain ⟨hz, c0, c1, c2, c3⟩ := hbox.out.cell w0 (Below.refl _ _)
            clear hs hd hL hli hbad hS hsy hbox e0 e1 e2 e3 ha hq hin
            go_quiet (first | (go_at_call 31; first | with_reducible refine Calls.quiet_of_same (hA _).out | refine Calls.quiet_of_same (hZ _).out))
            go_wp2
            go_ret
            exact ⟨by rw [hfin.out]; simp, below_drewN hb0 _⟩
          · have hA := Lib.hid ha
            have hZ := Lib.hid hz
            have hokk2 := Lib.hid (show Tb.ok l k = !h by rw [hokk, ha, hz]; simp)
            clear ha hz hokk hq
            go_wp2_with fail
            clear e0 e1 e2 e3
            generalize wr.alloc (.cells #[.bool d.sy, .bool d.inf, .int .i64 d.li, .int .i64 d.sz] 62) = w0 at *
            have K := Lib.hid (show ∀ W, Below w0.heap.size w0 W → W.cell? ⟨wr.heap.size, 2, none⟩ = some (.int .i64 d.li) ∧ W.cell? ⟨wr.heap.size, 3, none⟩ = some (.int .i64 d.sz) from fun W h => (hbox.out.cell W h).2.2.2)
            have hb00 := Below.refl w0.heap.size w0
            have hL2 : ∀ W, Below w.heap.size w W → Hid (Calls Try.prog 39 #[.slice (some ⟨b, off, none⟩) k c, .int .i64 d.li] W fun e w' => e = .returned (.bool h) ∧ Below W.heap.size W w') := fun W hbw => hL W hbw (SeesD.more (fun h0 => by
              obtain ⟨b', off', hA', hb', hc'⟩ := (hs.below hbw) (by omega)
              refine ⟨b', off', hA', hb', fun j hj => ?_⟩
              have := hc' j (by rw [htl] at hj; omega)
              rw [htl] at hj
              have e : (l.take k).getD j default = l.getD j default := by simp [List.getD_eq_getElem?_getD, hj]
              rw [e]; exact this) hbw.size) (by omega) hc'
            clear hL hli hs hd
            have q2 : (0 : Int) ≤ (k : Nat) := by omega
            have q3 : ((k : Nat) : Int) ≤ (c : Nat) := by omega
            have q4 : IntKind.i64.wrap (k : Nat) = k := IntWalk.i64_in _ (by omega)
            cases h
            all_goals
              go_region_held3 (fun W => W.cell? ⟨wr.heap.size, 2, none⟩ = some (.int .i64 d.li) ∧ W.cell? ⟨wr.heap.size, 3, none⟩ = some (.int .i64 d.sz))
                ((refine K.out _ ?_; repeat' (first | exact hb3 | exact hb00 | (with_reducible refine Below.drew ?_))))
                (first
                  | ((go_at_call 31; refine (hin _ _ _ _).out.mono ?_; rintro e w3 ⟨rfl, rfl⟩; (first | rw [hA.out] | rw [hZ.out])))
                  | ((go_at_call 39; refine (hL2 _ ?_).out.mono ?_); (repeat' (first | exact hb0 | (with_reducible refine Below.drew ?_))); rintro e w3 ⟨rfl, hb⟩; have hb3 := hb00.drew.trans (hb.mono hb00.size))
                  | fail)
            · have hokS := hS.out k
              rw [hok.out, hokk2.out] at hokS
              have hokS := Lib.hid hokS
              have c0 := (hbox.out.cell _ hb3).2.1
              go_wp2_with fail
              all_goals
                refine ⟨⟨k + 1, by omega, by go_num, ?_, Lib.hid (by rw [hokS.out]; rfl), hb0.trans (hb3.mono hb0.size)⟩, by simp [intOf]; omega⟩
                rw [hsyn.out]
                simp [*]
            · have hfin := hbad k hlt (by rw [hokk2.out]; rfl)
              go_wp2
              go_ret
              exact ⟨by rw [hfin.out]; simp, hb0.trans (hb3.mono hb0.size)⟩
      · obtain rfl : k = l.length := by omega
        have q1 : decide ((l.length : Int) < (l.length : Nat)) = false := by simp
        have hle := hsy.out l.length
        go_wp2
        go_ret
        exact ⟨by rw [hok.out]; simp; omega, hb⟩
end Go.Proofs.Ythigojakapgllaa
