/- The contract of matronref4.Is. -/
import Derived.Test.YtmddokenjdlgfaaTbE
namespace Go.Proofs.Ytmddokenjdlgfaa
open Go.RowKit
open Tb (D T)

set_option maxRecDepth 100000 in
set_option maxHeartbeats 4000000 in
theorem is_rf (t : T) (v : Value) (w : World) (B : Nat) (hB : B ≤ w.heap.size) (hv : SeesT w B v t.ns) :
    Calls Try.prog 18 #[tabV t v] w fun e w' => e = .returned (.bool t.is) ∧ Below w.heap.size w w' := by
  obtain ⟨A, c, rfl, h1, h2, h3, -⟩ := hv.at_
  obtain ⟨l, dr, wi, lm⟩ := t
  simp only at h1 h3
  have h3 := h3.more hB
  have hin := fun n a b W => Lib.hid (in_tb n a b W)
  have hres : T.is ⟨l, dr, wi, lm⟩ = ((Tb.wi l.length 4 8 && (Tb.oks l l.length && decide (4 ≤ Tb.syn l l.length))) && (Tb.wi dr 0 1000 && (Tb.wi wi (4 * dr + 2) 1000 && Tb.wi lm wi 1000))) := rfl
  rw [hres]
  clear hres hv
  unfold maxLen at h2
  unfold tabV
  simp only
  have hq : ∀ n a b t, Tb.wi n a b = t → ∀ W, Hid (Calls Try.prog 32 #[.int .i64 n, .int .i64 a, .int .i64 b] W fun e w' => e = .returned (.bool t) ∧ W = w') := by
    rintro n a b t rfl W
    exact hin n a b W
  have hbox := Lib.hid (box4 w (.slice A l.length c) (.int .i64 dr) (.int .i64 wi) (.int .i64 lm) 24)
  cases q0 : Tb.wi l.length 4 8
  · have f0 := hq _ _ _ _ q0
    clear hin hq q0 h3
    go_enter Try.func18, Try.ntmps18
    go_wp2_with fail
    refine (f0 _).out.mono ?_
    rintro e w1 ⟨rfl, rfl⟩
    go_wp2
    go_ret
    exact ⟨by simp, hbox.out.below⟩
  cases q1 : Tb.wi dr 0 1000
  · have f0 := hq _ _ _ _ q0
    have f1 := hq _ _ _ _ q1
    clear q0 q1 hq hin h3
    go_enter Try.func18, Try.ntmps18
    go_wp2_with fail
    refine (f0 _).out.mono ?_
    rintro e w1 ⟨rfl, rfl⟩
    go_wp2_with fail
    refine (f1 _).out.mono ?_
    rintro e w2 ⟨rfl, rfl⟩
    go_wp2
    go_ret
    exact ⟨by simp, hbox.out.below⟩
  have wr0 : IntKind.i64.wrap (4 * dr) = 4 * dr := IntWalk.i64_in _ (by have := (Tb.wi_iff _ _ _).1 q1; omega)
  have wr1 : IntKind.i64.wrap (4 * dr + 2) = 4 * dr + 2 := IntWalk.i64_in _ (by have := (Tb.wi_iff _ _ _).1 q1; omega)
  cases q2 : Tb.wi wi (4 * dr + 2) 1000
  · have f0 := hq _ _ _ _ q0
    have f1 := hq _ _ _ _ q1
    have f2 := hq _ _ _ _ q2
    clear q0 q1 q2 hq hin h3
    go_enter Try.func18, Try.ntmps18
    go_wp2_with fail
    refine (f0 _).out.mono ?_
    rintro e w1 ⟨rfl, rfl⟩
    go_wp2_with fail
    refine (f1 _).out.mono ?_
    rintro e w2 ⟨rfl, rfl⟩
    go_wp2_with fail
    refine (f2 _).out.mono ?_
    rintro e w2 ⟨rfl, rfl⟩
    go_wp2
    go_ret
    exact ⟨by simp, hbox.out.below⟩
  cases q3 : Tb.wi lm wi 1000
  · have f0 := hq _ _ _ _ q0
    have f1 := hq _ _ _ _ q1
    have f2 := hq _ _ _ _ q2
    have f3 := hq _ _ _ _ q3
    clear q0 q1 q2 q3 hq hin h3
    go_enter Try.func18, Try.ntmps18
    go_wp2_with fail
    refine (f0 _).out.mono ?_
    rintro e w1 ⟨rfl, rfl⟩
    go_wp2_with fail
    refine (f1 _).out.mono ?_
    rintro e w2 ⟨rfl, rfl⟩
    go_wp2_with fail
    refine (f2 _).out.mono ?_
    rintro e w2 ⟨rfl, rfl⟩
    go_wp2_with fail
    refine (f3 _).out.mono ?_
    rintro e w2 ⟨rfl, rfl⟩
    go_wp2
    go_ret
    exact ⟨by simp, hbox.out.below⟩
  have f0 := hq _ _ _ _ q0
  have f1 := hq _ _ _ _ q1
  have f2 := hq _ _ _ _ q2
  have f3 := hq _ _ _ _ q3
  have hn8 : l.length ≤ 8 := by have := (Tb.wi_iff _ _ _).1 q0; omega
  have hn4 : 4 ≤ l.length := by have := (Tb.wi_iff _ _ _).1 q0; omega
  clear q0 q1 q2 q3 hq
  have hS := Lib.hid (Tb.oks_succ l)
  have hbad := fun k hk h => Lib.hid (Tb.oks_bad (l := l) (k := k) hk h)
  have hsy := Lib.hid (Tb.syn_le l)
  have hs0 := Lib.hid (Tb.has_zero l)
  have hs1 := Lib.hid (Tb.has_succ l)
  have hm2 : IntKind.i64.wrap (2 * (l.length : Int)) = 2 * l.length := IntWalk.i64_in _ (by omega)
  go_enter Try.func18, Try.ntmps18
  go_wp2_with fail
  refine (f0 _).out.mono ?_
  rintro e w1 ⟨rfl, rfl⟩
  go_wp2_with fail
  refine (f1 _).out.mono ?_
  rintro e w2 ⟨rfl, rfl⟩
  go_wp2_with fail
  refine (f2 _).out.mono ?_
  rintro e w2 ⟨rfl, rfl⟩
  go_wp2_with fail
  refine (f3 _).out.mono ?_
  rintro e w2 ⟨rfl, rfl⟩
  clear f0 f1 f2 f3
  go_wp2
  generalize w.alloc (.cells #[.slice A l.length c, .int .i64 dr, .int .i64 wi, .int .i64 lm] 24) = w0 at *
  have hz0 : w0.heap.size = w.heap.size + 1 := hbox.out.size
  go_loopw [4, 5] (fun s i wr => ∃ k : Nat, k ≤ l.length ∧ i = .int .i64 k ∧ s = .int .i64 (Tb.syn l k) ∧ Hid (Tb.oks l k = true) ∧ Below w0.heap.size w0 wr) (fun _ i _ => l.length - (intOf i).toNat)
  case atStart => exact ⟨0, by omega, rfl, rfl, rfl, Below.refl _ _⟩
  case round =>
    obtain ⟨k, hk, rfl, rfl, hok, hb⟩ := hrel
    have hsk := hsy.out k
    have hbw := hbox.out.below.trans (hb.mono (by omega))
    obtain ⟨-, b0, b1, b2, b3⟩ := hbox.out.cell wr hb
    by_cases hlt : k < l.length
    · obtain ⟨b, off, rfl, hbb, hd⟩ := h3.below hbw (by omega)
      obtain ⟨e0, e1, e2, e3⟩ := hd k hlt
      have q1 : decide ((k : Int) < (l.length : Nat)) = true := by simp; omega
      have hokk : Tb.ok l k = (Tb.wi (l.getD k default).li (2 * l.length) 200 && Tb.wi (l.getD k default).sz 1 8 && !Tb.has l k (l.getD k default).li) := rfl
      have hsyn0 : Tb.syn l (k + 1) = Tb.syn l k + (if (l.getD k default).sy then 1 else 0) := rfl
      generalize hdd0 : l.getD k default = d at *
      have hdd := Lib.hid hdd0
      have hsyn := Lib.hid hsyn0
      clear hdd0 hsyn0
      obtain ⟨sy, inf, li, sz⟩ := d
      simp only at e0 e1 e2 e3 hokk hsyn
      cases ha : Tb.wi li (2 * l.length) 200
      · have hA := hin li (2 * l.length) 200
        rw [ha] at hA
        have hfin := hbad k hlt (by rw [hokk, ha]; rfl)
        clear ha hokk hbad hS hs0 hs1
        go_wp2_with (go_at_call 32; refine (hA _).out.mono ?_; rintro e w1 ⟨rfl, rfl⟩)
        all_goals
          go_ret
          exact ⟨by rw [hfin.out]; simp, hbw.alloc hbw.size _⟩
      cases hz : Tb.wi sz 1 8
      · have hA := hin li (2 * l.length) 200
        rw [ha] at hA
        have hZ := hin sz 1 8
        rw [hz] at hZ
        have hfin := hbad k hlt (by rw [hokk, ha, hz]; rfl)
        clear ha hz hokk hbad hS hs0 hs1
        go_wp2_with (go_at_call 32; first | (with_reducible refine (hA _).out.mono ?_; rintro e w1 ⟨rfl, rfl⟩) | (refine (hZ _).out.mono ?_; rintro e w1 ⟨rfl, rfl⟩))
        all_goals
          go_ret
          exact ⟨by rw [hfin.out]; simp, hbw.alloc hbw.size _⟩
      have hA := hin li (2 * l.length) 200
      rw [ha] at hA
      have hZ := hin sz 1 8
      rw [hz] at hZ
      have hokk2 := Lib.hid (show Tb.ok l k = !Tb.has l k li by rw [hokk, ha, hz]; simp)
      have hokS := hS.out k
      rw [hok.out, hokk2.out] at hokS
      have hokS := Lib.hid hokS
      have hsy1 : ∃ S : Nat, S ≤ 8 ∧ Hid (Tb.syn l (k + 1) = S) ∧ (sy = true → (S : Int) = Tb.syn l k + 1) ∧ (sy = false → (S : Int) = Tb.syn l k) := by
        refine ⟨Tb.syn l (k + 1), by have := hsy.out (k + 1); omega, Lib.hid rfl, ?_, ?_⟩ <;> (rintro rfl; rw [hsyn.out]; simp)
      clear ha hz hokk hsyn
      cases sy
      all_goals
        go_wp2_with fail
      (focus
        have hbx := Lib.hid (box4 wr (.bool false) (.bool inf) (.int .i64 li) (.int .i64 sz) 42)
        generalize wr.alloc (.cells #[.bool false, .bool inf, .int .i64 li, .int .i64 sz] 42) = w2 at *)
      rotate_left 1
      (focus
        have hbx := Lib.hid (box4 wr (.bool true) (.bool inf) (.int .i64 li) (.int .i64 sz) 42)
        generalize wr.alloc (.cells #[.bool true, .bool inf, .int .i64 li, .int .i64 sz] 42) = w2 at *)
      all_goals
        have hb2 := hb.trans (hbx.out.below.mono hb.size)
        obtain ⟨S, hS8, hsS, hsT, hsF⟩ := hsy1
        refine (hA _).out.mono ?_
        rintro e w3 ⟨rfl, rfl⟩
        obtain ⟨hz2, d0, d1, d2, d3⟩ := hbx.out.cell w2 (Below.refl _ _)
        go_wp2_with fail
        refine (hZ _).out.mono ?_
        rintro e w3 ⟨rfl, rfl⟩
        have bb := Lib.hid (hbox.out.cell)
        have hb3 := Lib.hid h3
        have hs0 := Lib.hid (hs0.out li)
        clear e0 e1 e2 e3 hd b0 b1 b2 b3 h3 hA hZ d0 d1 d2 d3
        go_wp2
        go_loopw [7] (fun j wq => ∃ i : Nat, i ≤ k ∧ j = .int .i64 i ∧ Hid (Tb.has l i li = false) ∧ Below w2.heap.size w2 wq) (fun j _ => k - (intOf j).toNat)
        case atStart => exact ⟨0, by omega, rfl, hs0, Below.refl _ _⟩
        case round =>
          obtain ⟨j, hj, rfl, hnot, hbq⟩ := hrel
          have hbq2 := hb2.trans (hbq.mono hb2.size)
          obtain ⟨-, b0, b1, b2, b3⟩ := bb.out _ hbq2
          obtain ⟨-, d0, d1, d2, d3⟩ := hbx.out.cell _ hbq
          have hbq3 := hbox.out.below.trans (hbq2.mono (by omega))
          obtain ⟨bx, offx, hA, hbb', hd⟩ := hb3.out.below hbq3 (by omega)
          obtain ⟨e0, e1, e2, e3⟩ := hd j (by omega)
          have hA0 := hA
          simp only [Option.some.injEq, Addr.mk.injEq, and_true] at hA0
          obtain ⟨rfl, rfl⟩ := hA0
          clear hA hb3 bb hS hbox
          by_cases hjk : j < k
          · have q5 : decide ((j : Int) < (k : Nat)) = true := by simp; omega
            have p1 : (0 : Int) ≤ (j : Nat) := by omega
            have p2 : ((j : Nat) : Int) < (l.length : Nat) := by omega
            have hnext := Lib.hid (hs1.out j (by omega) li)
            generalize hx : (l.getD j default).li = x at *
            have hx := Lib.hid hx
            by_cases hxx : x = li
            · have hnx : Tb.has l (j + 1) li = true := by rw [hnext.out]; simp [hxx]
              have hfin := hbad k hlt (by rw [hokk2.out]; simp [Tb.has_mono (show j + 1 ≤ k by omega) hnx])
              subst hxx
              go_wp2_with fail
              go_quiet (fail)
              go_wp2
              go_ret
              exact ⟨by rw [hfin.out]; simp, below_drewN hbq3 _⟩
            · have hnx : Hid (Tb.has l (j + 1) li = false) := by
                have := hnext.out
                rw [hnot.out] at this
                exact this.trans (by simp [hxx])
              go_wp2_with fail
              go_quiet (fail)
              go_wp2
              exact ⟨⟨j + 1, by omega, by go_num, hnx, below_drewN hbq _⟩, by simp [intOf]; omega⟩
          · obtain rfl : j = k := by omega
            have q5 : decide ((j : Int) < (j : Nat)) = false := by simp
            go_wp2
            exact ⟨⟨j + 1, by omega, by go_num, by rw [hsS.out]; first | exact congrArg (Value.int .i64) (hsT (by simp)).symm | exact congrArg (Value.int .i64) (hsF (by simp)).symm, Lib.hid (by rw [hokS.out, hnot.out]; rfl), hbq2⟩, by simp [intOf]; omega⟩
    · obtain rfl : k = l.length := by omega
      have q1 : decide ((l.length : Int) < (l.length : Nat)) = false := by simp
      go_wp2
      go_ret
      exact ⟨by rw [hok.out]; simp; omega, hbw⟩
end Go.Proofs.Ytmddokenjdlgfaa
