/- Texts AuA, TbF, AuB, AuC in one. For what each says in front of its theorems. -/
import Derived.Test.YtkaeikjfegjpjaaAB5
/-! ### AuA -/
namespace Go.Proofs.Ytkaeikjfegjpjaa
open Go.RowKit
open Tb (D T)

set_option maxRecDepth 100000 in
set_option maxHeartbeats 4000000 in
theorem fair_au (dr wi lm : Int) (TA : Option Addr) (tn tc : Nat) (v : Value) (l : List Ft) (w : World) (hw : 0 ≤ wi ∧ wi ≤ 1000) (hs : SeesF w w.heap.size v l) :
    Calls Try.prog 20 #[.agg #[.slice TA tn tc, .int .i64 dr, .int .i64 wi, .int .i64 lm], v] w fun e w' => e = .returned (.bool (fsFair wi l)) ∧ Below w.heap.size w w' := by
  have hb0 := (Below.refl w.heap.size w).alloc (Nat.le_refl _) (.cells #[.slice TA tn tc, .int .i64 dr, .int .i64 wi, .int .i64 lm] 24)
  have hT := Blk.new w _ rfl #[.slice TA tn tc, .int .i64 dr, .int .i64 wi, .int .i64 lm] 24
  have hs0 := (hs.below hb0).more (B' := (w.alloc (.cells #[.slice TA tn tc, .int .i64 dr, .int .i64 wi, .int .i64 lm] 24)).heap.size) (by simp)
  have hI := Lib.hid (is_sr v l _ hs0)
  obtain ⟨A, c, rfl, hlen, hc, hcell⟩ := hs.at_
  by_cases h1 : l.length = 1
  · obtain ⟨f, rfl⟩ := List.length_eq_one_iff.1 h1
    obtain ⟨b, off, rfl, hbb, hd⟩ := hcell (by simp)
    obtain ⟨c0, c1, c2, u, c3, hu⟩ := hd 0 (by simp)
    simp only [Nat.zero_mul, Nat.add_zero, List.getD_cons_zero] at c0 c1 c2 c3 hu
    obtain ⟨A', cc, rfl, -⟩ := hu.at_
    have K := Lib.hid (ftFair_iff wi f)
    have ef : fsFair wi [f] = ftFair wi f := by simp [fsFair]
    have ei : ftIs [f] = f.may := by simp [ftIs]
    have em := Lib.hid (ftMay_iff f.k f.n f.a f.d.length)
    rw [ef]
    rw [ei] at hI
    change Hid (f.may = true ↔ _) at em
    change Hid (Calls _ _ #[.slice (some ⟨b, off, none⟩) 1 c] _ _) at hI
    generalize ftFair wi f = q at *
    cases hm : f.may
    · rw [hm] at hI K
      go_enter Try.func20, Try.ntmps20
      go_wp2_with fail
      refine hI.out.mono ?_
      rintro e w1 ⟨rfl, hb⟩
      go_wp2
      go_ret
      refine ⟨?_, hb0.trans (hb.mono hb0.size)⟩
      have K := K.out
      cases q <;> simp at K ⊢
    · rw [hm] at hI K em
      have ha : -1000 ≤ f.a ∧ f.a ≤ 1000 := by have := em.out.1 rfl; omega
      have z1 : IntKind.i64.wrap (2 * wi) = 2 * wi := IntWalk.i64_in _ (by omega)
      have z2 : IntKind.i64.wrap (-f.a) = -f.a := IntWalk.i64_in _ (by omega)
      go_enter Try.func20, Try.ntmps20
      go_wp2_with fail
      refine hI.out.mono ?_
      rintro e w1 ⟨rfl, hb⟩
      have hB := hb0.trans (hb.mono hb0.size)
      have hl0 : w.heap.size < w1.heap.size := by have := hb.size; simp at this; omega
      have t2 := (hT.below hb (by simp)).cell 2 rfl
      have c0 := (hB.cell (p := ⟨b, off, none⟩) hbb).trans c0
      have c1 := (hB.cell (p := ⟨b, off + 1, none⟩) hbb).trans c1
      have c2 := (hB.cell (p := ⟨b, off + 2, none⟩) hbb).trans c2
      have c3 := (hB.cell (p := ⟨b, off + 3, none⟩) hbb).trans c3
      have hB2 := Lib.hid (hB.alloc hB.size (.cells #[.int .i64 f.k, .int .i64 f.n, .int .i64 f.a, .slice A' f.d.length cc] 32))
      clear hb0 hs0 hs hI em hd hcell hu hT hb
      generalize f.a = a at *
      generalize f.k = k at *
      by_cases h5 : k = 5
      · subst h5
        go_wp2
        go_ret
        refine ⟨?_, hB2.out⟩
        have K := K.out
        by_cases h0 : a = 0
        · subst h0; cases q <;> simp at K ⊢
        · cases q <;> simp [h0] at K ⊢
      · by_cases h6 : k = 6
        · subst h6
          by_cases hp : a < -a
          · have r1 : decide (a < -a) = true := decide_eq_true hp
            go_wp2
            go_ret
            refine ⟨?_, hB2.out⟩
            have K := K.out
            cases q <;> simp at K ⊢ <;> omega
          · have r1 : decide (a < -a) = false := decide_eq_false hp
            go_wp2
            go_ret
            refine ⟨?_, hB2.out⟩
            have K := K.out
            cases q <;> simp at K ⊢ <;> omega
        · have r5 : (k == 5) = false := by rw [beq_eq_false_iff_ne]; exact h5
          have r6 : (k == 6) = false := by rw [beq_eq_false_iff_ne]; exact h6
          go_wp2
          go_ret
          refine ⟨?_, hB2.out⟩
          have K := K.out
          cases q <;> simp [h5, h6] at K ⊢
  · have q1 : ((l.length : Int) == 1) = false := by rw [beq_eq_false_iff_ne]; omega
    have ef : fsFair wi l = false := by simp [fsFair, h1]
    rw [ef]
    generalize l.length = n at *
    go_enter Try.func20, Try.ntmps20
    go_wp2
    go_ret
    exact ⟨rfl, hb0⟩
end Go.Proofs.Ytkaeikjfegjpjaa

/-! ### TbF -/
namespace Go.Proofs.Ytkaeikjfegjpjaa
open Go.RowKit
open Tb (D T)

set_option maxRecDepth 100000 in
set_option maxHeartbeats 4000000 in
theorem is_rf (t : T) (v : Value) (w : World) (B : Nat) (hB : B ≤ w.heap.size) (hv : SeesT w B v t.ns) :
    Calls Try.prog 17 #[tabV t v] w fun e w' => e = .returned (.bool t.is) ∧ Below w.heap.size w w' := by
  obtain ⟨A, c, rfl, h1, h2, h3, -⟩ := hv.at_
  obtain ⟨l, dr, wi, lm⟩ := t
  simp only at h1 h3
  have h3 := h3.more hB
  have hin := fun n a b W => Lib.hid (in_tb n a b W)
  have hres : T.is ⟨l, dr, wi, lm⟩ = ((Tb.wi l.length 4 8 && (Tb.oks l l.length && decide (4 ≤ Tb.syn l l.length))) && (Tb.wi dr 0 1000 && (Tb.wi wi (4 * dr + 2) 1000 && Tb.wi lm wi 1000))) := rfl
  rw [hres]
  clear hres hv
  unfold maxLen at h2
  unfold tabV
  simp only
  have hq : ∀ n a b t, Tb.wi n a b = t → ∀ W, Hid (Calls Try.prog 22 #[.int .i64 n, .int .i64 a, .int .i64 b] W fun e w' => e = .returned (.bool t) ∧ W = w') := by
    rintro n a b t rfl W
    exact hin n a b W
  have hbox := Lib.hid (box4 w (.slice A l.length c) (.int .i64 dr) (.int .i64 wi) (.int .i64 lm) 24)
  cases q0 : Tb.wi l.length 4 8
  · have f0 := hq _ _ _ _ q0
    clear hin hq q0 h3
    go_enter Try.func17, Try.ntmps17
    go_wp2_with fail
    refine (f0 _).out.mono ?_
    rintro e w1 ⟨rfl, rfl⟩
    go_wp2
    go_ret
    exact ⟨by simp, hbox.out.below⟩
  cases q1 : Tb.wi dr 0 1000
  · have f0 := hq _ _ _ _ q0
    have f1 := hq _ _ _ _ q1
    clear q0 q1 hq hin h3
    go_enter Try.func17, Try.ntmps17
    go_wp2_with fail
    refine (f0 _).out.mono ?_
    rintro e w1 ⟨rfl, rfl⟩
    go_wp2_with fail
    refine (f1 _).out.mono ?_
    rintro e w2 ⟨rfl, rfl⟩
    go_wp2
    go_ret
    exact ⟨by simp, hbox.out.below⟩
  have wr0 : IntKind.i64.wrap (4 * dr) = 4 * dr := IntWalk.i64_in _ (by have := (Tb.wi_iff _ _ _).1 q1; omega)
  have wr1 : IntKind.i64.wrap (4 * dr + 2) = 4 * dr + 2 := IntWalk.i64_in _ (by have := (Tb.wi_iff _ _ _).1 q1; omega)
  cases q2 : Tb.wi wi (4 * dr + 2) 1000
  · have f0 := hq _ _ _ _ q0
    have f1 := hq _ _ _ _ q1
    have f2 := hq _ _ _ _ q2
    clear q0 q1 q2 hq hin h3
    go_enter Try.func17, Try.ntmps17
    go_wp2_with fail
    refine (f0 _).out.mono ?_
    rintro e w1 ⟨rfl, rfl⟩
    go_wp2_with fail
    refine (f1 _).out.mono ?_
    rintro e w2 ⟨rfl, rfl⟩
    go_wp2_with fail
    refine (f2 _).out.mono ?_
    rintro e w2 ⟨rfl, rfl⟩
    go_wp2
    go_ret
    exact ⟨by simp, hbox.out.below⟩
  cases q3 : Tb.wi lm wi 1000
  · have f0 := hq _ _ _ _ q0
    have f1 := hq _ _ _ _ q1
    have f2 := hq _ _ _ _ q2
    have f3 := hq _ _ _ _ q3
    clear q0 q1 q2 q3 hq hin h3
    go_enter Try.func17, Try.ntmps17
    go_wp2_with fail
    refine (f0 _).out.mono ?_
    rintro e w1 ⟨rfl, rfl⟩
    go_wp2_with fail
    refine (f1 _).out.mono ?_
    rintro e w2 ⟨rfl, rfl⟩
    go_wp2_with fail
    refine (f2 _).out.mono ?_
    rintro e w2 ⟨rfl, rfl⟩
    go_wp2_with fail
    refine (f3 _).out.mono ?_
    rintro e w2 ⟨rfl, rfl⟩
    go_wp2
    go_ret
    exact ⟨by simp, hbox.out.below⟩
  have f0 := hq _ _ _ _ q0
  have f1 := hq _ _ _ _ q1
  have f2 := hq _ _ _ _ q2
  have f3 := hq _ _ _ _ q3
  have hn8 : l.length ≤ 8 := by have := (Tb.wi_iff _ _ _).1 q0; omega
  have hn4 : 4 ≤ l.length := by have := (Tb.wi_iff _ _ _).1 q0; omega
  clear q0 q1 q2 q3 hq
  have hS := Lib.hid (Tb.oks_succ l)
  have hbad := fun k hk h => Lib.hid (Tb.oks_bad (l := l) (k := k) hk h)
  have hsy := Lib.hid (Tb.syn_le l)
  have hs0 := Lib.hid (Tb.has_zero l)
  have hs1 := Lib.hid (Tb.has_succ l)
  have hm2 : IntKind.i64.wrap (2 * (l.length : Int)) = 2 * l.length := IntWalk.i64_in _ (by omega)
  go_enter Try.func17, Try.ntmps17
  go_wp2_with fail
  refine (f0 _).out.mono ?_
  rintro e w1 ⟨rfl, rfl⟩
  go_wp2_with fail
  refine (f1 _).out.mono ?_
  rintro e w2 ⟨rfl, rfl⟩
  go_wp2_with fail
  refine (f2 _).out.mono ?_
  rintro e w2 ⟨rfl, rfl⟩
  go_wp2_with fail
  refine (f3 _).out.mono ?_
  rintro e w2 ⟨rfl, rfl⟩
  clear f0 f1 f2 f3
  go_wp2
  generalize w.alloc (.cells #[.slice A l.length c, .int .i64 dr, .int .i64 wi, .int .i64 lm] 24) = w0 at *
  have hz0 : w0.heap.size = w.heap.size + 1 := hbox.out.size
  go_loopw [4, 5] (fun s i wr => ∃ k : Nat, k ≤ l.length ∧ i = .int .i64 k ∧ s = .int .i64 (Tb.syn l k) ∧ Hid (Tb.oks l k = true) ∧ Below w0.heap.size w0 wr) (fun _ i _ => l.length - (intOf i).toNat)
  case atStart => exact ⟨0, by omega, rfl, rfl, rfl, Below.refl _ _⟩
  case round =>
    obtain ⟨k, hk, rfl, rfl, hok, hb⟩ := hrel
    have hsk := hsy.out k
    have hbw := hbox.out.below.trans (hb.mono (by omega))
    obtain ⟨-, b0, b1, b2, b3⟩ := hbox.out.cell wr hb
    by_cases hlt : k < l.length
    · obtain ⟨b, off, rfl, hbb, hd⟩ := h3.below hbw (by omega)
      obtain ⟨e0, e1, e2, e3⟩ := hd k hlt
      have q1 : decide ((k : Int) < (l.length : Nat)) = true := by simp; omega
      have hokk : Tb.ok l k = (Tb.wi (l.getD k default).li (2 * l.length) 200 && Tb.wi (l.getD k default).sz 1 8 && !Tb.has l k (l.getD k default).li) := rfl
      have hsyn0 : Tb.syn l (k + 1) = Tb.syn l k + (if (l.getD k default).sy then 1 else 0) := rfl
      generalize hdd0 : l.getD k default = d at *
      have hdd := Lib.hid hdd0
      have hsyn := Lib.hid hsyn0
      clear hdd0 hsyn0
      obtain ⟨sy, inf, li, sz⟩ := d
      simp only at e0 e1 e2 e3 hokk hsyn
      cases ha : Tb.wi li (2 * l.length) 200
      · have hA := hin li (2 * l.length) 200
        rw [ha] at hA
        have hfin := hbad k hlt (by rw [hokk, ha]; rfl)
        clear ha hokk hbad hS hs0 hs1
        go_wp2_with (go_at_call 22; refine (hA _).out.mono ?_; rintro e w1 ⟨rfl, rfl⟩)
        all_goals
          go_ret
          exact ⟨by rw [hfin.out]; simp, hbw.alloc hbw.size _⟩
      cases hz : Tb.wi sz 1 8
      · have hA := hin li (2 * l.length) 200
        rw [ha] at hA
        have hZ := hin sz 1 8
        rw [hz] at hZ
        have hfin := hbad k hlt (by rw [hokk, ha, hz]; rfl)
        clear ha hz hokk hbad hS hs0 hs1
        go_wp2_with (go_at_call 22; first | (with_reducible refine (hA _).out.mono ?_; rintro e w1 ⟨rfl, rfl⟩) | (refine (hZ _).out.mono ?_; rintro e w1 ⟨rfl, rfl⟩))
        all_goals
          go_ret
          exact ⟨by rw [hfin.out]; simp, hbw.alloc hbw.size _⟩
      have hA := hin li (2 * l.length) 200
      rw [ha] at hA
      have hZ := hin sz 1 8
      rw [hz] at hZ
      have hokk2 := Lib.hid (show Tb.ok l k = !Tb.has l k li by rw [hokk, ha, hz]; simp)
      have hokS := hS.out k
      rw [hok.out, hokk2.out] at hokS
      have hokS := Lib.hid hokS
      have hsy1 : ∃ S : Nat, S ≤ 8 ∧ Hid (Tb.syn l (k + 1) = S) ∧ (sy = true → (S : Int) = Tb.syn l k + 1) ∧ (sy = false → (S : Int) = Tb.syn l k) := by
        refine ⟨Tb.syn l (k + 1), by have := hsy.out (k + 1); omega, Lib.hid rfl, ?_, ?_⟩ <;> (rintro rfl; rw [hsyn.out]; simp)
      clear ha hz hokk hsyn
      cases sy
      all_goals
        go_wp2_with fail
      (focus
        have hbx := Lib.hid (box4 wr (.bool false) (.bool inf) (.int .i64 li) (.int .i64 sz) 41)
        generalize wr.alloc (.cells #[.bool false, .bool inf, .int .i64 li, .int .i64 sz] 41) = w2 at *)
      rotate_left 1
      (focus
        have hbx := Lib.hid (box4 wr (.bool true) (.bool inf) (.int .i64 li) (.int .i64 sz) 41)
        generalize wr.alloc (.cells #[.bool true, .bool inf, .int .i64 li, .int .i64 sz] 41) = w2 at *)
      all_goals
        have hb2 := hb.trans (hbx.out.below.mono hb.size)
        obtain ⟨S, hS8, hsS, hsT, hsF⟩ := hsy1
        refine (hA _).out.mono ?_
        rintro e w3 ⟨rfl, rfl⟩
        obtain ⟨hz2, d0, d1, d2, d3⟩ := hbx.out.cell w2 (Below.refl _ _)
        go_wp2_with fail
        refine (hZ _).out.mono ?_
        rintro e w3 ⟨rfl, rfl⟩
        have bb := Lib.hid (hbox.out.cell)
        have hb3 := Lib.hid h3
        have hs0 := Lib.hid (hs0.out li)
        clear e0 e1 e2 e3 hd b0 b1 b2 b3 h3 hA hZ d0 d1 d2 d3
        go_wp2
        go_loopw [7] (fun j wq => ∃ i : Nat, i ≤ k ∧ j = .int .i64 i ∧ Hid (Tb.has l i li = false) ∧ Below w2.heap.size w2 wq) (fun j _ => k - (intOf j).toNat)
        case atStart => exact ⟨0, by omega, rfl, hs0, Below.refl _ _⟩
        case round =>
          obtain ⟨j, hj, rfl, hnot, hbq⟩ := hrel
          have hbq2 := hb2.trans (hbq.mono hb2.size)
          obtain ⟨-, b0, b1, b2, b3⟩ := bb.out _ hbq2
          obtain ⟨-, d0, d1, d2, d3⟩ := hbx.out.cell _ hbq
          have hbq3 := hbox.out.below.trans (hbq2.mono (by omega))
          obtain ⟨bx, offx, hA, hbb', hd⟩ := hb3.out.below hbq3 (by omega)
          obtain ⟨e0, e1, e2, e3⟩ := hd j (by omega)
          have hA0 := hA
          simp only [Option.some.injEq, Addr.mk.injEq, and_true] at hA0
          obtain ⟨rfl, rfl⟩ := hA0
          clear hA hb3 bb hS hbox
          by_cases hjk : j < k
          · have q5 : decide ((j : Int) < (k : Nat)) = true := by simp; omega
            have p1 : (0 : Int) ≤ (j : Nat) := by omega
            have p2 : ((j : Nat) : Int) < (l.length : Nat) := by omega
            have hnext := Lib.hid (hs1.out j (by omega) li)
            generalize hx : (l.getD j default).li = x at *
            have hx := Lib.hid hx
            by_cases hxx : x = li
            · have hnx : Tb.has l (j + 1) li = true := by rw [hnext.out]; simp [hxx]
              have hfin := hbad k hlt (by rw [hokk2.out]; simp [Tb.has_mono (show j + 1 ≤ k by omega) hnx])
              subst hxx
              go_wp2_with fail
              go_quiet (fail)
              go_wp2
              go_ret
              exact ⟨by rw [hfin.out]; simp, below_drewN hbq3 _⟩
            · have hnx : Hid (Tb.has l (j + 1) li = false) := by
                have := hnext.out
                rw [hnot.out] at this
                exact this.trans (by simp [hxx])
              go_wp2_with fail
              go_quiet (fail)
              go_wp2
              exact ⟨⟨j + 1, by omega, by go_num, hnx, below_drewN hbq _⟩, by simp [intOf]; omega⟩
          · obtain rfl : j = k := by omega
            have q5 : decide ((j : Int) < (j : Nat)) = false := by simp
            go_wp2
            exact ⟨⟨j + 1, by omega, by go_num, by rw [hsS.out]; first | exact congrArg (Value.int .i64) (hsT (by simp)).symm | exact congrArg (Value.int .i64) (hsF (by simp)).symm, Lib.hid (by rw [hokS.out, hnot.out]; rfl), hbq2⟩, by simp [intOf]; omega⟩
    · obtain rfl : k = l.length := by omega
      have q1 : decide ((l.length : Int) < (l.length : Nat)) = false := by simp
      go_wp2
      go_ret
      exact ⟨by rw [hok.out]; simp; omega, hbw⟩
end Go.Proofs.Ytkaeikjfegjpjaa

/-! ### AuB -/
namespace Go.Proofs.Ytkaeikjfegjpjaa
open Go.RowKit
open Tb (D T)

set_option maxRecDepth 100000 in
set_option maxHeartbeats 4000000 in
theorem fault_au (dr wi lm : Int) (TA : Option Addr) (tn tc : Nat) (A' : Option Addr) (cc : Nat) (f : Ft) (w : World) (hw : 0 ≤ wi ∧ wi ≤ 1000) :
    Calls Try.prog 21 #[.agg #[.slice TA tn tc, .int .i64 dr, .int .i64 wi, .int .i64 lm], .agg #[.int .i64 f.k, .int .i64 f.n, .int .i64 f.a, .slice A' f.d.length cc]] w fun e w' => e = .returned (.bool (ftFair wi f)) ∧ Below w.heap.size w w' := by
  have hb1 := (Below.refl w.heap.size w).alloc (Nat.le_refl _) (.cells #[.slice TA tn tc, .int .i64 dr, .int .i64 wi, .int .i64 lm] 24)
  have hb2 := hb1.alloc hb1.size (.cells #[.int .i64 f.k, .int .i64 f.n, .int .i64 f.a, .slice A' f.d.length cc] 32)
  have hT := (Blk.new w _ rfl #[.slice TA tn tc, .int .i64 dr, .int .i64 wi, .int .i64 lm] 24).alloc (.cells #[.int .i64 f.k, .int .i64 f.n, .int .i64 f.a, .slice A' f.d.length cc] 32)
  have hF := Blk.new (w.alloc (.cells #[.slice TA tn tc, .int .i64 dr, .int .i64 wi, .int .i64 lm] 24)) (w.heap.size + 1) (by simp) #[.int .i64 f.k, .int .i64 f.n, .int .i64 f.a, .slice A' f.d.length cc] 32
  have hM := fun W => Lib.hid (show Calls Try.prog 26 #[.agg #[.int .i64 f.k, .int .i64 f.n, .int .i64 f.a, .slice A' f.d.length cc]] W fun e w' => e = .returned (.bool f.may) ∧ Below W.heap.size W w' from may_srr f.k f.n f.a A' f.d.length cc W)
  have K := Lib.hid (ftFair_iff wi f)
  have em := Lib.hid (ftMay_iff f.k f.n f.a f.d.length)
  change Hid (f.may = true ↔ _) at em
  have f0 := hF.cell 0 rfl
  have f1 := hF.cell 1 rfl
  have f2 := hF.cell 2 rfl
  have f3 := hF.cell 3 rfl
  generalize ftFair wi f = q at *
  generalize f.may = m at *
  generalize f.d.length = n at *
  generalize f.a = a at *
  generalize f.n = p at *
  generalize f.k = k at *
  have z1 : IntKind.i64.wrap (2 * wi) = 2 * wi := IntWalk.i64_in _ (by omega)
  have z2 : IntKind.i64.wrap (-2 * wi) = -2 * wi := IntWalk.i64_in _ (by omega)
  by_cases h5 : k = 5
  · subst h5
    go_enter Try.func21, Try.ntmps21
    go_wp2_with fail
    refine (hM _).out.mono ?_
    rintro e w1 ⟨rfl, hb⟩
    have t2 := (hT.below hb (by simp; omega)).cell 2 rfl
    have f0 := (hF.below hb (by simp)).cell 0 rfl
    have f2 := (hF.below hb (by simp)).cell 2 rfl
    have hB := Lib.hid (hb2.trans (hb.mono hb2.size))
    clear hb hT hF hb1 hb2 em
    by_cases h0 : a = 0
    · subst h0
      cases m
      all_goals
        go_wp2
        go_ret
        refine ⟨?_, hB.out⟩
        have K := K.out
        cases q <;> simp at K ⊢
    · have r0 : (a == 0) = false := by rw [beq_eq_false_iff_ne]; exact h0
      cases m
      all_goals
        go_wp2
        go_ret
        refine ⟨?_, hB.out⟩
        have K := K.out
        cases q <;> simp [h0] at K ⊢
  · have r5 : (k == 5) = false := by rw [beq_eq_false_iff_ne]; exact h5
    by_cases h6 : k = 6
    · subst h6
      go_enter Try.func21, Try.ntmps21
      go_wp2_with fail
      refine (hM _).out.mono ?_
      rintro e w1 ⟨rfl, hb⟩
      have t2 := (hT.below hb (by simp; omega)).cell 2 rfl
      have f0 := (hF.below hb (by simp)).cell 0 rfl
      have f2 := (hF.below hb (by simp)).cell 2 rfl
      have hB := Lib.hid (hb2.trans (hb.mono hb2.size))
      clear hb hT hF hb1 hb2 em
      cases m
      · go_wp2
        go_ret
        refine ⟨?_, hB.out⟩
        have K := K.out
        cases q <;> simp at K ⊢
      · by_cases p1 : 2 * wi < a
        · have r1 : decide (2 * wi < a) = true := decide_eq_true p1
          go_wp2
          go_ret
          refine ⟨?_, hB.out⟩
          have K := K.out
          cases q <;> simp at K ⊢ <;> omega
        · have r1 : decide (2 * wi < a) = false := decide_eq_false p1
          go_wp2
          go_ret
          refine ⟨?_, hB.out⟩
          have K := K.out
          by_cases p2 : a < -2 * wi
          · cases q <;> simp [p2] at K ⊢ <;> omega
          · cases q <;> simp [p2] at K ⊢ <;> omega
    · have r6 : (k == 6) = false := by rw [beq_eq_false_iff_ne]; exact h6
      go_enter Try.func21, Try.ntmps21
      go_wp2_with fail
      refine (hM _).out.mono ?_
      rintro e w1 ⟨rfl, hb⟩
      have t2 := (hT.below hb (by simp; omega)).cell 2 rfl
      have f0 := (hF.below hb (by simp)).cell 0 rfl
      have f2 := (hF.below hb (by simp)).cell 2 rfl
      have hB := Lib.hid (hb2.trans (hb.mono hb2.size))
      clear hb hT hF hb1 hb2 em
      cases m
      all_goals
        go_wp2
        go_ret
        refine ⟨?_, hB.out⟩
        have K := K.out
        cases q <;> simp [h5, h6] at K ⊢
end Go.Proofs.Ytkaeikjfegjpjaa

/-! ### AuC -/
namespace Go.Proofs.Ytkaeikjfegjpjaa
open Go.RowKit
open Tb (D T)

theorem is_win {t : T} (h : t.is = true) : (0 ≤ t.wi ∧ t.wi ≤ 1000) ∧ t.ns.length ≤ 8 := by
  simp only [T.is, Tb.are, Tb.rest, Bool.and_eq_true, Tb.wi_iff] at h
  omega
set_option maxRecDepth 100000 in
set_option maxHeartbeats 4000000 in
theorem Fair_au (t : T) (tv v : Value) (l : List Ac) (w : World) (htv : SeesT w w.heap.size tv t.ns) (hs : SeesAc w w.heap.size v l) (hl : l.length < 1000000) :
    Calls Try.prog 11 #[tabV t tv, v] w fun e w' => e = .returned (.bool (auFair t l)) ∧ Below w.heap.size w w' := by
  obtain ⟨TA, tc, rfl, htc, -⟩ := htv.at_
  have hIs := fun W (h : SeesT W W.heap.size (.slice TA t.ns.length tc) t.ns) => Lib.hid (is_tb t _ W _ (Nat.le_refl _) h)
  have hwin := @is_win t
  obtain ⟨ns, dr, wi, lm⟩ := t
  simp only at htv hs hIs hwin
  unfold tabV at hIs ⊢
  simp only at hIs ⊢
  have hb0 := (Below.refl w.heap.size w).alloc (Nat.le_refl _) (.cells #[.slice TA ns.length tc, .int .i64 dr, .int .i64 wi, .int .i64 lm] 24)
  have hT := Blk.new w _ rfl #[.slice TA ns.length tc, .int .i64 dr, .int .i64 wi, .int .i64 lm] 24
  have hI := hIs _ ((htv.below hb0).more (by simp))
  have hs0 := (hs.below hb0).more (B' := (w.alloc (.cells #[.slice TA ns.length tc, .int .i64 dr, .int .i64 wi, .int .i64 lm] 24)).heap.size) (by simp)
  have hz0 := hT.lt
  cases his : T.is ⟨ns, dr, wi, lm⟩
  · have er : auFair ⟨ns, dr, wi, lm⟩ l = false := by simp [auFair, his]
    rw [er]
    rw [his] at hI
    clear hIs
    obtain ⟨A, c, rfl, -⟩ := hs.at_
    go_enter Try.func11, Try.ntmps11
    go_wp2_with fail
    refine hI.out.mono ?_
    rintro e w1 ⟨rfl, hb⟩
    go_wp2
    go_ret
    exact ⟨rfl, hb0.trans (hb.mono hb0.size)⟩
  · obtain ⟨hw, hn8⟩ := hwin his
    have er : auFair ⟨ns, dr, wi, lm⟩ l = (auAt (3 * ns.length) wi l l.length).isSome := by simp [auFair, his]
    rw [er]
    rw [his] at hI
    have hF := fun u f W (h : SeesF W W.heap.size u f) => Lib.hid (fair_au dr wi lm TA ns.length tc u f W hw h)
    have hZ := Lib.hid (auAt_zero (3 * ns.length) wi l)
    have hS := fun k h => Lib.hid (auAt_succ (3 * ns.length) wi l k h)
    have hN := fun k h1 h2 => Lib.hid (auAt_none (3 * ns.length) wi l k h1 h2)
    have hQ := fun k q h1 h2 => auAt_le (3 * ns.length) wi l k q h1 h2
    have z3 : IntKind.i64.wrap (3 * (ns.length : Int)) = 3 * ns.length := IntWalk.i64_in _ (by omega)
    clear hIs er his hwin htv htc
    generalize ns.length = n at *
    obtain ⟨A, c, rfl, hlen, hc, hcell⟩ := hs.at_
    unfold maxLen at hc
    clear hs0 hs
    go_enter Try.func11, Try.ntmps11
    go_wp2_with fail
    refine hI.out.mono ?_
    rintro e w1 ⟨rfl, hb⟩
    have hB1 := hb0.trans (hb.mono hb0.size)
    have hT1 := hT.below hb hz0
    have t0 := hT1.cell 0 rfl
    clear hT hb hI hb0 hz0
    go_wp2_with fail
    clear t0
    go_loopw [6, 19] (fun q i wr => ∃ k Q : Nat, k ≤ l.length ∧ i = .int .i64 k ∧ q = .int .i64 Q ∧ Hid (auAt (3 * n) wi l k = some Q) ∧ Blk wr w.heap.size #[.slice TA n tc, .int .i64 dr, .int .i64 wi, .int .i64 lm] 24 ∧ Below w.heap.size w wr) (fun _ i _ => l.length - (intOf i).toNat)
    case atStart => exact ⟨0, 3 * n, by omega, rfl, by push_cast; rfl, hZ, hT1, hB1⟩
    case round =>
      clear hT1 hB1
      obtain ⟨k, Q, hk, rfl, rfl, hq, hT, hB⟩ := hrel
      by_cases hlt : k < l.length
      · have q1 : decide ((k : Int) < (l.length : Nat)) = true := by simp; omega
        obtain ⟨b, off, rfl, hbb, hd⟩ := hcell (by omega)
        obtain ⟨c0, c1, c2, ⟨vd, c3, sd⟩, vf, c4, sf⟩ := (hd k hlt).below hB hbb
        have hQle := hQ k Q hk hq.out
        have hS := hS k hlt
        have hN := fun h => hN (k + 1) (by omega) h
        have hS : Hid (auAt (3 * n) wi l (k + 1) = auStep (3 * n) wi (some Q) (l.getD k default)) := Lib.hid (by rw [hS.out, hq.out])
        clear hd hcell hq hQ
        generalize l.getD k default = x at *
        obtain ⟨Ad, cd, rfl, -⟩ := sd.at_
        obtain ⟨Af, cf, rfl, -⟩ := sf.at_
        have z1 : IntKind.i64.wrap ((Q : Int) + 1) = (Q : Int) + 1 := IntWalk.i64_in _ (by omega)
        have hBx := Lib.hid (hB.alloc hB.size (.cells #[.int .i64 x.k, .int .i64 x.i, .int .i64 x.n, .slice Ad x.d.length cd, .slice Af x.f.length cf] 35))
        have hTx := hT.alloc (.cells #[.int .i64 x.k, .int .i64 x.i, .int .i64 x.n, .slice Ad x.d.length cd, .slice Af x.f.length cf] 35)
        have t0 := hTx.cell 0 rfl
        have t1 := hTx.cell 1 rfl
        have t2 := hTx.cell 2 rfl
        have t3 := hTx.cell 3 rfl
        have sfx := hF _ _ _ ((sf.below ((Below.refl w.heap.size wr).alloc hB.size (.cells #[.int .i64 x.k, .int .i64 x.i, .int .i64 x.n, .slice Ad x.d.length cd, .slice Af x.f.length cf] 35))).more hBx.out.size)
        have hTx := Lib.hid hTx
        clear hF hT hB sf sd
        have hlt2 : wr.heap.size < (wr.alloc (.cells #[.int .i64 x.k, .int .i64 x.i, .int .i64 x.n, .slice Ad x.d.length cd, .slice Af x.f.length cf] 35)).heap.size := by simp
        generalize x.d.length = nd at *
        generalize hnf : x.f.length = nf at *
        have hnf := Lib.hid hnf
        generalize hxk : x.k = xk at *
        have hxk := Lib.hid hxk
        have eS : auStep (3 * n) wi (some Q) x = if xk = 3 ∨ xk = 4 then some Q else if xk ≠ 5 then none else if nf = 0 then some (Q + 1) else if Q < 3 * n ∨ fsFair wi x.f = false then none else some 0 := by
          rw [← hxk.out, ← hnf.out]; rfl
        rw [eS] at hS
        clear eS hxk hnf
        generalize fsFair wi x.f = m at *
        by_cases h34 : xk = 3 ∨ xk = 4
        · rw [if_pos h34] at hS
          rcases h34 with rfl | rfl
          all_goals
            go_wp2
            go_roundw
            case rel => exact ⟨k + 1, Q, by omega, by go_num, rfl, hS, hTx.out, hBx.out⟩
            case measure => simp [intOf]; omega
        · rw [if_neg h34] at hS
          have r3 : (xk == 3) = false := by rw [beq_eq_false_iff_ne]; omega
          have r4 : (xk == 4) = false := by rw [beq_eq_false_iff_ne]; omega
          by_cases h5 : xk = 5
          · subst h5
            rw [if_neg (by omega)] at hS
            by_cases h0 : nf = 0
            · rw [if_pos h0] at hS
              subst h0
              go_wp2
              go_roundw
              case rel => exact ⟨k + 1, Q + 1, by omega, by go_num, by push_cast; rfl, hS, hTx.out, hBx.out⟩
              case measure => simp [intOf]; omega
            · rw [if_neg h0] at hS
              have r0 : ((nf : Int) == 0) = false := by rw [beq_eq_false_iff_ne]; omega
              by_cases hQ3 : Q < 3 * n
              · have r6 : decide ((Q : Int) < 3 * (n : Int)) = true := decide_eq_true (by omega)
                rw [if_pos (.inl hQ3)] at hS
                go_wp2
                go_ret
                exact ⟨by rw [hN hS.out]; rfl, hBx.out⟩
              · have r6 : decide ((Q : Int) < 3 * (n : Int)) = false := decide_eq_false (by omega)
                cases m
                all_goals
                  go_wp2_with fail
                  refine sfx.out.mono ?_
                  rintro e w3 ⟨rfl, hb3⟩
                  have hB3 := hBx.out.trans (hb3.mono hBx.out.size)
                  have hT3 := hTx.out.below hb3 (Nat.lt_of_lt_of_le hTx.out.lt (Nat.le_refl _))
                  clear sfx hTx hBx t0 t1 t2 t3
                  go_wp2
                · go_ret
                  exact ⟨by rw [hN (by rw [hS.out]; simp)]; rfl, hB3⟩
                · go_roundw
                  case rel => exact ⟨k + 1, 0, by omega, by go_num, rfl, Lib.hid (by rw [hS.out]; simp [hQ3]), hT3, hB3⟩
                  case measure => simp [intOf]; omega
          · have r5 : (xk == 5) = false := by rw [beq_eq_false_iff_ne]; exact h5
            rw [if_pos h5] at hS
            go_wp2
            go_ret
            exact ⟨by rw [hN hS.out]; rfl, hBx.out⟩
      · obtain rfl : k = l.length := by omega
        have q1 : decide ((l.length : Int) < (l.length : Nat)) = false := by simp
        go_wp2
        go_ret
        exact ⟨by rw [hq.out]; rfl, hB⟩
end Go.Proofs.Ytkaeikjfegjpjaa
