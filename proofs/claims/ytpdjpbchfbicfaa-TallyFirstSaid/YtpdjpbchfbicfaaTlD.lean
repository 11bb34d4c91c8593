/- The law's 'do': an act on the code's tally and the document's. For tallies that are alike, and counts that may be. -/
import Derived.Test.YtpdjpbchfbicfaaTlB
namespace Go.Proofs.Ytpdjpbchfbicfaa
open Go.RowKit

/-- An act. -/
def TS.act (s : TS) (k n : Int) : TS := if k = 1 then s.right n else if k = 2 then s.wrong n else if k = 3 then s.miss n else if k = 4 then s.join n else if k = 5 then s.clear else s
theorem TS.act_a (s : TS) (k n : Int) : (s.act k n).a ≤ s.a + 1 := by
  unfold TS.act TS.right TS.wrong TS.miss TS.join TS.clear
  repeat' split
  all_goals simp
theorem TS.act_f (s : TS) (k n : Int) : (s.act k n).f ≤ s.f + 1 := by
  unfold TS.act TS.right TS.wrong TS.miss TS.join TS.clear
  repeat' split
  all_goals simp

set_option maxRecDepth 100000 in
set_option maxHeartbeats 1000000 in
theorem do_tl (B g g' : Nat) (s : TS) (k n : Int) (w : World) (h : TAt 45 w g s) (h' : TAt 34 w g' s) (ha : s.a < 1000) (hf : s.f < 1000) (hne : g ≠ g') (hB : B ≤ g) (hB' : B ≤ g') :
    Calls Try.prog 13 #[.pointer (some ⟨g, 0, none⟩), .pointer (some ⟨g', 0, none⟩), .agg #[.int .i64 k, .int .i64 n]] w fun e w' => e = .returned (.tuple #[]) ∧ TAt 45 w' g (s.act k n) ∧ TAt 34 w' g' (s.act k n) ∧ Below B w w' := by
  have hb := ((Below.refl B w).alloc (Nat.le_trans hB (Nat.le_of_lt h.lt)) (.cells #[.int .i64 k, .int .i64 n] 29))
  have hx := Blk.new w w.heap.size rfl #[.int .i64 k, .int .i64 n] 29
  have h1 : TAt 45 (w.alloc (.cells #[.int .i64 k, .int .i64 n] 29)) g s := ⟨h.1.alloc _, h.2⟩
  have h2 : TAt 34 (w.alloc (.cells #[.int .i64 k, .int .i64 n] 29)) g' s := ⟨h'.1.alloc _, h'.2⟩
  have hxg : w.heap.size ≠ g := fun e => Nat.lt_irrefl _ (e ▸ h.lt)
  have hxg' : w.heap.size ≠ g' := fun e => Nat.lt_irrefl _ (e ▸ h'.lt)
  have c0 := hx.cell 0 (x := .int .i64 k) rfl
  have c1 := hx.cell 1 (x := .int .i64 n) rfl
  by_cases k1 : k = 1
  · subst k1
    have T := fun W (h : TAt 45 W g s) => Lib.hid (right_tl g s n W h ha)
    have X := fun W (h : TAt 34 W g' s) => Lib.hid (right_rf g' s n W h ha)
    rw [show s.act 1 n = s.right n by unfold TS.act; simp]
    generalize s.right n = u at *
    clear h h'
    go_enter Try.func13, Try.ntmps13
    go_wp2_with fail
    refine (T _ h1).out.mono ?_
    rintro _ w2 ⟨rfl, u1, o1⟩
    have hx2 := hx.only o1 hxg
    have u2 := h2.only o1 (Ne.symm hne)
    have b2 := hb.trans (o1.below hB h1.lt)
    clear hx hb h1 h2 o1 c0 c1
    have c1 := hx2.cell 1 (x := .int .i64 n) rfl
    go_wp2_with fail
    refine (X _ u2).out.mono ?_
    rintro _ w3 ⟨rfl, u3, o3⟩
    have b3 := b2.trans (o3.below hB' u2.lt)
    have u4 := u1.only o3 hne
    clear u1 u2 hx2 b2 o3 c1
    go_wp2
    exact bodyPost_end (results_none (by rfl) _ _ _) rfl ⟨rfl, u4, u3, b3⟩
  by_cases k2 : k = 2
  · subst k2
    have T := fun W (h : TAt 45 W g s) => Lib.hid (wrong_tl g s n W h hf)
    have X := fun W (h : TAt 34 W g' s) => Lib.hid (wrong_rf g' s n W h hf)
    rw [show s.act 2 n = s.wrong n by unfold TS.act; simp]
    generalize s.wrong n = u at *
    clear h h'
    go_enter Try.func13, Try.ntmps13
    go_wp2_with fail
    refine (T _ h1).out.mono ?_
    rintro _ w2 ⟨rfl, u1, o1⟩
    have hx2 := hx.only o1 hxg
    have u2 := h2.only o1 (Ne.symm hne)
    have b2 := hb.trans (o1.below hB h1.lt)
    clear hx hb h1 h2 o1 c0 c1
    have c1 := hx2.cell 1 (x := .int .i64 n) rfl
    go_wp2_with fail
    refine (X _ u2).out.mono ?_
    rintro _ w3 ⟨rfl, u3, o3⟩
    have b3 := b2.trans (o3.below hB' u2.lt)
    have u4 := u1.only o3 hne
    clear u1 u2 hx2 b2 o3 c1
    go_wp2
    exact bodyPost_end (results_none (by rfl) _ _ _) rfl ⟨rfl, u4, u3, b3⟩
  by_cases k3 : k = 3
  · subst k3
    have T := fun W (h : TAt 45 W g s) => Lib.hid (miss_tl g s n W h)
    have X := fun W (h : TAt 34 W g' s) => Lib.hid (miss_rf g' s n W h)
    rw [show s.act 3 n = s.miss n by unfold TS.act; simp]
    generalize s.miss n = u at *
    clear h h'
    go_enter Try.func13, Try.ntmps13
    go_wp2_with fail
    refine (T _ h1).out.mono ?_
    rintro _ w2 ⟨rfl, u1, o1⟩
    have hx2 := hx.only o1 hxg
    have u2 := h2.only o1 (Ne.symm hne)
    have b2 := hb.trans (o1.below hB h1.lt)
    clear hx hb h1 h2 o1 c0 c1
    have c1 := hx2.cell 1 (x := .int .i64 n) rfl
    go_wp2_with fail
    refine (X _ u2).out.mono ?_
    rintro _ w3 ⟨rfl, u3, o3⟩
    have b3 := b2.trans (o3.below hB' u2.lt)
    have u4 := u1.only o3 hne
    clear u1 u2 hx2 b2 o3 c1
    go_wp2
    exact bodyPost_end (results_none (by rfl) _ _ _) rfl ⟨rfl, u4, u3, b3⟩
  by_cases k4 : k = 4
  · subst k4
    have T := fun W (h : TAt 45 W g s) => Lib.hid (join_tl g s n W h)
    have X := fun W (h : TAt 34 W g' s) => Lib.hid (join_rf g' s n W h)
    rw [show s.act 4 n = s.join n by unfold TS.act; simp]
    generalize s.join n = u at *
    clear h h'
    go_enter Try.func13, Try.ntmps13
    go_wp2_with fail
    refine (T _ h1).out.mono ?_
    rintro _ w2 ⟨rfl, u1, o1⟩
    have hx2 := hx.only o1 hxg
    have u2 := h2.only o1 (Ne.symm hne)
    have b2 := hb.trans (o1.below hB h1.lt)
    clear hx hb h1 h2 o1 c0 c1
    have c1 := hx2.cell 1 (x := .int .i64 n) rfl
    go_wp2_with fail
    refine (X _ u2).out.mono ?_
    rintro _ w3 ⟨rfl, u3, o3⟩
    have b3 := b2.trans (o3.below hB' u2.lt)
    have u4 := u1.only o3 hne
    clear u1 u2 hx2 b2 o3 c1
    go_wp2
    exact bodyPost_end (results_none (by rfl) _ _ _) rfl ⟨rfl, u4, u3, b3⟩
  by_cases k5 : k = 5
  · subst k5
    have T := fun W (h : TAt 45 W g s) => Lib.hid (clear_tl g s W h)
    have X := fun W (h : TAt 34 W g' s) => Lib.hid (clear_rf g' s W h)
    rw [show s.act 5 n = s.clear by unfold TS.act; simp]
    generalize s.clear = u at *
    clear h h'
    go_enter Try.func13, Try.ntmps13
    go_wp2_with fail
    refine (T _ h1).out.mono ?_
    rintro _ w2 ⟨rfl, u1, o1⟩
    have hx2 := hx.only o1 hxg
    have u2 := h2.only o1 (Ne.symm hne)
    have b2 := hb.trans (o1.below hB h1.lt)
    clear hx hb h1 h2 o1 c0 c1
    have c1 := hx2.cell 1 (x := .int .i64 n) rfl
    go_wp2_with fail
    refine (X _ u2).out.mono ?_
    rintro _ w3 ⟨rfl, u3, o3⟩
    have b3 := b2.trans (o3.below hB' u2.lt)
    have u4 := u1.only o3 hne
    clear u1 u2 hx2 b2 o3 c1
    go_wp2
    exact bodyPost_end (results_none (by rfl) _ _ _) rfl ⟨rfl, u4, u3, b3⟩
  have hs : s.act k n = s := by unfold TS.act; rw [if_neg k1, if_neg k2, if_neg k3, if_neg k4, if_neg k5]
  rw [hs]
  clear hs h h'
  go_enter Try.func13, Try.ntmps13
  go_wp2
  exact bodyPost_end (results_none (by rfl) _ _ _) rfl ⟨rfl, h1, h2, hb⟩
end Go.Proofs.Ytpdjpbchfbicfaa
