/- The contracts of Is, of both sides' bounds. -/
import Derived.Test.YthigojakapgllaaTbD
namespace Go.Proofs.Ythigojakapgllaa
open Go.RowKit
open Tb (D T)

/-- The bounds of an int. -/
def i64 (x : Int) : Prop := -9223372036854775808 ≤ x ∧ x ≤ 9223372036854775807

set_option maxHeartbeats 2000000 in
theorem is_tb (t : T) (v : Value) (w : World) (B : Nat) (hB : B ≤ w.heap.size) (hv : SeesT w B v t.ns) :
    Calls Try.prog 19 #[tabV t v] w fun e w' => e = .returned (.bool t.is) ∧ Below w.heap.size w w' := by
  obtain ⟨A, c, rfl, h1, h2, h3, -⟩ := hv.at_
  obtain ⟨ns, dr, wi, lm⟩ := t
  simp only at h1 h3
  have hn := fun W (hb : Below w.heap.size w W) => areNodes_tb A c ns W (((h3.more hB).below hb).more hb.size) h1 h2
  have hin := fun n a b W => Lib.hid (within_tb n a b W)
  have hres : T.is ⟨ns, dr, wi, lm⟩ = (Tb.are ns && (Tb.wi dr 0 1000 && (Tb.wi wi (4 * dr + 2) 1000 && Tb.wi lm wi 1000))) := rfl
  rw [hres]
  clear hres hv h3
  unfold maxLen at h2
  unfold tabV
  simp only
  generalize Tb.are ns = q at *
  have hn := fun W hb => Lib.hid (hn W hb)
  generalize ns.length = n at *
  have hq : ∀ n a b t, Tb.wi n a b = t → ∀ W, Hid (Calls Try.prog 31 #[.int .i64 n, .int .i64 a, .int .i64 b] W fun e w' => e = .returned (.bool t) ∧ W = w') := by
    rintro n a b t rfl W
    exact hin n a b W
  have hbox := Lib.hid (box4 w (.slice A n c) (.int .i64 dr) (.int .i64 wi) (.int .i64 lm) 30)
  cases q
  · go_enter Try.func19, Try.ntmps19
    go_wp2_with fail
    refine (hn _ hbox.out.below).out.mono ?_
    rintro e w1 ⟨rfl, hb⟩
    go_wp2
    go_ret
    exact ⟨rfl, hbox.out.below.trans (hb.mono hbox.out.below.size)⟩
  cases q1 : Tb.wi dr 0 1000
  · have f1 := hq _ _ _ _ q1
    clear q1 hq hin
    go_enter Try.func19, Try.ntmps19
    go_wp2_with fail
    refine (hn _ hbox.out.below).out.mono ?_
    rintro e w1 ⟨rfl, hb⟩
    obtain ⟨-, c0, c1, c2, c3⟩ := hbox.out.cell w1 hb
    go_wp2_with fail
    refine (f1 _).out.mono ?_
    rintro e w2 ⟨rfl, rfl⟩
    go_wp2
    go_ret
    exact ⟨rfl, hbox.out.below.trans (hb.mono hbox.out.below.size)⟩
  have wr0 : IntKind.i64.wrap (4 * dr) = 4 * dr := IntWalk.i64_in _ (by have := (Tb.wi_iff _ _ _).1 q1; omega)
  have wr1 : IntKind.i64.wrap (4 * dr + 2) = 4 * dr + 2 := IntWalk.i64_in _ (by have := (Tb.wi_iff _ _ _).1 q1; omega)
  cases q2 : Tb.wi wi (4 * dr + 2) 1000
  · have f1 := hq _ _ _ _ q1
    have f2 := hq _ _ _ _ q2
    clear q1 q2 hq hin
    go_enter Try.func19, Try.ntmps19
    go_wp2_with fail
    refine (hn _ hbox.out.below).out.mono ?_
    rintro e w1 ⟨rfl, hb⟩
    obtain ⟨-, c0, c1, c2, c3⟩ := hbox.out.cell w1 hb
    go_wp2_with fail
    refine (f1 _).out.mono ?_
    rintro e w2 ⟨rfl, rfl⟩
    go_wp2_with fail
    refine (f2 _).out.mono ?_
    rintro e w2 ⟨rfl, rfl⟩
    go_wp2
    go_ret
    exact ⟨rfl, hbox.out.below.trans (hb.mono hbox.out.below.size)⟩
  · have f1 := hq _ _ _ _ q1
    have f2 := hq _ _ _ _ q2
    clear q1 q2 hq
    generalize hr : Tb.wi lm wi 1000 = r at *
    have f3 := fun W => hin lm wi 1000 W
    rw [hr] at f3
    clear hr hin
    go_enter Try.func19, Try.ntmps19
    go_wp2_with fail
    refine (hn _ hbox.out.below).out.mono ?_
    rintro e w1 ⟨rfl, hb⟩
    obtain ⟨-, c0, c1, c2, c3⟩ := hbox.out.cell w1 hb
    go_wp2_with fail
    refine (f1 _).out.mono ?_
    rintro e w2 ⟨rfl, rfl⟩
    go_wp2_with fail
    refine (f2 _).out.mono ?_
    rintro e w2 ⟨rfl, rfl⟩
    go_wp2_with fail
    refine (f3 _).out.mono ?_
    rintro e w2 ⟨rfl, rfl⟩
    go_wp2
    go_ret
    exact ⟨rfl, hbox.out.below.trans (hb.mono hbox.out.below.size)⟩
end Go.Proofs.Ythigojakapgllaa
