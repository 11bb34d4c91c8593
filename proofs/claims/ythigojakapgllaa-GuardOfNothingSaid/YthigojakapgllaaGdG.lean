/- The contract of the laws' own 'known' (matronlaw6). -/
import Derived.Test.YthigojakapgllaaGdE
import Derived.Test.YthigojakapgllaaGdF
namespace Go.Proofs.Ythigojakapgllaa
open Go.RowKit
open Tb (D T)

/-- New of some(n, drift). -/
theorem new_some {B : Nat} (n : Nat) (dr : Int) (h4 : 4 ≤ n) (h8 : n ≤ 8) (hd : 0 ≤ dr ∧ dr ≤ 200) (v : Value) (w : World) (hv : OwnsD w B v (someL n)) :
    Calls Try.prog 11 #[.agg #[v, .int .i64 dr, .int .i64 (4 * dr + 6), .int .i64 (4 * dr + 9)]] w fun e w' => ∃ g, e = .returned (.tuple #[.pointer (some ⟨g, 0, none⟩), .int .i64 0]) ∧ w.heap.size ≤ g ∧ GAt w' g (newG (someT n dr)) ∧ Below w.heap.size w w' :=
  new_yes (someT n dr) v w hv.sees (some_is n dr h4 h8 hd)
set_option maxRecDepth 100000 in
set_option maxHeartbeats 4000000 in
theorem known_gd (w : World) : Calls Try.prog 17 #[] w fun e w' => e = .returned (.bool true) ∧ Below w.heap.size w w' := by
  have hs := fun W => Lib.hid (show Calls Try.prog 12 #[.int .i64 4, .int .i64 1] W fun e w' => ∃ v, e = .returned (.agg #[v, .int .i64 1, .int .i64 10, .int .i64 13]) ∧ OwnsD w' W.heap.size v (someL 4) ∧ Below W.heap.size W w' from some_gd 4 1 (by omega) (by omega) W)
  have hN := fun v W B (h : OwnsD W B v (someL 4)) => Lib.hid (show Calls Try.prog 11 #[.agg #[v, .int .i64 1, .int .i64 10, .int .i64 13]] W fun e w' => ∃ g, e = .returned (.tuple #[.pointer (some ⟨g, 0, none⟩), .int .i64 0]) ∧ W.heap.size ≤ g ∧ GAt w' g (newG (someT 4 1)) ∧ Below W.heap.size W w' from new_some 4 1 (by omega) (by omega) (by omega) v W h)
  have hZ := fun W => Lib.hid (show Calls Try.prog 11 #[.agg #[.slice none 0 0, .int .i64 0, .int .i64 0, .int .i64 0]] W fun e w' => e = .returned (.tuple #[.pointer none, .int .i64 1]) ∧ Below W.heap.size W w' from new_no Tb.zero (.slice none 0 0) W SeesT.nil Tb.zero_is)
  have hP := fun g W (h : GAt W g (newG (someT 4 1))) => Lib.hid (show Calls Try.prog 16 #[.pointer (some ⟨g, 0, none⟩), .agg #[.bool false, .bool false, .bool true, .bool true, .bool false, .bool false, .bool false, .bool false], .agg #[.int .i64 0, .int .i64 0, .int .i64 0, .int .i64 0, .int .i64 0, .int .i64 0, .int .i64 0, .int .i64 0]] W fun e w' => e = .returned (.int .i64 2) ∧ Below W.heap.size W w' from
    pass_gd g (newG (someT 4 1)) (fun k => [false, false, true, true, false, false, false, false].getD k false) (fun _ => 0) W h (by decide) (by decide) (by unfold time newG; simp) (by unfold time; simp) (by decide))
  generalize newG (someT 4 1) = s at *
  generalize someL 4 = ls at *
  go_enter Try.func17, Try.ntmps17
  go_wp2_with fail
  refine (hs w).out.mono ?_
  rintro e w1 ⟨v1, rfl, ho1, hb1⟩
  go_wp2_with fail
  refine (hN v1 w1 _ ho1).out.mono ?_
  rintro e w2 ⟨g, rfl, hg, hG, hb⟩
  have hb2 := hb1.trans (hb.mono hb1.size)
  clear hb
  go_wp2_with fail
  refine (hZ w2).out.mono ?_
  rintro e w3 ⟨rfl, hb⟩
  have hG3 := hG.below hb hG.lt
  have hb3 := hb2.trans (hb.mono hb2.size)
  clear hb hG
  go_wp2_with fail
  refine (hP g w3 hG3).out.mono ?_
  rintro e w4 ⟨rfl, hb⟩
  have hb4 := hb3.trans (hb.mono hb3.size)
  go_wp2
  go_ret
  exact ⟨rfl, hb4⟩
end Go.Proofs.Ythigojakapgllaa
