/- The contracts of package table's bounds and of the search for a number among nodes. -/
import Derived.Test.YthigojakapgllaaTbA
import Derived.Deep.RegionHeld3
import Derived.Deep.RegionLaw
import Derived.RegionTactic
namespace Go.Proofs.Ythigojakapgllaa
open Go.RowKit
open Tb (D T)

theorem within_tb (n a b : Int) (w : World) : Calls Try.prog 31 #[.int .i64 n, .int .i64 a, .int .i64 b] w fun e w' => e = .returned (.bool (Tb.wi n a b)) ∧ w = w' := by
  unfold Tb.wi
  by_cases h : a ≤ n
  all_goals
    go_enter Try.func31, Try.ntmps31
    go_wp2
    go_ret
    exact ⟨by simp [*] <;> omega, rfl⟩
theorem asks_tb (d : D) (n : Int) (q : Nat) (w : World) (hq : w.cell? ⟨q, 0, none⟩ = some (.int .i64 n)) :
    Calls Try.prog 49 #[dV d, .pointer (some ⟨q, 0, none⟩)] w fun e w' => e = .returned (.bool (decide (d.li = n))) ∧ Below w.heap.size w w' := by
  unfold dV
  have hq2 := fun o => Lib.cell?_alloc_some o hq
  go_enter Try.func49, Try.ntmps49
  go_wp2
  go_ret
  exact ⟨rfl, (Below.refl _ _).alloc (Nat.le_refl _) _⟩

theorem index_tb (A : Option Addr) (c : Nat) (l : List D) (n : Int) (q : Nat) (w : World) (hs : SeesD w w.heap.size A l) (hlen : l.length ≤ c) (hc : c ≤ maxLen) (hq : w.cell? ⟨q, 0, none⟩ = some (.int .i64 n)) :
    Calls Try.prog 55 #[.slice A l.length c, .func (.func 49) #[] #[.pointer (some ⟨q, 0, none⟩)]] w fun e w' =>
      ∃ r : Int, e = .returned (.int .i64 r) ∧ decide (0 ≤ r) = Tb.has l l.length n ∧ Below w.heap.size w w' := by
  have hqlt := World.block_lt_of_cell? w _ hq
  unfold maxLen at hc
  have h0 := Lib.hid (Tb.has_zero l n)
  have hS := Lib.hid (Tb.has_succ l)
  go_enter Try.func55, Try.ntmps55
  go_wp2
  go_loopw [8] (fun i wr => ∃ k : Nat, k ≤ l.length ∧ i = .int .i64 k ∧ Hid (Tb.has l k n = false) ∧ Below w.heap.size w wr) (fun i _ => l.length - (intOf i).toNat)
  case atStart => exact ⟨0, by omega, rfl, h0, Below.refl _ _⟩
  case round =>
    obtain ⟨k, hk, rfl, hn, hb⟩ := hrel
    by_cases hlt : k < l.length
    · obtain ⟨b, off, rfl, hbb, hd⟩ := hs.below hb (by omega)
      obtain ⟨e0, e1, e2, e3⟩ := hd k hlt
      have q1 : decide ((k : Int) < (l.length : Nat)) = true := by simp; omega
      have hq2 := (hb.cell (p := ⟨q, 0, none⟩) hqlt).trans hq
      have hcall := Lib.hid (asks_tb (l.getD k default) n q wr hq2)
      unfold dV at hcall
      generalize hdd : l.getD k default = d at *
      have hdd := Lib.hid hdd
      cases hdn : decide (d.li = n)
      all_goals
        rw [hdn] at hcall
        go_wp2_with fail
        refine hcall.out.mono ?_
        rintro e w1 ⟨rfl, hb1⟩
        have hb2 := hb.trans (hb1.mono hb.size)
        clear hcall
        go_wp2
      · go_roundw
        case rel => exact ⟨k + 1, by omega, by go_num, Lib.hid (by rw [hS.out k hlt, hn.out, hdd.out]; exact hdn), hb2⟩
        case measure => simp [intOf]; omega
      · go_ret
        refine ⟨k, rfl, ?_, hb2⟩
        have hT : Tb.has l (k + 1) n = true := by rw [hS.out k hlt, hdd.out, hdn]; simp
        rw [Tb.has_more hlt hT]
        simp
    · obtain rfl : k = l.length := by omega
      have q1 : decide ((l.length : Int) < (l.length : Nat)) = false := by simp
      go_wp2
      go_ret
      exact ⟨-1, rfl, by rw [hn.out]; decide, hb⟩
end Go.Proofs.Ythigojakapgllaa
