/- The contracts of package table's search and of its nodes. -/
import Derived.Test.YthigojakapgllaaTbB
namespace Go.Proofs.Ythigojakapgllaa
open Go.RowKit
open Tb (D T)

theorem contains_tb (A : Option Addr) (c : Nat) (l : List D) (n : Int) (q : Nat) (w : World) (hs : SeesD w w.heap.size A l) (hlen : l.length ≤ c) (hc : c ≤ maxLen) (hq : w.cell? ⟨q, 0, none⟩ = some (.int .i64 n)) :
    Calls Try.prog 48 #[.slice A l.length c, .func (.func 49) #[] #[.pointer (some ⟨q, 0, none⟩)]] w fun e w' =>
      e = .returned (.bool (Tb.has l l.length n)) ∧ Below w.heap.size w w' := by
  have hI := Lib.hid (index_tb A c l n q w hs hlen hc hq)
  generalize Tb.has l l.length n = h at *
  go_enter Try.func48, Try.ntmps48
  go_wp2_with fail
  refine hI.out.mono ?_
  rintro e w1 ⟨r, rfl, hr, hb⟩
  have hr2 : decide (r ≥ 0) = h := by rw [← hr]
  clear hI
  go_wp2
  go_ret
  exact ⟨by simp [← hr], hb⟩
theorem listens_tb (A : Option Addr) (c : Nat) (l : List D) (n : Int) (w : World) (hs : SeesD w w.heap.size A l) (hlen : l.length ≤ c) (hc : c ≤ maxLen) :
    Calls Try.prog 39 #[.slice A l.length c, .int .i64 n] w fun e w' => e = .returned (.bool (Tb.has l l.length n)) ∧ Below w.heap.size w w' := by
  have hb0 := (Below.refl w.heap.size w).alloc (Nat.le_refl _) (.cells #[.int .i64 n] 3)
  have hI := contains_tb A c l n w.heap.size (w.alloc (.cells #[.int .i64 n] 3)) ((hs.below hb0).more (by simp)) hlen hc (by rw [World.cell?_alloc_at _ _ _ _ rfl]; rfl)
  have hI := Lib.hid hI
  have hmf : ∀ (fn : Fn) (first cap : Array Value) (w : World), (Instr.makeFunc fn first cap).run Try.prog w = .ok (.func fn first cap) w := fun _ _ _ _ => rfl
  generalize Tb.has l l.length n = h at *
  go_enter Try.func39, Try.ntmps39
  go_wp2_with fail
  refine hI.out.mono ?_
  rintro e w1 ⟨rfl, hb⟩
  have hb1 := hb0.trans (hb.mono (by simp))
  clear hI
  go_wp2
  go_ret
  exact ⟨rfl, hb1⟩
end Go.Proofs.Ythigojakapgllaa
