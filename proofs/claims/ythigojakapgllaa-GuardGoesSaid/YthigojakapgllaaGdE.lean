/- The contract of guard.New. -/
import Derived.Test.YthigojakapgllaaGdC
import Derived.Test.YthigojakapgllaaGdD
import Derived.Test.YthigojakapgllaaTbE
namespace Go.Proofs.Ythigojakapgllaa
open Go.RowKit
open Tb (D T)

/-- A guardian of a table. -/
def newG (t : T) : G := { sy := fun k => (t.ns.getD k default).sy, n := t.ns.length, wi := t.wi, lm := t.lm, l := [], now := 0, kn := false, slot := 0, si := 0 }
/-- With the first k nodes' syncs alone. -/
def partG (t : T) (k : Nat) : G := { newG t with sy := fun j => if j < k then (t.ns.getD j default).sy else false }
theorem partG_all (t : T) : partG t t.ns.length = newG t := by
  have e : (fun j => if j < t.ns.length then (t.ns.getD j default).sy else false) = fun j => (t.ns.getD j default).sy := by
    funext j
    split
    · rfl
    · rename_i h
      rw [List.getD_eq_getElem?_getD, List.getElem?_eq_none (by omega)]
      rfl
  unfold partG
  rw [e]
  rfl
theorem partG_next (t : T) (k : Nat) (hk : k < 8) : (grd (partG t k)).setIfInBounds k (.bool (t.ns.getD k default).sy) = grd (partG t (k + 1)) := by
  rcases (by omega : k = 0 ∨ k = 1 ∨ k = 2 ∨ k = 3 ∨ k = 4 ∨ k = 5 ∨ k = 6 ∨ k = 7) with rfl | rfl | rfl | rfl | rfl | rfl | rfl | rfl <;> simp [grd, partG, newG]
set_option maxRecDepth 100000 in
set_option maxHeartbeats 4000000 in
theorem new_no (t : T) (v : Value) (w : World) (hv : SeesT w w.heap.size v t.ns) (ht : t.is = false) :
    Calls Try.prog 11 #[tabV t v] w fun e w' => e = .returned (.tuple #[.pointer none, .int .i64 1]) ∧ Below w.heap.size w w' := by
  obtain ⟨A, c, rfl, -, -, -, -⟩ := hv.at_
  have hB0 := (Below.refl w.heap.size w).alloc (Nat.le_refl _) (.cells #[.slice A t.ns.length c, .int .i64 t.dr, .int .i64 t.wi, .int .i64 t.lm] 30)
  have hX := Blk.new w _ rfl #[.slice A t.ns.length c, .int .i64 t.dr, .int .i64 t.wi, .int .i64 t.lm] 30
  have hI := Lib.hid (is_tb t (.slice A t.ns.length c) (w.alloc (.cells #[.slice A t.ns.length c, .int .i64 t.dr, .int .i64 t.wi, .int .i64 t.lm] 30)) w.heap.size (by simp) (hv.below hB0))
  rw [ht] at hI
  unfold tabV at hI ⊢
  clear hv ht
  obtain ⟨ns, dr, wi, lm⟩ := t
  simp only at hI hX hB0 ⊢
  have t0 := hX.cell 0 (x := .slice A ns.length c) rfl
  have t1 := hX.cell 1 (x := .int .i64 dr) rfl
  have t2 := hX.cell 2 (x := .int .i64 wi) rfl
  have t3 := hX.cell 3 (x := .int .i64 lm) rfl
  go_enter Try.func11, Try.ntmps11
  go_wp2_with fail
  refine hI.out.mono ?_
  rintro e w2 ⟨rfl, hb2⟩
  go_wp2
  go_ret2
  exact ⟨rfl, hB0.trans (hb2.mono hB0.size)⟩
set_option maxRecDepth 100000 in
set_option maxHeartbeats 4000000 in
theorem new_yes (t : T) (v : Value) (w : World) (hv : SeesT w w.heap.size v t.ns) (ht : t.is = true) :
    Calls Try.prog 11 #[tabV t v] w fun e w' => ∃ g, e = .returned (.tuple #[.pointer (some ⟨g, 0, none⟩), .int .i64 0]) ∧ w.heap.size ≤ g ∧ GAt w' g (newG t) ∧ Below w.heap.size w w' := by
  have hmay := Tb.T.may ht
  obtain ⟨A, c, rfl, v1, v2, v3, -⟩ := hv.at_
  have hB0 := (Below.refl w.heap.size w).alloc (Nat.le_refl _) (.cells #[.slice A t.ns.length c, .int .i64 t.dr, .int .i64 t.wi, .int .i64 t.lm] 30)
  have hX := Blk.new w _ rfl #[.slice A t.ns.length c, .int .i64 t.dr, .int .i64 t.wi, .int .i64 t.lm] 30
  have hI := Lib.hid (is_tb t (.slice A t.ns.length c) (w.alloc (.cells #[.slice A t.ns.length c, .int .i64 t.dr, .int .i64 t.wi, .int .i64 t.lm] 30)) w.heap.size (by simp) (hv.below hB0))
  rw [ht] at hI
  unfold tabV at hI ⊢
  have HV := Lib.hid v3
  clear hv v3
  have t0 := hX.cell 0 (x := .slice A t.ns.length c) rfl
  have t1 := hX.cell 1 (x := .int .i64 t.dr) rfl
  have t2 := hX.cell 2 (x := .int .i64 t.wi) rfl
  have t3 := hX.cell 3 (x := .int .i64 t.lm) rfl
  go_enter Try.func11, Try.ntmps11
  go_wp2_with fail
  refine hI.out.mono ?_
  rintro e w2 ⟨rfl, hb2⟩
  have HX : Hid (∀ W, Below w2.heap.size w2 W → W.cell? ⟨w.heap.size, 0, none⟩ = some (.slice A t.ns.length c) ∧ W.cell? ⟨w.heap.size, 2, none⟩ = some (.int .i64 t.wi) ∧ W.cell? ⟨w.heap.size, 3, none⟩ = some (.int .i64 t.lm)) := Lib.hid fun W hW => by
    have hz := hb2.size
    simp only [World.size_alloc] at hz
    have hx := (hX.below hb2 hX.lt).below hW (by omega)
    exact ⟨hx.cell 0 rfl, hx.cell 2 rfl, hx.cell 3 rfl⟩
  obtain ⟨u0, u2, u3⟩ := HX.out w2 (Below.refl _ _)
  have hb0 := Below.refl w2.heap.size w2
  have HN := fun W (hW : W.heap.size = w2.heap.size) => Lib.hid (show Calls Try.prog 20 #[.int .i64 t.lm] W fun e w' => e = .returned (.pointer (some ⟨w2.heap.size, 0, none⟩)) ∧ ClkAt w' w2.heap.size t.lm [] ∧ Below w2.heap.size W w' ∧ w'.heap.size = w2.heap.size + 1 from hW ▸ new_cl t.lm W)
  go_wp2_with fail
  go_cut [4] from 10 (fun s4 W => ∃ g, s4 = .pointer (some ⟨g, 0, none⟩) ∧ w2.heap.size ≤ g ∧ GAt W g (partG t 0) ∧ Below w2.heap.size w2 W)
  case first =>
    go_region_with (first
      | ((go_at_call 20; (with_reducible refine (HN _ ?_).out.mono ?_)); (first | rfl | simp); rintro e w3 ⟨rfl, hc3, hb3, hz3⟩; obtain ⟨k0, k1, k2, k3, k4, k5⟩ := hc3.cells; have hb1 := hb0.drew.trans hb3; obtain ⟨u0, u2, u3⟩ := HX.out _ hb1)
      | fail)
    all_goals
      go_wp2_with fail
      go_meet
      refine ⟨_, rfl, ?_, ⟨Blk.new _ _ ?_ _ _, by simp [partG, newG]⟩, ?_⟩
      · omega
      · first | exact hz3.symm | (simp; omega)
      · exact hb1.alloc hb1.size _
  case rest =>
    obtain ⟨g, rfl, hg, hG, hb⟩ := hcut
    have HS := Lib.hid (partG_all t)
    have HP := fun k hk => Lib.hid (partG_next t k hk)
    have hn8 := hmay.n8
    obtain ⟨u0, u2, u3⟩ := HX.out _ hb
    clear HX HN hI hX t0 t1 t2 t3
    go_wp2
    go_loopw [25] (fun i wr => ∃ k : Nat, k ≤ t.ns.length ∧ i = .int .i64 k ∧ GAt wr g (partG t k) ∧ Below w2.heap.size w2 wr) (fun i _ => t.ns.length - (intOf i).toNat)
    case atStart => exact ⟨0, by omega, rfl, hG, hb⟩
    case round =>
      obtain ⟨k, hk, rfl, hGk, hbk⟩ := hrel
      by_cases hlt : k < t.ns.length
      · have q1 : decide ((k : Int) < (t.ns.length : Int)) = true := decide_eq_true (by omega)
        have hS := HV.out.below ((hB0.trans (hb2.mono hB0.size)).trans (hbk.mono (by have := hb2.size; simp at this; omega)))
        obtain ⟨b, off, rfl, hbb, hd⟩ := hS (by omega)
        obtain ⟨d0, d1, d2, d3⟩ := hd k hlt
        have i1 : (0 : Int) ≤ (k : Int) := by omega
        have i2 : (k : Int) < 8 := by omega
        have i3 : (k : Int) < (t.ns.length : Int) := by omega
        have HPk := Lib.hid (HP k (by omega)).out
        generalize t.ns.getD k default = d at *
        have hbA := (Below.refl wr.heap.size wr).alloc (Nat.le_refl _) (.cells #[.bool d.sy, .bool d.inf, .int .i64 d.li, .int .i64 d.sz] 62)
        have hGA := hGk.below hbA hGk.lt
        have e0 := (Blk.new wr _ rfl #[.bool d.sy, .bool d.inf, .int .i64 d.li, .int .i64 d.sz] 62).cell 0 (x := .bool d.sy) rfl
        have hb2A := hbk.trans (hbA.mono hbk.size)
        go_wp2_with fail
        generalize wr.alloc (.cells #[.bool d.sy, .bool d.inf, .int .i64 d.li, .int .i64 d.sz] 62) = wA at *
        clear d0 d1 d2 d3 hd hS hbA hGk hbk
        have fk := hGA.1.frozen k
        have ck := hGA.1.cell k (grd_sy _ k (by omega))
        have HG := Lib.hid hGA
        have HB := Lib.hid hb2A
        clear hGA hb2A
        go_region
        go_wp2
        go_roundw
        case rel => exact ⟨k + 1, by omega, by go_num, ⟨(HG.out.1.set k (.bool d.sy)).drew.eq HPk.out, HG.out.2⟩, (HB.out.setCell (p := ⟨g, k, none⟩) hg _).drew⟩
        case measure => simp [intOf]; omega
      · have q1 : decide ((k : Int) < (t.ns.length : Int)) = false := decide_eq_false (by omega)
        obtain rfl : k = t.ns.length := by omega
        go_wp2
        go_ret2
        exact ⟨g, rfl, by have := hb2.size; simp at this; omega, HS.out ▸ hGk, (hB0.trans (hb2.mono hB0.size)).trans (hbk.mono (by have := hb2.size; simp at this; omega))⟩
end Go.Proofs.Ythigojakapgllaa
