/- Texts GdE, SrJ in one. For what each says in front of its theorems. -/
import Derived.Deep.MidRow
import Derived.Test.YtjoioojckekfhaaGreatVB6
import Derived.Test.YtjoioojckekfhaaGreatVB37
import Derived.Test.YtjoioojckekfhaaGreatVB39
import Derived.Test.YtjoioojckekfhaaGreatVB43
/-! ### GdE -/
namespace Go.Proofs.YtjoioojckekfhaaGreat
open Go.RowKit
open Tb (D T)

/-- A guardian of a table. -/
def newG (t : T) : G := { sy := fun k => (t.ns.getD k default).sy, n := t.ns.length, wi := t.wi, lm := t.lm, l := [], now := 0, kn := false, slot := 0, si := 0 }
/-- With the first k nodes' syncs alone. -/
def partG (t : T) (k : Nat) : G := { newG t with sy := fun j => if j < k then (t.ns.getD j default).sy else false }
theorem partG_all (t : T) : partG t t.ns.length = newG t := by
  have e : (fun j => if j < t.ns.length then (t.ns.getD j default).sy else false) = fun j => (t.ns.getD j default).sy := by
    funext j
    split
    · rfl
    · rename_i h
      rw [List.getD_eq_getElem?_getD, List.getElem?_eq_none (by omega)]
      rfl
  unfold partG
  rw [e]
  rfl
theorem partG_next (t : T) (k : Nat) (hk : k < 8) : (grd (partG t k)).setIfInBounds k (.bool (t.ns.getD k default).sy) = grd (partG t (k + 1)) := by
  rcases (by omega : k = 0 ∨ k = 1 ∨ k = 2 ∨ k = 3 ∨ k = 4 ∨ k = 5 ∨ k = 6 ∨ k = 7) with rfl | rfl | rfl | rfl | rfl | rfl | rfl | rfl <;> simp [grd, partG, newG]
set_option maxRecDepth 100000 in
set_option maxHeartbeats 4000000 in
theorem gnew_no (t : T) (v : Value) (w : World) (hv : SeesT w w.heap.size v t.ns) (ht : t.is = false) :
    Calls Tryz.prog 51 #[tabV t v] w fun e w' => e = .returned (.tuple #[.pointer none, .int .i64 1]) ∧ Below w.heap.size w w' := by
  obtain ⟨A, c, rfl, -, -, -, -⟩ := hv.at_
  have hB0 := (Below.refl w.heap.size w).alloc (Nat.le_refl _) (.cells #[.slice A t.ns.length c, .int .i64 t.dr, .int .i64 t.wi, .int .i64 t.lm] 29)
  have hX := Blk.new w _ rfl #[.slice A t.ns.length c, .int .i64 t.dr, .int .i64 t.wi, .int .i64 t.lm] 29
  have hI := Lib.hid (is_tb t (.slice A t.ns.length c) (w.alloc (.cells #[.slice A t.ns.length c, .int .i64 t.dr, .int .i64 t.wi, .int .i64 t.lm] 29)) w.heap.size (by simp) (hv.below hB0))
  rw [ht] at hI
  unfold tabV at hI ⊢
  clear hv ht
  obtain ⟨ns, dr, wi, lm⟩ := t
  simp only at hI hX hB0 ⊢
  have t0 := hX.cell 0 (x := .slice A ns.length c) rfl
  have t1 := hX.cell 1 (x := .int .i64 dr) rfl
  have t2 := hX.cell 2 (x := .int .i64 wi) rfl
  have t3 := hX.cell 3 (x := .int .i64 lm) rfl
  go_enter Tryz.func51, Tryz.ntmps51
  go_wp2_with fail
  refine hI.out.mono ?_
  rintro e w2 ⟨rfl, hb2⟩
  go_wp2
  go_ret2
  exact ⟨rfl, hB0.trans (hb2.mono hB0.size)⟩
set_option maxRecDepth 100000 in
set_option maxHeartbeats 4000000 in
theorem new_yes (t : T) (v : Value) (w : World) (hv : SeesT w w.heap.size v t.ns) (ht : t.is = true) :
    Calls Tryz.prog 51 #[tabV t v] w fun e w' => ∃ g, e = .returned (.tuple #[.pointer (some ⟨g, 0, none⟩), .int .i64 0]) ∧ w.heap.size ≤ g ∧ GAt w' g (newG t) ∧ Below w.heap.size w w' := by
  have hmay := Tb.T.may ht
  obtain ⟨A, c, rfl, v1, v2, v3, -⟩ := hv.at_
  have hB0 := (Below.refl w.heap.size w).alloc (Nat.le_refl _) (.cells #[.slice A t.ns.length c, .int .i64 t.dr, .int .i64 t.wi, .int .i64 t.lm] 29)
  have hX := Blk.new w _ rfl #[.slice A t.ns.length c, .int .i64 t.dr, .int .i64 t.wi, .int .i64 t.lm] 29
  have hI := Lib.hid (is_tb t (.slice A t.ns.length c) (w.alloc (.cells #[.slice A t.ns.length c, .int .i64 t.dr, .int .i64 t.wi, .int .i64 t.lm] 29)) w.heap.size (by simp) (hv.below hB0))
  rw [ht] at hI
  unfold tabV at hI ⊢
  have HV := Lib.hid v3
  clear hv v3
  have t0 := hX.cell 0 (x := .slice A t.ns.length c) rfl
  have t1 := hX.cell 1 (x := .int .i64 t.dr) rfl
  have t2 := hX.cell 2 (x := .int .i64 t.wi) rfl
  have t3 := hX.cell 3 (x := .int .i64 t.lm) rfl
  go_enter Tryz.func51, Tryz.ntmps51
  go_wp2_with fail
  refine hI.out.mono ?_
  rintro e w2 ⟨rfl, hb2⟩
  have HX : Hid (∀ W, Below w2.heap.size w2 W → W.cell? ⟨w.heap.size, 0, none⟩ = some (.slice A t.ns.length c) ∧ W.cell? ⟨w.heap.size, 2, none⟩ = some (.int .i64 t.wi) ∧ W.cell? ⟨w.heap.size, 3, none⟩ = some (.int .i64 t.lm)) := Lib.hid fun W hW => by
    have hz := hb2.size
    simp only [World.size_alloc] at hz
    have hx := (hX.below hb2 hX.lt).below hW (by omega)
    exact ⟨hx.cell 0 rfl, hx.cell 2 rfl, hx.cell 3 rfl⟩
  obtain ⟨u0, u2, u3⟩ := HX.out w2 (Below.refl _ _)
  have hb0 := Below.refl w2.heap.size w2
  have HN := fun W (hW : W.heap.size = w2.heap.size) => Lib.hid (show Calls Tryz.prog 54 #[.int .i64 t.lm] W fun e w' => e = .returned (.pointer (some ⟨w2.heap.size, 0, none⟩)) ∧ ClkAt w' w2.heap.size t.lm [] ∧ Below w2.heap.size W w' ∧ w'.heap.size = w2.heap.size + 1 from hW ▸ new_cl t.lm W)
  go_wp2_with fail
  go_cut [4] from 10 (fun s4 W => ∃ g, s4 = .pointer (some ⟨g, 0, none⟩) ∧ w2.heap.size ≤ g ∧ GAt W g (partG t 0) ∧ Below w2.heap.size w2 W)
  case first =>
    go_region_with (first
      | ((go_at_call 54; (with_reducible refine (HN _ ?_).out.mono ?_)); (first | rfl | simp); rintro e w3 ⟨rfl, hc3, hb3, hz3⟩; obtain ⟨k0, k1, k2, k3, k4, k5⟩ := hc3.cells; have hb1 := hb0.drew.trans hb3; obtain ⟨u0, u2, u3⟩ := HX.out _ hb1)
      | fail)
    all_goals
      go_wp2_with fail
      go_meet
      refine ⟨_, rfl, ?_, ⟨Blk.new _ _ ?_ _ _, by simp [partG, newG]⟩, ?_⟩
      · omega
      · first | exact hz3.symm | (simp; omega)
      · exact hb1.alloc hb1.size _
  case rest =>
    obtain ⟨g, rfl, hg, hG, hb⟩ := hcut
    have HS := Lib.hid (partG_all t)
    have HP := fun k hk => Lib.hid (partG_next t k hk)
    have hn8 := hmay.n8
    obtain ⟨u0, u2, u3⟩ := HX.out _ hb
    clear HX HN hI hX t0 t1 t2 t3
    go_wp2
    go_loopw [25] (fun i wr => ∃ k : Nat, k ≤ t.ns.length ∧ i = .int .i64 k ∧ GAt wr g (partG t k) ∧ Below w2.heap.size w2 wr) (fun i _ => t.ns.length - (intOf i).toNat)
    case atStart => exact ⟨0, by omega, rfl, hG, hb⟩
    case round =>
      obtain ⟨k, hk, rfl, hGk, hbk⟩ := hrel
      by_cases hlt : k < t.ns.length
      · have q1 : decide ((k : Int) < (t.ns.length : Int)) = true := decide_eq_true (by omega)
        have hS := HV.out.below ((hB0.trans (hb2.mono hB0.size)).trans (hbk.mono (by have := hb2.size; simp at this; omega)))
        obtain ⟨b, off, rfl, hbb, hd⟩ := hS (by omega)
        obtain ⟨d0, d1, d2, d3⟩ := hd k hlt
        have i1 : (0 : Int) ≤ (k : Int) := by omega
        have i2 : (k : Int) < 8 := by omega
        have i3 : (k : Int) < (t.ns.length : Int) := by omega
        have HPk := Lib.hid (HP k (by omega)).out
        generalize t.ns.getD k default = d at *
        have hbA := (Below.refl wr.heap.size wr).alloc (Nat.le_refl _) (.cells #[.bool d.sy, .bool d.inf, .int .i64 d.li, .int .i64 d.sz] 34)
        have hGA := hGk.below hbA hGk.lt
        have e0 := (Blk.new wr _ rfl #[.bool d.sy, .bool d.inf, .int .i64 d.li, .int .i64 d.sz] 34).cell 0 (x := .bool d.sy) rfl
        have hb2A := hbk.trans (hbA.mono hbk.size)
        go_wp2_with fail
        generalize wr.alloc (.cells #[.bool d.sy, .bool d.inf, .int .i64 d.li, .int .i64 d.sz] 34) = wA at *
        clear d0 d1 d2 d3 hd hS hbA hGk hbk
        have fk := hGA.1.frozen k
        have ck := hGA.1.cell k (grd_sy _ k (by omega))
        have HG := Lib.hid hGA
        have HB := Lib.hid hb2A
        clear hGA hb2A
        go_region
        go_wp2
        go_roundw
        case rel => exact ⟨k + 1, by omega, by go_num, ⟨(HG.out.1.set k (.bool d.sy)).drew.eq HPk.out, HG.out.2⟩, (HB.out.setCell (p := ⟨g, k, none⟩) hg _).drew⟩
        case measure => simp [intOf]; omega
      · have q1 : decide ((k : Int) < (t.ns.length : Int)) = false := decide_eq_false (by omega)
        obtain rfl : k = t.ns.length := by omega
        go_wp2
        go_ret2
        exact ⟨g, rfl, by have := hb2.size; simp at this; omega, HS.out ▸ hGk, (hB0.trans (hb2.mono hB0.size)).trans (hbk.mono (by have := hb2.size; simp at this; omega))⟩
end Go.Proofs.YtjoioojckekfhaaGreat

/-! ### SrJ -/
namespace Go.Proofs.YtjoioojckekfhaaGreat
open Go.RowKit
open Tb (D T)

def gz : G := ⟨fun _ => false, 0, 0, 0, [], 0, false, 0, 0⟩
theorem grd_oneL (s : G) : ∀ v ∈ (grd s).toList, v.oneCell' = true := by
  simp [grd, Value.oneCell']
theorem step_last {P : Program} {md : Region.Mode} {ops : Array Oper} {Q : Exit → Act → World → Prop} {S : World → Prop} {fuel : Nat} {listed : Array Bool} {a : Act} {w : World} {i : Nat} {o : Oper} (ho : ops[i]? = some o) (hg : o.guard = none) (h : o.wp P a w (fun a' w' => S w' ∧ wpAnyH P md ops Q S fuel (listed.setIfInBounds i true) a' w') Q) :
    wpOp P ops Q i (fun a' w' => S w' ∧ wpAnyH P md ops Q S fuel (listed.setIfInBounds i true) a' w') a w := by
  unfold wpOp
  rw [ho]
  simp only
  rw [if_pos (by simp [Region.wanted, hg])]
  exact .inl h
theorem infoGuard : (Tryz.prog.info? 93).map (fun i => i.size) = some 20 := by kernel_rfl
def setL (cs : Array Value) (o : Nat) : List Value → Array Value
  | [] => cs
  | v :: r => setL (cs.setIfInBounds o v) (o + 1) r
theorem Blk.setCells {g : Nat} {t : TypeId} : ∀ (vs : List Value) (o : Nat) {W : World} {cs : Array Value}, Blk W g cs t → Blk (W.setCells g o vs) g (setL cs o vs) t
  | [], _, _, _, h => h
  | v :: r, o, _, _, h => by
    rw [World.setCells]
    exact Blk.setCells r (o + 1) (h.set o v)
theorem set20a (x : Value) (s z y : G) : setL (#[x] ++ grd z ++ grd y) 1 (grd s).toList = #[x] ++ grd s ++ grd y := by
  simp [grd, setL]
theorem set20b (x : Value) (s z y : G) : setL (#[x] ++ grd y ++ grd z) 21 (grd s).toList = #[x] ++ grd y ++ grd s := by
  simp [grd, setL]
set_option maxRecDepth 100000 in
set_option maxHeartbeats 8000000 in
theorem new_sr (t : T) (v : Value) (w : World) (hv : SeesT w w.heap.size v t.ns) (ht : t.is = true) :
    Calls Tryz.prog 34 #[tabV t v] w fun e w' => ∃ g, e = .returned (.tuple #[.pointer (some ⟨g, 0, none⟩), .int .i64 0]) ∧ w.heap.size ≤ g ∧ GsAt w' g t.ns.length (newG t) (newG t) ∧ Below w.heap.size w w' := by
  obtain ⟨A, c, rfl, v1, v2, v3, -⟩ := hv.at_
  have hB0 := (Below.refl w.heap.size w).alloc (Nat.le_refl _) (.cells #[.slice A t.ns.length c, .int .i64 t.dr, .int .i64 t.wi, .int .i64 t.lm] 29)
  have hX := Blk.new w _ rfl #[.slice A t.ns.length c, .int .i64 t.dr, .int .i64 t.wi, .int .i64 t.lm] 29
  have hI := Lib.hid (is_tb t (.slice A t.ns.length c) (w.alloc (.cells #[.slice A t.ns.length c, .int .i64 t.dr, .int .i64 t.wi, .int .i64 t.lm] 29)) w.heap.size (by simp) (hv.below hB0))
  rw [ht] at hI
  have HN := fun W (hW : Below w.heap.size w W) => Lib.hid (new_yes t (.slice A t.ns.length c) W ((hv.below hW).more hW.size) ht)
  unfold tabV at hI HN ⊢
  clear hv v3
  have t0 := hX.cell 0 (x := .slice A t.ns.length c) rfl
  have t1 := hX.cell 1 (x := .int .i64 t.dr) rfl
  have t2 := hX.cell 2 (x := .int .i64 t.wi) rfl
  have t3 := hX.cell 3 (x := .int .i64 t.lm) rfl
  generalize newG t = q at *
  go_enter Tryz.func34, Tryz.ntmps34
  go_wp2_with fail
  refine hI.out.mono ?_
  rintro e w2 ⟨rfl, hb2⟩
  have hz2 : w.heap.size + 1 ≤ w2.heap.size := by have := hb2.size; simp at this; omega
  have hX2 := hX.below hb2 hX.lt
  have hB2 := hB0.trans (hb2.mono hB0.size)
  have t0 := hX2.cell 0 (x := .slice A t.ns.length c) rfl
  have hS2 := Blk.new w2 w2.heap.size rfl #[.int .i64 (t.ns.length : Nat), .bool false, .bool false, .bool false, .bool false, .bool false, .bool false, .bool false, .bool false, .int .i64 0, .int .i64 0, .int .i64 0, .int .i64 0, .int .i64 0, .int .i64 0, .int .i64 0, .int .i64 0, .int .i64 0, .bool false, .int .i64 0, .int .i64 0, .bool false, .bool false, .bool false, .bool false, .bool false, .bool false, .bool false, .bool false, .int .i64 0, .int .i64 0, .int .i64 0, .int .i64 0, .int .i64 0, .int .i64 0, .int .i64 0, .int .i64 0, .int .i64 0, .bool false, .int .i64 0, .int .i64 0] 96
  have hX3 := hX2.alloc (.cells #[.int .i64 (t.ns.length : Nat), .bool false, .bool false, .bool false, .bool false, .bool false, .bool false, .bool false, .bool false, .int .i64 0, .int .i64 0, .int .i64 0, .int .i64 0, .int .i64 0, .int .i64 0, .int .i64 0, .int .i64 0, .int .i64 0, .bool false, .int .i64 0, .int .i64 0, .bool false, .bool false, .bool false, .bool false, .bool false, .bool false, .bool false, .bool false, .int .i64 0, .int .i64 0, .int .i64 0, .int .i64 0, .int .i64 0, .int .i64 0, .int .i64 0, .int .i64 0, .int .i64 0, .bool false, .int .i64 0, .int .i64 0] 96)
  have hB3 := hB2.alloc hB2.size (.cells #[.int .i64 (t.ns.length : Nat), .bool false, .bool false, .bool false, .bool false, .bool false, .bool false, .bool false, .bool false, .int .i64 0, .int .i64 0, .int .i64 0, .int .i64 0, .int .i64 0, .int .i64 0, .int .i64 0, .int .i64 0, .int .i64 0, .bool false, .int .i64 0, .int .i64 0, .bool false, .bool false, .bool false, .bool false, .bool false, .bool false, .bool false, .bool false, .int .i64 0, .int .i64 0, .int .i64 0, .int .i64 0, .int .i64 0, .int .i64 0, .int .i64 0, .int .i64 0, .int .i64 0, .bool false, .int .i64 0, .int .i64 0] 96)
  have hz3 : (w2.alloc (.cells #[.int .i64 (t.ns.length : Nat), .bool false, .bool false, .bool false, .bool false, .bool false, .bool false, .bool false, .bool false, .int .i64 0, .int .i64 0, .int .i64 0, .int .i64 0, .int .i64 0, .int .i64 0, .int .i64 0, .int .i64 0, .int .i64 0, .bool false, .int .i64 0, .int .i64 0, .bool false, .bool false, .bool false, .bool false, .bool false, .bool false, .bool false, .bool false, .int .i64 0, .int .i64 0, .int .i64 0, .int .i64 0, .int .i64 0, .int .i64 0, .int .i64 0, .int .i64 0, .int .i64 0, .bool false, .int .i64 0, .int .i64 0] 96)).heap.size = w2.heap.size + 1 := by simp
  clear hX hI hX2 hB2 hB0 hb2 t1 t2 t3
  go_wp2_with fail
  generalize w2.alloc (.cells #[.int .i64 (t.ns.length : Nat), .bool false, .bool false, .bool false, .bool false, .bool false, .bool false, .bool false, .bool false, .int .i64 0, .int .i64 0, .int .i64 0, .int .i64 0, .int .i64 0, .int .i64 0, .int .i64 0, .int .i64 0, .int .i64 0, .bool false, .int .i64 0, .int .i64 0, .bool false, .bool false, .bool false, .bool false, .bool false, .bool false, .bool false, .bool false, .int .i64 0, .int .i64 0, .int .i64 0, .int .i64 0, .int .i64 0, .int .i64 0, .int .i64 0, .int .i64 0, .int .i64 0, .bool false, .int .i64 0, .int .i64 0] 96) = w3 at *
  generalize w2.heap.size = g at *
  generalize Value.agg #[.int .i64 (t.ns.length : Nat), .bool false, .bool false, .bool false, .bool false, .bool false, .bool false, .bool false, .bool false, .int .i64 0, .int .i64 0, .int .i64 0, .int .i64 0, .int .i64 0, .int .i64 0, .int .i64 0, .int .i64 0, .int .i64 0, .bool false, .int .i64 0, .int .i64 0, .bool false, .bool false, .bool false, .bool false, .bool false, .bool false, .bool false, .bool false, .int .i64 0, .int .i64 0, .int .i64 0, .int .i64 0, .int .i64 0, .int .i64 0, .int .i64 0, .int .i64 0, .int .i64 0, .bool false, .int .i64 0, .int .i64 0] = zz
  go_loopw [16] (fun i wr => ∃ k : Nat, k ≤ 2 ∧ i = .int .i64 k ∧ Blk wr g (#[.int .i64 (t.ns.length : Nat)] ++ grd (if 0 < k then q else gz) ++ grd (if 1 < k then q else gz)) 96 ∧ Blk wr w.heap.size #[.slice A t.ns.length c, .int .i64 t.dr, .int .i64 t.wi, .int .i64 t.lm] 29 ∧ Below w.heap.size w wr ∧ g < wr.heap.size ∧ q.l.length ≤ (if 0 < k then 4 else q.l.length)) (fun i _ => 2 - (intOf i).toNat)
  case atStart => exact ⟨0, by omega, rfl, hS2.eq (by simp [grd, gz]), hX3, hB3, by omega, by simp⟩
  case round =>
    obtain ⟨k, hk, rfl, hS, hT, hB, hz, hq⟩ := hrel
    clear hS2 hX3 hB3 t0
    have t0 := hT.cell 0 (x := .slice A t.ns.length c) rfl
    have t1 := hT.cell 1 (x := .int .i64 t.dr) rfl
    have t2 := hT.cell 2 (x := .int .i64 t.wi) rfl
    have t3 := hT.cell 3 (x := .int .i64 t.lm) rfl
    have hN := HN wr hB
    rcases (by omega : k = 0 ∨ k = 1 ∨ k = 2) with rfl | rfl | rfl
    · simp only [Nat.lt_irrefl, if_false] at hS
      go_wp2_with fail
      refine hN.out.mono ?_
      rintro e w4 ⟨g4, rfl, hg4, hG4, hb4⟩
      have hS4 := hS.below hb4 hz
      have hT4 := hT.below hb4 hT.lt
      have hB4 := hB.trans (hb4.mono hB.size)
      have hne : g ≠ g4 := by omega
      have S5 := Lib.hid ((hS4.drew.setCells (grd q).toList 1).eq (set20a _ q gz gz))
      have hg4' : g < w4.heap.size := hS4.lt
      have Z5 := Lib.hid (show g < (w4.drew.setCells g 1 (grd q).toList).heap.size from Nat.lt_of_lt_of_le hg4' (Only.setCells (grd q).toList 1 (Only.refl g w4.drew)).size)
      have tt0 : w4.there g 1 20 := fun j hj => ⟨by rw [hS4.cell (1 + j) (Array.getElem?_eq_getElem (by simp [grd]; omega))]; rfl, hS4.frozen _⟩
      have Q5 := Lib.hid hG4.2
      clear hb4 hS hT hB hN HN t0 t1 t2 t3
      have T5 := Lib.hid (hT4.drew.only (Only.setCells (grd q).toList 1 (Only.refl g w4.drew)) (by omega))
      have B5 := Lib.hid (hB4.drew.trans ((Only.setCells (grd q).toList 1 (Only.refl g w4.drew)).below (by omega) hg4'))
      have rr : w4.drew.rangeAt g4 0 (grd q).toList := fun j v hv => by rw [Nat.zero_add]; exact hG4.1.cell j (by rw [Array.getElem?_toList] at hv; exact hv)
      have i4 := Tryz.underlying93
      obtain ⟨CS, hCS⟩ : ∃ CS, CS = (grd q).toList := ⟨_, rfl⟩
      have tt : w4.drew.there g 1 CS.length := by rw [hCS]; exact tt0
      have i1 : (Tryz.prog.info? 93).map (fun i => i.size) = some CS.length := by rw [hCS]; exact infoGuard
      have i3 : ∀ v ∈ CS, v.oneCell' = true := by rw [hCS]; exact grd_oneL q
      rw [← hCS] at S5 T5 B5 Z5 rr
      clear hCS tt0 hG4 hS4 hT4 hB4
      go_wp2_with fail
      refine wp_region_held_drew (S := fun W => W.rangeAt g4 0 CS ∧ W.there g 1 CS.length) (by kernel_rfl) ⟨rr, tt⟩ (fun hHeld => ?_)
      refine wpAnyH_take (i := 0) (oi := { dst := some 24, op := _, type := _, pos := _, after := _, guard := none }) (v := ?_) rfl (by kernel_rfl) (by kernel_rfl) (by kernel_rfl) (fun _ _ _ h => h) (Or.inl ⟨by rfl, ?_⟩) (by assumption) ?_
      rotate_left 1
      · (intro wz hSw; go_simp; try with_reducible rfl)
      try simp only [Act.put, List.setIfInBounds_toArray, List.set_cons_zero, List.set_cons_succ]
      refine wpAnyH_take (i := 1) (oi := { dst := some 25, op := _, type := _, pos := _, after := _, guard := none }) (v := ?_) rfl (by kernel_rfl) (by kernel_rfl) (by kernel_rfl) (fun _ _ _ h => h) (Or.inl ⟨by rfl, ?_⟩) (by assumption) ?_
      rotate_left 1
      · (intro wz hSw; go_simp; try with_reducible rfl)
      try simp only [Act.put, List.setIfInBounds_toArray, List.set_cons_zero, List.set_cons_succ]
      refine wpAnyH_take (i := 2) (oi := { dst := some 26, op := _, type := _, pos := _, after := _, guard := none }) (v := ?_) rfl (by kernel_rfl) (by kernel_rfl) (by kernel_rfl) (fun _ _ _ h => h) (Or.inl ⟨by rfl, ?_⟩) (by assumption) ?_
      rotate_left 1
      · (intro wz hSw; go_simp; try with_reducible rfl)
      try simp only [Act.put, List.setIfInBounds_toArray, List.set_cons_zero, List.set_cons_succ]
      refine wpAnyH_take (i := 3) (oi := { dst := some 27, op := _, type := _, pos := _, after := _, guard := none }) (v := ?_) rfl (by kernel_rfl) (by kernel_rfl) (by kernel_rfl) (fun _ _ _ h => h) (Or.inl ⟨by rfl, ?_⟩) (by assumption) ?_
      rotate_left 1
      · (intro wz hSw; go_simp; try with_reducible rfl)
      try simp only [Act.put, List.setIfInBounds_toArray, List.set_cons_zero, List.set_cons_succ]
      refine wpAnyH_take (i := 4) (oi := { dst := some 28, op := _, type := _, pos := _, after := _, guard := none }) rfl (by kernel_rfl) (by kernel_rfl) (by kernel_rfl) (fun _ _ _ h => h) (yieldsIf_load_mid (by rfl) _ _ rfl _ _ rfl CS _ (fun _ h => h.1) i4 rfl i1) (by assumption) ?_
      simp only [Act.put, List.setIfInBounds_toArray, List.set_cons_zero, List.set_cons_succ]
      refine wpAnyH_take (i := 5) (oi := { dst := some 29, op := _, type := _, pos := _, after := _, guard := none }) (v := ?_) rfl (by kernel_rfl) (by kernel_rfl) (by kernel_rfl) (fun _ _ _ h => h) (Or.inl ⟨by rfl, ?_⟩) (by assumption) ?_
      rotate_left 1
      · (intro wz hSw; go_simp; try with_reducible rfl)
      try simp only [Act.put, List.setIfInBounds_toArray, List.set_cons_zero, List.set_cons_succ]
      refine wpAnyH_take (i := 6) (oi := { dst := some 30, op := _, type := _, pos := _, after := _, guard := none }) (v := ?_) rfl (by kernel_rfl) (by kernel_rfl) (by kernel_rfl) (fun _ _ _ h => h) (Or.inl ⟨by rfl, ?_⟩) (by assumption) ?_
      rotate_left 1
      · (intro wz hSw; go_simp; try with_reducible rfl)
      try simp only [Act.put, List.setIfInBounds_toArray, List.set_cons_zero, List.set_cons_succ]
      refine wpAnyH_take (i := 7) (oi := { dst := some 31, op := _, type := _, pos := _, after := _, guard := none }) (v := ?_) rfl (by kernel_rfl) (by kernel_rfl) (by kernel_rfl) (fun _ _ _ h => h) (Or.inl ⟨by rfl, ?_⟩) (by assumption) ?_
      rotate_left 1
      · (intro wz hSw; go_simp; try with_reducible rfl)
      try simp only [Act.put, List.setIfInBounds_toArray, List.set_cons_zero, List.set_cons_succ]
      refine wpAnyH_all (rs := [8]) (by kernel_rfl) (by simp) ?_
      intro i hi
      obtain rfl : i = 8 := by simpa using hi
      refine step_last (o := { dst := none, op := _, type := _, pos := _, after := _, guard := none }) rfl rfl ?_
      refine wp_store_mid _ _ _ rfl _ _ CS.toArray rfl rfl (by simpa using tt) (by simpa using i1) (all_oneCell_toArray i3) ?_
      simp only []
      refine ⟨⟨World.rangeAt_setCells_apart rr _ _ _ (.inl (Ne.symm hne)), World.there_setCells tt _ _ _⟩, ?_⟩
      refine wpAnyH_done (by kernel_rfl) ?_ _
      clear tt i1 i3 rr i4
      go_wp2_with fail
      refine ⟨⟨1, by omega, rfl, ?_, T5.out, B5.out, Z5.out, ?_⟩, by simp [intOf]⟩
      · rw [if_pos (by omega), if_neg (by omega)]; with_reducible exact S5.out
      · rw [if_pos (by omega)]; exact Q5.out
    · simp only [Nat.lt_irrefl, if_false, Nat.zero_lt_one, if_true] at hS
      go_wp2_with fail
      refine hN.out.mono ?_
      rintro e w4 ⟨g4, rfl, hg4, hG4, hb4⟩
      have hS4 := hS.below hb4 hz
      have hT4 := hT.below hb4 hT.lt
      have hB4 := hB.trans (hb4.mono hB.size)
      have hne : g ≠ g4 := by omega
      have S5 := Lib.hid ((hS4.drew.setCells (grd q).toList 21).eq (set20b _ q gz q))
      have hg4' : g < w4.heap.size := hS4.lt
      have Z5 := Lib.hid (show g < (w4.drew.setCells g 21 (grd q).toList).heap.size from Nat.lt_of_lt_of_le hg4' (Only.setCells (grd q).toList 21 (Only.refl g w4.drew)).size)
      have tt0 : w4.there g 21 20 := fun j hj => ⟨by rw [hS4.cell (21 + j) (Array.getElem?_eq_getElem (by simp [grd]; omega))]; rfl, hS4.frozen _⟩
      have Q5 := Lib.hid hG4.2
      clear hb4 hS hT hB hN HN t0 t1 t2 t3
      have T5 := Lib.hid (hT4.drew.only (Only.setCells (grd q).toList 21 (Only.refl g w4.drew)) (by omega))
      have B5 := Lib.hid (hB4.drew.trans ((Only.setCells (grd q).toList 21 (Only.refl g w4.drew)).below (by omega) hg4'))
      have rr : w4.drew.rangeAt g4 0 (grd q).toList := fun j v hv => by rw [Nat.zero_add]; exact hG4.1.cell j (by rw [Array.getElem?_toList] at hv; exact hv)
      have i4 := Tryz.underlying93
      obtain ⟨CS, hCS⟩ : ∃ CS, CS = (grd q).toList := ⟨_, rfl⟩
      have tt : w4.drew.there g 21 CS.length := by rw [hCS]; exact tt0
      have i1 : (Tryz.prog.info? 93).map (fun i => i.size) = some CS.length := by rw [hCS]; exact infoGuard
      have i3 : ∀ v ∈ CS, v.oneCell' = true := by rw [hCS]; exact grd_oneL q
      rw [← hCS] at S5 T5 B5 Z5 rr
      clear hCS tt0 hG4 hS4 hT4 hB4
      go_wp2_with fail
      refine wp_region_held_drew (S := fun W => W.rangeAt g4 0 CS ∧ W.there g 21 CS.length) (by kernel_rfl) ⟨rr, tt⟩ (fun hHeld => ?_)
      refine wpAnyH_take (i := 0) (oi := { dst := some 24, op := _, type := _, pos := _, after := _, guard := none }) (v := ?_) rfl (by kernel_rfl) (by kernel_rfl) (by kernel_rfl) (fun _ _ _ h => h) (Or.inl ⟨by rfl, ?_⟩) (by assumption) ?_
      rotate_left 1
      · (intro wz hSw; go_simp; try with_reducible rfl)
      try simp only [Act.put, List.setIfInBounds_toArray, List.set_cons_zero, List.set_cons_succ]
      refine wpAnyH_take (i := 1) (oi := { dst := some 25, op := _, type := _, pos := _, after := _, guard := none }) (v := ?_) rfl (by kernel_rfl) (by kernel_rfl) (by kernel_rfl) (fun _ _ _ h => h) (Or.inl ⟨by rfl, ?_⟩) (by assumption) ?_
      rotate_left 1
      · (intro wz hSw; go_simp; try with_reducible rfl)
      try simp only [Act.put, List.setIfInBounds_toArray, List.set_cons_zero, List.set_cons_succ]
      refine wpAnyH_take (i := 2) (oi := { dst := some 26, op := _, type := _, pos := _, after := _, guard := none }) (v := ?_) rfl (by kernel_rfl) (by kernel_rfl) (by kernel_rfl) (fun _ _ _ h => h) (Or.inl ⟨by rfl, ?_⟩) (by assumption) ?_
      rotate_left 1
      · (intro wz hSw; go_simp; try with_reducible rfl)
      try simp only [Act.put, List.setIfInBounds_toArray, List.set_cons_zero, List.set_cons_succ]
      refine wpAnyH_take (i := 3) (oi := { dst := some 27, op := _, type := _, pos := _, after := _, guard := none }) (v := ?_) rfl (by kernel_rfl) (by kernel_rfl) (by kernel_rfl) (fun _ _ _ h => h) (Or.inl ⟨by rfl, ?_⟩) (by assumption) ?_
      rotate_left 1
      · (intro wz hSw; go_simp; try with_reducible rfl)
      try simp only [Act.put, List.setIfInBounds_toArray, List.set_cons_zero, List.set_cons_succ]
      refine wpAnyH_take (i := 4) (oi := { dst := some 28, op := _, type := _, pos := _, after := _, guard := none }) rfl (by kernel_rfl) (by kernel_rfl) (by kernel_rfl) (fun _ _ _ h => h) (yieldsIf_load_mid (by rfl) _ _ rfl _ _ rfl CS _ (fun _ h => h.1) i4 rfl i1) (by assumption) ?_
      simp only [Act.put, List.setIfInBounds_toArray, List.set_cons_zero, List.set_cons_succ]
      refine wpAnyH_take (i := 5) (oi := { dst := some 29, op := _, type := _, pos := _, after := _, guard := none }) (v := ?_) rfl (by kernel_rfl) (by kernel_rfl) (by kernel_rfl) (fun _ _ _ h => h) (Or.inl ⟨by rfl, ?_⟩) (by assumption) ?_
      rotate_left 1
      · (intro wz hSw; go_simp; try with_reducible rfl)
      try simp only [Act.put, List.setIfInBounds_toArray, List.set_cons_zero, List.set_cons_succ]
      refine wpAnyH_take (i := 6) (oi := { dst := some 30, op := _, type := _, pos := _, after := _, guard := none }) (v := ?_) rfl (by kernel_rfl) (by kernel_rfl) (by kernel_rfl) (fun _ _ _ h => h) (Or.inl ⟨by rfl, ?_⟩) (by assumption) ?_
      rotate_left 1
      · (intro wz hSw; go_simp; try with_reducible rfl)
      try simp only [Act.put, List.setIfInBounds_toArray, List.set_cons_zero, List.set_cons_succ]
      refine wpAnyH_take (i := 7) (oi := { dst := some 31, op := _, type := _, pos := _, after := _, guard := none }) (v := ?_) rfl (by kernel_rfl) (by kernel_rfl) (by kernel_rfl) (fun _ _ _ h => h) (Or.inl ⟨by rfl, ?_⟩) (by assumption) ?_
      rotate_left 1
      · (intro wz hSw; go_simp; try with_reducible rfl)
      try simp only [Act.put, List.setIfInBounds_toArray, List.set_cons_zero, List.set_cons_succ]
      refine wpAnyH_all (rs := [8]) (by kernel_rfl) (by simp) ?_
      intro i hi
      obtain rfl : i = 8 := by simpa using hi
      refine step_last (o := { dst := none, op := _, type := _, pos := _, after := _, guard := none }) rfl rfl ?_
      refine wp_store_mid _ _ _ rfl _ _ CS.toArray rfl rfl (by simpa using tt) (by simpa using i1) (all_oneCell_toArray i3) ?_
      simp only []
      refine ⟨⟨World.rangeAt_setCells_apart rr _ _ _ (.inl (Ne.symm hne)), World.there_setCells tt _ _ _⟩, ?_⟩
      refine wpAnyH_done (by kernel_rfl) ?_ _
      clear tt i1 i3 rr i4
      go_wp2_with fail
      refine ⟨⟨2, by omega, rfl, ?_, T5.out, B5.out, Z5.out, ?_⟩, by simp [intOf]⟩
      · rw [if_pos (by omega), if_pos (by omega)]; with_reducible exact S5.out
      · rw [if_pos (by omega)]; exact Q5.out
    · have hS' := Lib.hid (show GsAt wr g t.ns.length q q from ⟨by simpa using hS, by simpa using hq, by simpa using hq⟩)
      have hB' := Lib.hid hB
      have hg := Lib.hid (show w.heap.size ≤ g by omega)
      clear hS hT hB hq HN hN
      go_wp2_with fail
      go_ret2
      exact ⟨g, rfl, hg.out, hS'.out, hB'.out⟩
end Go.Proofs.YtjoioojckekfhaaGreat
