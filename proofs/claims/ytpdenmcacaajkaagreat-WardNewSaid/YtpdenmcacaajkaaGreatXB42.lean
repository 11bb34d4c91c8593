/- Texts WdK, WdR, StR in one. For what each says in front of its theorems. -/
import Derived.BigRegion
import Derived.Deep.RegionWith
import Derived.Test.YtpdenmcacaajkaaGreatXB8
import Derived.Test.YtpdenmcacaajkaaGreatXB39
import Derived.Test.YtpdenmcacaajkaaGreatXB41
/-! ### WdK -/
namespace Go.Proofs.YtpdenmcacaajkaaGreat
open Go.RowKit

def ics (n : Nat) : Array Value := ((List.replicate n (0 : Int)).map (Value.int .i64)).toArray
theorem infoIntW : (Tryz.prog.info? 3).map (fun i => (i.zero, i.size)) = some (some (.int .i64 0), 1) := by kernel_rfl
theorem infoIntWB : (Tryz.prog.info? 3).map (fun i => decide (i.bytes ≤ 100)) = some true := by kernel_rfl
theorem madeI (n : Nat) (hn : n ≤ 8) : madeCells (Value.int .i64 0).cells (n * 1) = ics n := by
  rcases (by omega : n = 0 ∨ n = 1 ∨ n = 2 ∨ n = 3 ∨ n = 4 ∨ n = 5 ∨ n = 6 ∨ n = 7 ∨ n = 8) with rfl | rfl | rfl | rfl | rfl | rfl | rfl | rfl | rfl <;> kernel_rfl
theorem run_makeI (n : Nat) (hn : n ≤ 8) (w : World) : (Instr.makeSlice 46 (.int .i64 (n : Int)) (.int .i64 (n : Int))).run Tryz.prog w = .ok (.slice (some ⟨w.heap.size, 0, none⟩) n n) (w.alloc (.cells (ics n) 3)) := by
  have h1 := infoIntW
  have h2 := infoIntWB
  cases hi : Tryz.prog.info? 3 with
  | none => rw [hi] at h1; simp at h1
  | some i =>
    rw [hi] at h1 h2
    simp only [Option.map_some, Option.some.injEq, Prod.mk.injEq, decide_eq_true_eq] at h1 h2
    have hb : (i.bytes : Int) * (n : Int) ≤ 281474976710656 := by
      have : i.bytes * n ≤ 100 * 8 := Nat.mul_le_mul h2 hn
      have h : ((i.bytes * n : Nat) : Int) ≤ 281474976710656 := by omega
      rwa [Int.natCast_mul] at h
    have hr := run_make (P := Tryz.prog) w 46 3 i _ Tryz.underlying46 hi h1.1 .i64 .i64 n n (by omega) (by omega) hb (by omega)
    simp only [Int.toNat_natCast] at hr
    rw [hr, h1.2, madeI n hn]
theorem sees_ics (n : Nat) (hn : n ≤ 8) (w : World) : SeesI (w.alloc (.cells (ics n) 3)) (w.heap.size + 1) (.slice (some ⟨w.heap.size, 0, none⟩) n n) (List.replicate n 0) :=
  sees_liti w 3 (ics n) (List.replicate n 0) rfl _ (Nat.lt_succ_self _) (by simp [maxLen]; omega) w.heap.size n n rfl (by simp) (by simp)
/-- A new ward's slot may pass. -/
theorem WOk.new (n : Nat) (dr : Int) (dl : List Int) (l : List R4) (h4 : 4 ≤ n) (h8 : n ≤ 8) (hd : 0 ≤ dr ∧ dr ≤ 200) : WOk n (WM.new (gsmT n dr) dl l) := by
  have e : ∀ i, ((WM.new (gsmT n dr) dl l).ms i).sendS = (WM.new (gsmT n dr) dl l).ms i := fun i => by
    unfold NM.sendS
    rw [if_neg (by show ¬ (0 : Nat) = 1; omega), if_pos (.inl rfl)]
    rfl
  refine ⟨⟨h4, h8⟩, gsmL_length n, fun i _ => by rw [e i]; show _ ≤ (0 : Int) ∧ (0 : Int) ≤ _; omega, fun i _ => by rw [e i]; show (0 : Nat) < 900 ∧ (0 : Nat) < 900; omega, by show _ ≤ (0 : Int) ∧ (0 : Int) ≤ _; omega, by show 0 < n; omega, fun x hx => (by cases hx), ?_, ?_, by show 0 ≤ 1000; omega⟩
  · show 0 ≤ 4 * dr + 9 ∧ 4 * dr + 9 ≤ 1000; omega
  · show 0 ≤ 4 * dr + 6 ∧ 4 * dr + 6 ≤ 1000; omega
theorem may_new (n : Nat) (dr : Int) (i : Nat) (d : Int) (l : List R4) (h4 : 4 ≤ n) (h8 : n ≤ 8) (hd : 0 ≤ dr ∧ dr ≤ 200) (hi : i < n) (hdd : -dr ≤ d ∧ d ≤ dr) (hl : l.length ≤ 8) (hm : ∀ k, k < l.length → (l.getD k default).may) : NM.may (gsmT n dr) (i : Nat) d l :=
  ⟨some_is n dr h4 h8 hd, ⟨by omega, by show ((i : Nat) : Int) < ((gsmL n).length : Nat); rw [gsmL_length]; omega⟩, hdd, hl, hm⟩
/-- A ward of some(n, dr), without drifts. -/
theorem wnew_some (n : Nat) (dr : Int) (rv : Value) (l : List R4) (h4 : 4 ≤ n) (h8 : n ≤ 8) (hd : 0 ≤ dr ∧ dr ≤ 200) (hl : l.length ≤ 8) (hm : ∀ k, k < l.length → (l.getD k default).may) (v dv : Value) (W : World) (hv : SeesT W W.heap.size v (gsmL n)) (hdv : SeesI W W.heap.size dv (List.replicate n 0)) (hr : SeesRs W W.heap.size rv l) :
    Calls Tryz.prog 13 #[.agg #[v, .int .i64 dr, .int .i64 (4 * dr + 6), .int .i64 (4 * dr + 9)], dv, rv] W fun e w' => ∃ x, e = .returned (.tuple #[.pointer (some ⟨x, 0, none⟩), .int .i64 0]) ∧ WAt W.heap.size [] n w' x (WM.new (gsmT n dr) (List.replicate n 0) l) ∧ Below W.heap.size W w' := by
  have := wnew (gsmT n dr) v dv rv (List.replicate n 0) l W hv hdv hr (some_is n dr h4 h8 hd) (by rw [List.length_replicate]; exact (gsmL_length n).symm) (fun i hi => by
    have hi : i < n := by rw [← gsmL_length n]; exact hi
    refine may_new n dr i _ l h4 h8 hd hi ?_ hl hm
    have e : (List.replicate n (0 : Int)).getD i 0 = 0 := by simp [List.getD_eq_getElem?_getD, hi]
    rw [e]; omega)
  rw [show (gsmT n dr).ns.length = n from gsmL_length n] at this
  exact this
theorem WAt.lower {B B' : Nat} {P : List Nat} {N x : Nat} {u : WM} {W : World} (h : WAt B P N W x u) (hB : B' ≤ B) : WAt B' P N W x u := by
  obtain ⟨q, h⟩ := h
  exact ⟨q, h.blk, h.nlt, h.ptr, h.star, h.nd, h.own, h.dis, h.ne, h.out, h.cap, Nat.le_trans hB h.bas.1, Nat.le_trans hB h.bas.2.1, Nat.le_trans hB h.bas.2.2.1, fun i hi f hf => Nat.le_trans hB (h.bas.2.2.2 i hi f hf)⟩
theorem WAt.slots_ {B : Nat} {P : List Nat} {N x : Nat} {u : WM} {W : World} (h : WAt B P N W x u) : Calls Tryz.prog 50 #[.pointer (some ⟨x, 0, none⟩)] W fun e w' => e = .returned (.int .i64 (u.sl : Nat)) ∧ w' = W := by
  obtain ⟨q, h⟩ := h
  exact wslots h
theorem WAt.nodes_ {B : Nat} {P : List Nat} {N x : Nat} {u : WM} {W : World} (h : WAt B P N W x u) : Calls Tryz.prog 51 #[.pointer (some ⟨x, 0, none⟩)] W fun e w' => e = .returned (.int .i64 (N : Nat)) ∧ w' = W := by
  obtain ⟨q, h⟩ := h
  exact wnodes h
/-- Nobody is on: a slot passes, and nothing is so. -/
def AllOff (N : Nat) (u : WM) : Prop := ∀ i, i < N → (u.ms i).st = 0 ∧ (u.ms i).se = false
theorem slot_off {N : Nat} {u : WM} (h : AllOff N u) (ok : WOk N u) (hk : u.s.kn = false) : u.slot N = { u with sl := u.sl + 1 } := by
  have es : ∀ i, i < N → (u.ms i).sendS = u.ms i := fun i hi => by
    obtain ⟨h1, h2⟩ := h i hi
    unfold NM.sendS
    rw [if_neg (by omega), if_pos (.inl h1), ← h2]
  have eb : ∀ i, u.bs N i = [] := fun i => by
    unfold WM.bs
    split
    · rename_i hi
      obtain ⟨h1, h2⟩ := h i hi
      unfold NM.sent
      rw [if_pos (by unfold NM.sendK; rw [if_neg (by omega), if_pos (.inl h1)])]
    · rfl
  have hw : u.who N = -1 := by
    rcases WM.who_range ok with e | ⟨j, -, hj, h0⟩
    · exact e
    · rw [eb j] at h0; simp at h0
  refine WM.alike (fun i => ?_) ?_ rfl
  · show (if i < N then (u.ms i).sendS.take (u.hear N i) else u.ms i) = u.ms i
    split
    · rename_i hi
      rw [es i hi]
      unfold NM.take
      rw [if_pos (.inl (h i hi).1)]
    · rfl
  · show u.s.ended (u.heard N) (u.when_ N) = u.s
    rw [show u.heard N = [] by unfold WM.heard; rw [hw]; rfl]
    exact ended_not _ hk (tells_short (by simp) _) _
theorem new_off (n : Nat) (dr : Int) (dl : List Int) (l : List R4) : AllOff n (WM.new (gsmT n dr) dl l) := fun _ _ => ⟨rfl, rfl⟩
set_option maxRecDepth 100000 in
set_option maxHeartbeats 4000000 in
theorem known_wd (w : World) : Calls Tryz.prog 15 #[] w fun e w' => e = .returned (.bool true) ∧ Below w.heap.size w w' := by
  have hs := fun W => Lib.hid (show Calls Tryz.prog 49 #[.int .i64 4, .int .i64 1] W fun e w' => ∃ v, e = .returned (.agg #[v, .int .i64 1, .int .i64 10, .int .i64 13]) ∧ OwnsD w' W.heap.size v (gsmL 4) ∧ Below W.heap.size W w' from some_wd 4 1 (by omega) (by omega) W)
  have hmk : ∀ W : World, (Instr.makeSlice 46 (.int .i64 4) (.int .i64 4)).run Tryz.prog W = .ok (.slice (some ⟨W.heap.size, 0, none⟩) 4 4) (W.alloc (.cells (ics 4) 3)) := fun W => run_makeI 4 (by omega) W
  have hN := fun v dv W (hv : SeesT W W.heap.size v (gsmL 4)) (hdv : SeesI W W.heap.size dv (List.replicate 4 0)) => Lib.hid (wnew_some 4 1 (.slice none 0 0) [] (by omega) (by omega) (by omega) (by simp) (fun k hk => by simp at hk) v dv W hv hdv SeesRs.nil)
  have hI := fun W => Lib.hid (sees_ics 4 (by omega) W)
  go_enter Tryz.func15, Tryz.ntmps15
  go_wp2_with fail
  go_region_with (first
    | (go_at_call 49; refine (hs _).out.mono ?_; rintro e w1 ⟨v, rfl, ho, hb1⟩)
    | (go_at_call 13; refine (hN _ _ _ ?_ ?_).out.mono ?_; (focus (first | exact ho.sees | exact (ho.sees.below ((Below.refl _ _).alloc (Nat.le_refl _) _)).more (by simp))); (focus (first | exact (hI w1).out.more (by simp) | exact (((hI w).out.below ((Below.refl _ _).drew)).below (hb1.mono (by simp))).more (by have := hb1.size; simpa using this))); rintro e w2 ⟨x, rfl, hw, hb2⟩; (have hB : Below w.heap.size w w2 := by (first | exact ((Below.refl _ _).drew.trans (hb1.alloc hb1.size _)).trans (hb2.mono (by have := hb1.size; simp; exact Nat.le_succ_of_le this)) | exact ((((Below.refl _ _).alloc (Nat.le_refl _) _).drew).trans (hb1.mono (by simp))).trans (hb2.mono (by have := hb1.size; simp at this; omega)))))
    | fail)
  all_goals
    have hlo : w.heap.size ≤ w2.heap.size := hB.size
    have hw0 : WAt w.heap.size [] 4 w2 x (WM.new (gsmT 4 1) (List.replicate 4 0) []) := hw.lower (by first | (have := hb1.size; simp at this ⊢; omega) | (have := hb1.size; simp at this; omega))
    have ok0 := WOk.new 4 1 (List.replicate 4 0) [] (by omega) (by omega) (by omega)
    have hst := wstep_slot hw0 ok0 (by show 0 ≤ 1000000; omega)
    rw [slot_off (new_off 4 1 _ _) ok0 rfl] at hst
    have hsl := hw0.slots_
    have hno := hw0.nodes_
    change Calls _ _ _ _ (fun e w' => e = .returned (.int .i64 0) ∧ w' = w2) at hsl
    have hst := Lib.hid hst
    have hsl := Lib.hid hsl
    have hno := Lib.hid hno
    have hB := Lib.hid hB
    clear hw hw0 ok0 hs hN hI ho hb1 hb2 hmk
    go_wp2_with fail
    refine hsl.out.mono ?_
    rintro _ _ ⟨rfl, rfl⟩
    go_wp2_with fail
    refine hno.out.mono ?_
    rintro _ _ ⟨rfl, rfl⟩
    go_wp2_with fail
    refine hst.out.mono ?_
    rintro _ w3 ⟨rfl, hw3, b3⟩
    have hsl3 := hw3.slots_
    change Calls _ _ _ _ (fun e w' => e = .returned (.int .i64 1) ∧ w' = w3) at hsl3
    have hsl3 := Lib.hid hsl3
    have hb3 := Lib.hid (wstep_bad hw3 (by omega))
    have hB3 := Lib.hid (hB.out.trans b3.b)
    clear hsl hno hst hw3 b3 hB
    go_wp2_with fail
    refine hsl3.out.mono ?_
    rintro _ _ ⟨rfl, rfl⟩
    go_wp2_with fail
    refine hb3.out.mono ?_
    rintro _ w4 ⟨rfl, -, b4⟩
    have hB4 := Lib.hid (hB3.out.trans b4.b)
    clear hsl3 hb3
    go_wp2_with fail
    go_ret
    exact ⟨rfl, hB4.out⟩
end Go.Proofs.YtpdenmcacaajkaaGreat

/-! ### WdR -/
namespace Go.Proofs.YtpdenmcacaajkaaGreat
open Go.RowKit
set_option maxRecDepth 100000 in
set_option maxHeartbeats 2000000 in
theorem new_sr_no (t : Tb.T) (v : Value) (w : World) (hv : SeesT w w.heap.size v t.ns) (ht : t.is = false) :
    Calls Tryz.prog 47 #[tabV t v] w fun e w' => e = .returned (.tuple #[.pointer none, .int .i64 1]) ∧ Below w.heap.size w w' := by
  obtain ⟨A, c, rfl, v1, v2, v3, -⟩ := hv.at_
  have hB0 := (Below.refl w.heap.size w).alloc (Nat.le_refl _) (.cells #[.slice A t.ns.length c, .int .i64 t.dr, .int .i64 t.wi, .int .i64 t.lm] 29)
  have hX := Blk.new w _ rfl #[.slice A t.ns.length c, .int .i64 t.dr, .int .i64 t.wi, .int .i64 t.lm] 29
  have hI := Lib.hid (is_tb t (.slice A t.ns.length c) (w.alloc (.cells #[.slice A t.ns.length c, .int .i64 t.dr, .int .i64 t.wi, .int .i64 t.lm] 29)) w.heap.size (by simp) (hv.below hB0))
  rw [ht] at hI
  unfold tabV at hI ⊢
  clear hv v3
  have t0 := hX.cell 0 (x := .slice A t.ns.length c) rfl
  have t1 := hX.cell 1 (x := .int .i64 t.dr) rfl
  have t2 := hX.cell 2 (x := .int .i64 t.wi) rfl
  have t3 := hX.cell 3 (x := .int .i64 t.lm) rfl
  go_enter Tryz.func47, Tryz.ntmps47
  go_wp2_with fail
  refine hI.out.mono ?_
  rintro e w2 ⟨rfl, hb2⟩
  have hB2 := Lib.hid (hB0.trans (hb2.mono hB0.size))
  clear hX hI hB0 hb2 t0 t1 t2 t3
  go_wp2_with fail
  go_ret2
  exact ⟨rfl, hB2.out⟩
set_option maxRecDepth 100000 in
set_option maxHeartbeats 4000000 in
theorem wnew_no3 (m : Nat) (t : Tb.T) (tv dv rv : Value) (dl : List Int) (l : List R4) (W : World) (ht : SeesT W W.heap.size tv t.ns) (hd : SeesI W W.heap.size dv dl) (hr : SeesRs W W.heap.size rv l) (his : t.is = true) (hN : dl.length = t.ns.length) (hm : m < t.ns.length) (hmay : ∀ i, i < m → NM.may t (i : Nat) (dl.getD i 0) l) (hno : ¬ NM.may t (m : Nat) (dl.getD m 0) l) :
    Calls Tryz.prog 13 #[tabV t tv, dv, rv] W fun e w' => e = .returned (.tuple #[.pointer none, .int .i64 1]) ∧ Below W.heap.size W w' := by
  have hn4 := (Tb.T.may his).n4
  have hn8 := (Tb.T.may his).n8
  have hbx := (Below.refl W.heap.size W).alloc (Nat.le_refl _) (.cells #[tv, .int .i64 t.dr, .int .i64 t.wi, .int .i64 t.lm] 29)
  have X := Blk.new W W.heap.size rfl #[tv, .int .i64 t.dr, .int .i64 t.wi, .int .i64 t.lm] 29
  have hT := fun W' (hb : Below W.heap.size W W') => (ht.below hb).more hb.size
  have hS := fun W' (hb : Below W.heap.size W W') => Lib.hid (new_sr t tv W' (hT W' hb) his)
  obtain ⟨Ad, cd, rfl, d1, d2, d3, d4⟩ := hd.at_
  obtain ⟨At, ct, rfl, -⟩ := ht.at_
  unfold tabV at hS ⊢
  rw [hN] at d1 d3 d4 ⊢
  have q0 : (((t.ns.length : Nat) : Int) != ((t.ns.length : Nat) : Int)) = false := by simp
  have tz : ∀ k : Nat, ((k : Nat) : Int).toNat = k := fun k => Int.toNat_natCast k
  have hNo := fun (wr : World) (hb : Below W.heap.size W wr) => Lib.hid (nodeApi.new_no t (.slice At t.ns.length ct) rv (m : Nat) (dl.getD m 0) l wr (hT wr hb) ((hr.below hb).more hb.size) hno)
  have hNd := fun (k : Nat) (hk : k < m) (wr : World) (hb : Below W.heap.size W wr) => Lib.hid (nodeApi.new_ok t (.slice At t.ns.length ct) rv (k : Nat) (dl.getD k 0) l wr (hT wr hb) ((hr.below hb).more hb.size) (hmay k hk))
  simp only [Int.toNat_natCast] at hNd
  unfold tabV at hNd hNo
  have hdc : Hid (∀ (k : Nat) (wr : World), k < t.ns.length → Below W.heap.size W wr → ∃ b off, Ad = some ⟨b, off, none⟩ ∧ wr.cell? ⟨b, off + k, none⟩ = some (.int .i64 (dl.getD k 0))) := Lib.hid fun k wr hk hb => by
    obtain ⟨b, off, e, hlt, hc⟩ := d3 (by omega)
    exact ⟨b, off, e, (hb.cell (p := ⟨b, off + k, none⟩) hlt).trans (hc k hk)⟩
  generalize hNe : t.ns.length = N at *
  go_enter Tryz.func13, Tryz.ntmps13
  have x0 := X.cell 0 (x := .slice At N ct) rfl
  have x1 := X.cell 1 (x := .int .i64 t.dr) rfl
  have x2 := X.cell 2 (x := .int .i64 t.wi) rfl
  have x3 := X.cell 3 (x := .int .i64 t.lm) rfl
  go_wp2_with fail
  clear x0 x1 x2 x3
  refine (hS _ hbx).out.mono ?_
  rintro e w1 ⟨gs, rfl, hgs, hG, hb1⟩
  have X1 := X.below hb1 X.lt
  have hB1 := hbx.trans (hb1.mono (by simp))
  have x0 := X1.cell 0 (x := .slice At N ct) rfl
  have hXl := X.lt
  have hgs0 : W.heap.size < gs := by (have hgs1 : W.heap.size + 1 ≤ gs := by simpa using hgs); omega
  have hNW : NW W.heap.size t dl l w1.heap.size gs 0 (fun _ => 0) (fun _ => []) (.slice none 0 0) W (w1.alloc (.cells #[.slice none 0 0, .pointer (some ⟨gs, 0, none⟩), .int .i64 0] 110)) :=
    ⟨Blk.new w1 _ rfl _ _, by rw [hNe]; exact hG.below ((Below.refl _ _).alloc (Nat.le_refl _) _) hG.lt, World.ownsRow_nil _ _ _ _, fun i hi => by omega, fun i hi => by omega, fun i j hi => by omega, ⟨by omega, hG.lt⟩, hB1.alloc hB1.size _⟩
  have X2 := X1.alloc (.cells #[.slice none 0 0, .pointer (some ⟨gs, 0, none⟩), .int .i64 0] 110)
  have hNW := Lib.hid hNW
  have hXw : W.heap.size < w1.heap.size := X1.lt
  clear hS X X1 hb1 hB1 hG hbx
  go_wp2_with fail
  clear x0
  generalize w1.alloc (.cells #[.slice none 0 0, .pointer (some ⟨gs, 0, none⟩), .int .i64 0] 110) = w2 at *
  generalize w1.heap.size = x at *
  go_loopw [35] (fun i wr => ∃ (k : Nat) (gp : Nat → Nat) (F : Nat → List Nat) (v : Value), k ≤ m ∧ i = .int .i64 (k : Nat) ∧ NW W.heap.size t dl l x gs k gp F v W wr ∧ Blk wr W.heap.size #[.slice At N ct, .int .i64 t.dr, .int .i64 t.wi, .int .i64 t.lm] 29) (fun i _ => m - (intOf i).toNat)
  case atStart => exact ⟨0, _, _, _, by omega, rfl, hNW.out, X2⟩
  case round =>
    clear hNW X2
    obtain ⟨k, gp, F, v, hk, rfl, h, X⟩ := hrel
    by_cases hlt : k < m
    · have r1 : decide ((k : Int) < (N : Nat)) = true := by simp; omega
      obtain ⟨b, off, rfl, hdr⟩ := hdc.out k wr (by omega) h.bw
      have x0 := X.cell 0 (x := .slice At N ct) rfl
      have x1 := X.cell 1 (x := .int .i64 t.dr) rfl
      have x2 := X.cell 2 (x := .int .i64 t.wi) rfl
      have x3 := X.cell 3 (x := .int .i64 t.lm) rfl
      have hN4 := hNd k hlt wr h.bw
      obtain ⟨y, hy0⟩ : ∃ y, y = dl.getD k 0 := ⟨_, rfl⟩
      have hy := Lib.hid hy0
      rw [← hy0] at hdr hN4
      clear hy0
      go_wp2_with fail
      clear x0 x1 x2 x3 hdr
      refine hN4.out.mono ?_
      rintro e w4 ⟨g, F', rfl, hn, hF, hb4⟩
      rw [hy.out] at hn
      have X4 := X.below hb4 X.lt
      obtain ⟨gp', F'', eg, h4, hn4, hF4, hd4⟩ := h.node hb4 hn hF
      subst eg
      have hx4 := h4.lt
      have hl4 := h4.lst
      have c0 := h4.blk.cell 0 (x := v) rfl
      have hvx : v.ownBlock ≠ some x := fun e => by have := (hl4.lt x e).1; omega
      have hvX : v.ownBlock ≠ some W.heap.size := fun e => by have := (hl4.lt _ e).1; omega
      have hsrc := src_ptr w4 23 w4.heap.size (gp' k) rfl
      clear h hn hF hb4 hN4 X
      go_wp2_with (at_builtin; go_loud (refine wpList_pushC _ rfl (.tmp 54) (.tmp 56) 108 rfl (x + 1) 23 _ 1 8 info_np rfl (by omega) Tryz.underlying108 v k _ (hl4.alloc _) rfl _ 1 _ rfl hsrc (by simp; omega) (by simp [maxLen]; omega) (by omega) ?_))
      intro v5 w5 hl5 hx5
      obtain ⟨b5, e5, rfl⟩ : ∃ b5 e5, v5 = .slice (some ⟨b5, 0, none⟩) (k + 1) e5 := by
        rcases hl5.2 with ⟨-, e⟩ | ⟨g5, cap5, cur5, e, -⟩
        · omega
        · exact ⟨g5, cap5, e⟩
      have hE := ((Ext.refl w4 v).alloc (.cells #[.pointer (some ⟨gp' k, 0, none⟩)] 23)).trans hx5
      have hX5 : Blk w5 x #[v, .pointer (some ⟨gs, 0, none⟩), .int .i64 0] 110 := (hE.grown.block x hx4 (fun e => hvx e.symm)).trans h4.blk
      have c5 := hX5.cell 0 (x := v) rfl
      have f5 := hX5.frozen 0
      have h6 := Lib.hid (h4.push hn4 hF4 hd4 hE hl5)
      have X6 : Hid (Blk (w5.setCell ⟨x, 0, none⟩ (.slice (some ⟨b5, 0, none⟩) (k + 1) e5)) W.heap.size #[.slice At N ct, .int .i64 t.dr, .int .i64 t.wi, .int .i64 t.lm] 29) := Lib.hid (Blk.other ((hE.grown.block _ X4.lt (fun e => hvX e.symm)).trans X4) ⟨x, 0, none⟩ (by show W.heap.size ≠ x; omega) _)
      clear h4 hn4 hF4 hd4 hE hl5 hx5 hX5 c0 hl4 hsrc X4
      go_wp2_with fail
      go_roundw
      case rel => exact ⟨k + 1, gp', F'', _, by omega, by go_num, h6.out, X6.out⟩
      case measure => simp [intOf]; omega
    · obtain rfl : k = m := by omega
      have r1 : decide ((k : Int) < (N : Nat)) = true := by simp; omega
      obtain ⟨b, off, rfl, hdr⟩ := hdc.out k wr hm h.bw
      have x0 := X.cell 0 (x := .slice At N ct) rfl
      have x1 := X.cell 1 (x := .int .i64 t.dr) rfl
      have x2 := X.cell 2 (x := .int .i64 t.wi) rfl
      have x3 := X.cell 3 (x := .int .i64 t.lm) rfl
      have hN4 := hNo wr h.bw
      generalize dl.getD k 0 = y at *
      have hbw := h.bw
      have hbw := Lib.hid hbw
      clear h X hNd hNo
      go_wp2_with fail
      refine hN4.out.mono ?_
      rintro e w4 ⟨rfl, hb4⟩
      have hB4 := Lib.hid (hbw.out.trans (hb4.mono hbw.out.size))
      go_wp2_with fail
      go_ret2
      exact ⟨rfl, hB4.out⟩
set_option maxRecDepth 100000 in
set_option maxHeartbeats 4000000 in
theorem wnew_no1 (t : Tb.T) (tv dv rv : Value) (dl : List Int) (W : World) (ht : SeesT W W.heap.size tv t.ns) (hd : SeesI W W.heap.size dv dl) (his : t.is = false) :
    Calls Tryz.prog 13 #[tabV t tv, dv, rv] W fun e w' => e = .returned (.tuple #[.pointer none, .int .i64 1]) ∧ Below W.heap.size W w' := by
  have hbx := (Below.refl W.heap.size W).alloc (Nat.le_refl _) (.cells #[tv, .int .i64 t.dr, .int .i64 t.wi, .int .i64 t.lm] 29)
  have X := Blk.new W W.heap.size rfl #[tv, .int .i64 t.dr, .int .i64 t.wi, .int .i64 t.lm] 29
  have hS := Lib.hid (new_sr_no t tv (W.alloc (.cells #[tv, .int .i64 t.dr, .int .i64 t.wi, .int .i64 t.lm] 29)) ((ht.below hbx).more hbx.size) his)
  obtain ⟨Ad, cd, rfl, -⟩ := hd.at_
  obtain ⟨At, ct, rfl, -⟩ := ht.at_
  unfold tabV at hS ⊢
  clear ht hd
  have x0 := X.cell 0 (x := .slice At t.ns.length ct) rfl
  have x1 := X.cell 1 (x := .int .i64 t.dr) rfl
  have x2 := X.cell 2 (x := .int .i64 t.wi) rfl
  have x3 := X.cell 3 (x := .int .i64 t.lm) rfl
  go_enter Tryz.func13, Tryz.ntmps13
  go_wp2_with fail
  refine hS.out.mono ?_
  rintro e w1 ⟨rfl, hb1⟩
  have hB1 := Lib.hid (hbx.trans (hb1.mono hbx.size))
  clear X hS hbx hb1 x0 x1 x2 x3
  go_wp2_with fail
  go_ret2
  exact ⟨rfl, hB1.out⟩
set_option maxRecDepth 100000 in
set_option maxHeartbeats 4000000 in
theorem wnew_no2 (t : Tb.T) (tv dv rv : Value) (dl : List Int) (W : World) (ht : SeesT W W.heap.size tv t.ns) (hd : SeesI W W.heap.size dv dl) (his : t.is = true) (hN : dl.length ≠ t.ns.length) :
    Calls Tryz.prog 13 #[tabV t tv, dv, rv] W fun e w' => e = .returned (.tuple #[.pointer none, .int .i64 1]) ∧ Below W.heap.size W w' := by
  have hbx := (Below.refl W.heap.size W).alloc (Nat.le_refl _) (.cells #[tv, .int .i64 t.dr, .int .i64 t.wi, .int .i64 t.lm] 29)
  have X := Blk.new W W.heap.size rfl #[tv, .int .i64 t.dr, .int .i64 t.wi, .int .i64 t.lm] 29
  have hS := Lib.hid (new_sr t tv (W.alloc (.cells #[tv, .int .i64 t.dr, .int .i64 t.wi, .int .i64 t.lm] 29)) ((ht.below hbx).more hbx.size) his)
  obtain ⟨Ad, cd, rfl, -⟩ := hd.at_
  obtain ⟨At, ct, rfl, -⟩ := ht.at_
  unfold tabV at hS ⊢
  clear ht hd
  have q0 : (((dl.length : Nat) : Int) != ((t.ns.length : Nat) : Int)) = true := by simp; omega
  have q0n : (dl.length != t.ns.length) = true := by simpa using hN
  generalize dl.length = nd at *
  generalize hNe : t.ns.length = N at *
  have x0 := X.cell 0 (x := .slice At N ct) rfl
  have x1 := X.cell 1 (x := .int .i64 t.dr) rfl
  have x2 := X.cell 2 (x := .int .i64 t.wi) rfl
  have x3 := X.cell 3 (x := .int .i64 t.lm) rfl
  go_enter Tryz.func13, Tryz.ntmps13
  go_wp2_with fail
  refine hS.out.mono ?_
  rintro e w1 ⟨g, rfl, -, -, hb1⟩
  have hB1 := Lib.hid (hbx.trans (hb1.mono hbx.size))
  have x0 := (X.below hb1 X.lt).cell 0 (x := .slice At N ct) rfl
  clear X hS hbx hb1 x1 x2 x3
  go_wp2_with fail
  go_ret2
  exact ⟨rfl, hB1.out⟩
end Go.Proofs.YtpdenmcacaajkaaGreat

/-! ### StR -/
namespace Go.Proofs.YtpdenmcacaajkaaGreat
open Go.RowKit

/-- The document's store in memory. -/
def RAt (F : List Nat) (W : World) (g : Nat) (s : MS) : Prop := SAt 132 F W g s

set_option maxRecDepth 100000 in
set_option maxHeartbeats 2000000 in
theorem clear_rf (F : List Nat) (g : Nat) (s : MS) (w : World) (h : RAt F w g s) (hg : g ∈ F) :
    Calls Tryz.prog 62 #[.pointer (some ⟨g, 0, none⟩)] w fun e w' => e = .returned (.tuple #[]) ∧ RAt F w' g MS.new ∧ Only g w w' := by
  go_enter Tryz.func62, Tryz.ntmps62
  go_wp2_with fail
  go_loopw [2] (fun i wr => ∃ k : Nat, k ≤ 8 ∧ i = .int .i64 k ∧ RAt F wr g (s.clr k) ∧ Only g w wr) (fun i _ => 8 - (intOf i).toNat)
  case atStart => exact ⟨0, by omega, rfl, SAt.alike h (fun _ _ => rfl) (fun _ _ => rfl) (fun _ _ => rfl), Only.refl _ _⟩
  case round =>
    clear h
    obtain ⟨k, hk, rfl, h, o⟩ := hrel
    by_cases hlt : k < 8
    · have r1 : decide ((k : Int) < 8) = true := decide_eq_true (by omega)
      obtain ⟨v, c0, -⟩ := SAt.cd h hlt
      have c1 := SAt.ca h hlt
      have c2 := SAt.cg h hlt
      have f0 := SAt.frozen h (k * 3)
      have f1 := SAt.frozen h (k * 3 + 1)
      have f2 := SAt.frozen h (k * 3 + 2)
      have H := Lib.hid (SAt.alike (SAt.setg (SAt.seta (SAt.setd h hg hlt Dat.nil (by simp) (fun x hx => by simp at hx)) hg hlt (-1) (by omega) (by omega)) hg hlt false) (s' := s.clr (k + 1)) (fun i _ => (clr_step s k).1 i) (fun i _ => (clr_step s k).2.1 i) (fun i _ => (clr_step s k).2.2 i))
      clear h
      go_wp2
      go_roundw
      case rel => exact ⟨k + 1, by omega, by go_num, H.out, ((o.set _ _).set _ _).set _ _⟩
      case measure => simp [intOf]; omega
    · obtain rfl : k = 8 := by omega
      go_wp2
      exact bodyPost_end (results_none (by rfl) _ _ _) rfl ⟨rfl, SAt.alike h (fun i hi => by simp [MS.clr, MS.new, hi]) (fun i hi => by simp [MS.clr, MS.new, hi]) (fun i hi => by simp [MS.clr, MS.new, hi]), o⟩
set_option maxRecDepth 100000 in
set_option maxHeartbeats 2000000 in
theorem new_rf (w : World) :
    Calls Tryz.prog 24 #[] w fun e w' => ∃ g, e = .returned (.pointer (some ⟨g, 0, none⟩)) ∧ w.heap.size ≤ g ∧ (∀ F, RAt F w' g MS.new) ∧ Below w.heap.size w w' := by
  have H0 : Hid (RAt [w.heap.size] (w.alloc (.cells (stc (fun _ => .slice none 0 0) (fun _ => 0) (fun _ => false)) 132)) w.heap.size ⟨fun _ => [], fun _ => 0, fun _ => false⟩) := Lib.hid ⟨⟨_, Blk.new _ _ rfl _ _, fun _ _ => Dat.nil⟩, ⟨fun _ _ => by simp, fun _ _ x hx => by simp at hx, fun _ _ => by simp, fun _ _ => by simp⟩⟩
  have HC := fun W (h : RAt [w.heap.size] W w.heap.size ⟨fun _ => [], fun _ => 0, fun _ => false⟩) => Lib.hid (clear_rf [w.heap.size] w.heap.size _ W h (by simp))
  have hb := (Below.refl w.heap.size w).alloc (Nat.le_refl _) (.cells (stc (fun _ => .slice none 0 0) (fun _ => 0) (fun _ => false)) 132)
  have hz : (w.alloc (.cells (stc (fun _ => .slice none 0 0) (fun _ => 0) (fun _ => false)) 132)).heap.size = w.heap.size + 1 := by simp
  unfold stc at H0 hb hz
  go_enter Tryz.func24, Tryz.ntmps24
  go_wp2_with fail
  refine (HC _ H0.out).out.mono ?_
  rintro _ w2 ⟨rfl, h2, o2⟩
  have hb2 := hb.trans (o2.below (Nat.le_refl _) (by rw [hz]; omega))
  go_wp2
  go_ret
  exact ⟨_, rfl, Nat.le_refl _, fun F => SAt.refit h2 (fun i _ => rfl), hb2⟩
end Go.Proofs.YtpdenmcacaajkaaGreat
