/- Texts WdS, WdK, WdBase in one. For what each says in front of its theorems. -/
import Derived.Test.YtjoioojckekfhaaGreatVB1
import Derived.Test.YtjoioojckekfhaaGreatVB48
import Derived.Test.YtjoioojckekfhaaGreatVB51
/-! ### WdS -/
namespace Go.Proofs.YtjoioojckekfhaaGreat
open Go.RowKit

section
variable {B : Nat} {P : List Nat} {N x : Nat} {u : WM} {W : World}
theorem WAt.bw_below (h : WAt B P N W x u) {W' : World} (b : Below W.heap.size W W') : Bw B P W W' := by obtain ⟨q, h⟩ := h; exact h.bw_below b
set_option maxRecDepth 100000 in
set_option maxHeartbeats 2000000 in
theorem wstep_slot (h : WAt B P N W x u) (ok : WOk N u) (hsl : u.sl ≤ 1000000) :
    Calls Tryz.prog 16 #[.pointer (some ⟨x, 0, none⟩), .agg #[.int .i64 5, .int .i64 0, .int .i64 0, .slice none 0 0, .slice none 0 0]] W fun e w' => e = .returned (.int .i64 0) ∧ WAt B P N w' x (u.slot N) ∧ Bw B P W w' := by
  have hb := (Below.refl W.heap.size W).alloc (Nat.le_refl _) (.cells #[.int .i64 5, .int .i64 0, .int .i64 0, .slice none 0 0, .slice none 0 0] 39)
  have hw := h.bw_below hb
  have hs := Lib.hid (wslot (h.box (.cells #[.int .i64 5, .int .i64 0, .int .i64 0, .slice none 0 0, .slice none 0 0] 39)) ok hsl)
  clear h hb
  go_enter Tryz.func16, Tryz.ntmps16
  go_wp2_with fail
  refine hs.out.mono ?_
  rintro e w2 ⟨rfl, h2, b2⟩
  go_wp2_with fail
  go_ret
  exact ⟨rfl, h2.less (fun p hp => List.mem_cons_of_mem _ hp), hw.trans (b2.less fun p hp => List.mem_cons_of_mem _ hp)⟩
set_option maxRecDepth 100000 in
set_option maxHeartbeats 2000000 in
theorem wstep_bad (h : WAt B P N W x u) (hN : 0 < N) :
    Calls Tryz.prog 16 #[.pointer (some ⟨x, 0, none⟩), .agg #[.int .i64 0, .int .i64 0, .int .i64 0, .slice none 0 0, .slice none 0 0]] W fun e w' => e = .returned (.int .i64 1) ∧ WAt B P N w' x u ∧ Bw B P W w' := by
  have hb := (Below.refl W.heap.size W).alloc (Nat.le_refl _) (.cells #[.int .i64 0, .int .i64 0, .int .i64 0, .slice none 0 0, .slice none 0 0] 39)
  have hw := h.bw_below hb
  have h2 := h.below hb
  obtain ⟨q, h1⟩ := h.box (.cells #[.int .i64 0, .int .i64 0, .int .i64 0, .slice none 0 0, .slice none 0 0] 39)
  have hn := Lib.hid (show Calls Tryz.prog 37 #[.pointer (some ⟨x, 0, none⟩), .int .i64 0] _ _ from wnode_in h1 0 hN)
  clear h hb h1
  go_enter Tryz.func16, Tryz.ntmps16
  go_wp2_with fail
  refine hn.out.mono ?_
  rintro _ _ ⟨rfl, rfl⟩
  go_wp2_with fail
  go_ret
  exact ⟨rfl, h2, hw⟩
set_option maxRecDepth 100000 in
set_option maxHeartbeats 2000000 in
theorem wstep_none (p : Option Addr) (i a : Int) (hn : ∀ z, Calls Tryz.prog 37 #[.pointer p, .int .i64 i] (W.alloc z) fun e w' => e = .returned (.pointer none) ∧ w' = W.alloc z) :
    Calls Tryz.prog 16 #[.pointer p, .agg #[.int .i64 1, .int .i64 i, .int .i64 a, .slice none 0 0, .slice none 0 0]] W fun e w' => e = .returned (.int .i64 1) ∧ Below W.heap.size W w' := by
  have hb := (Below.refl W.heap.size W).alloc (Nat.le_refl _) (.cells #[.int .i64 1, .int .i64 i, .int .i64 a, .slice none 0 0, .slice none 0 0] 39)
  have hn := Lib.hid (hn (.cells #[.int .i64 1, .int .i64 i, .int .i64 a, .slice none 0 0, .slice none 0 0] 39))
  cases p with
  | none =>
    go_enter Tryz.func16, Tryz.ntmps16
    go_wp2_with fail
    refine hn.out.mono ?_
    rintro _ _ ⟨rfl, rfl⟩
    go_wp2_with fail
    go_ret
    exact ⟨rfl, hb⟩
  | some b =>
    go_enter Tryz.func16, Tryz.ntmps16
    go_wp2_with fail
    refine hn.out.mono ?_
    rintro _ _ ⟨rfl, rfl⟩
    go_wp2_with fail
    go_ret
    exact ⟨rfl, hb⟩
set_option maxRecDepth 100000 in
set_option maxHeartbeats 2000000 in
theorem wstep_on (h : WAt B P N W x u) (i : Nat) (hi : i < N) (a : Int) :
    Calls Tryz.prog 16 #[.pointer (some ⟨x, 0, none⟩), .agg #[.int .i64 1, .int .i64 (i : Nat), .int .i64 a, .slice none 0 0, .slice none 0 0]] W fun e w' => e = .returned (.int .i64 ((u.ms i).onE a)) ∧ WAt B P N w' x { u with ms := upd' u.ms i ((u.ms i).on a) } ∧ Bw B P W w' := by
  have hb := (Below.refl W.heap.size W).alloc (Nat.le_refl _) (.cells #[.int .i64 1, .int .i64 (i : Nat), .int .i64 a, .slice none 0 0, .slice none 0 0] 39)
  have hw := h.bw_below hb
  obtain ⟨q, h1⟩ := h.box (.cells #[.int .i64 1, .int .i64 (i : Nat), .int .i64 a, .slice none 0 0, .slice none 0 0] 39)
  have hn := Lib.hid (wnode_in h1 i hi)
  have hs := Lib.hid (nodeApi.on a (h1.nd i hi))
  generalize (u.ms i).onE a = oe at *
  go_enter Tryz.func16, Tryz.ntmps16
  go_wp2_with fail
  refine hn.out.mono ?_
  rintro _ _ ⟨rfl, rfl⟩
  go_wp2_with fail
  refine hs.out.mono ?_
  rintro _ w2 ⟨F', rfl, hn2, he⟩
  have h2 := Lib.hid (h1.eff hi hn2 he)
  have b2 := Lib.hid (h1.bw_eff hi he)
  clear h1 hn2 he hs hn
  go_wp2_with fail
  go_ret
  exact ⟨rfl, ⟨_, h2.out.less (fun p hp => List.mem_cons_of_mem _ hp)⟩, hw.trans (b2.out.less fun p hp => List.mem_cons_of_mem _ hp)⟩
end
end Go.Proofs.YtjoioojckekfhaaGreat

/-! ### WdK -/
namespace Go.Proofs.YtjoioojckekfhaaGreat
open Go.RowKit

def ics (n : Nat) : Array Value := ((List.replicate n (0 : Int)).map (Value.int .i64)).toArray
theorem infoIntW : (Tryz.prog.info? 3).map (fun i => (i.zero, i.size)) = some (some (.int .i64 0), 1) := by kernel_rfl
theorem infoIntWB : (Tryz.prog.info? 3).map (fun i => decide (i.bytes ≤ 100)) = some true := by kernel_rfl
theorem madeI (n : Nat) (hn : n ≤ 8) : madeCells (Value.int .i64 0).cells (n * 1) = ics n := by
  rcases (by omega : n = 0 ∨ n = 1 ∨ n = 2 ∨ n = 3 ∨ n = 4 ∨ n = 5 ∨ n = 6 ∨ n = 7 ∨ n = 8) with rfl | rfl | rfl | rfl | rfl | rfl | rfl | rfl | rfl <;> kernel_rfl
theorem run_makeI (n : Nat) (hn : n ≤ 8) (w : World) : (Instr.makeSlice 31 (.int .i64 (n : Int)) (.int .i64 (n : Int))).run Tryz.prog w = .ok (.slice (some ⟨w.heap.size, 0, none⟩) n n) (w.alloc (.cells (ics n) 3)) := by
  have h1 := infoIntW
  have h2 := infoIntWB
  cases hi : Tryz.prog.info? 3 with
  | none => rw [hi] at h1; simp at h1
  | some i =>
    rw [hi] at h1 h2
    simp only [Option.map_some, Option.some.injEq, Prod.mk.injEq, decide_eq_true_eq] at h1 h2
    have hb : (i.bytes : Int) * (n : Int) ≤ 281474976710656 := by
      have : i.bytes * n ≤ 100 * 8 := Nat.mul_le_mul h2 hn
      have h : ((i.bytes * n : Nat) : Int) ≤ 281474976710656 := by omega
      rwa [Int.natCast_mul] at h
    have hr := run_make (P := Tryz.prog) w 31 3 i _ Tryz.underlying31 hi h1.1 .i64 .i64 n n (by omega) (by omega) hb (by omega)
    simp only [Int.toNat_natCast] at hr
    rw [hr, h1.2, madeI n hn]
theorem sees_ics (n : Nat) (hn : n ≤ 8) (w : World) : SeesI (w.alloc (.cells (ics n) 3)) (w.heap.size + 1) (.slice (some ⟨w.heap.size, 0, none⟩) n n) (List.replicate n 0) :=
  sees_liti w 3 (ics n) (List.replicate n 0) rfl _ (Nat.lt_succ_self _) (by simp [maxLen]; omega) w.heap.size n n rfl (by simp) (by simp)
/-- A new ward's slot may pass. -/
theorem WOk.new (n : Nat) (dr : Int) (dl : List Int) (l : List R4) (h4 : 4 ≤ n) (h8 : n ≤ 8) (hd : 0 ≤ dr ∧ dr ≤ 200) : WOk n (WM.new (gsmT n dr) dl l) := by
  have e : ∀ i, ((WM.new (gsmT n dr) dl l).ms i).sendS = (WM.new (gsmT n dr) dl l).ms i := fun i => by
    unfold NM.sendS
    rw [if_neg (by show ¬ (0 : Nat) = 1; omega), if_pos (.inl rfl)]
    rfl
  refine ⟨⟨h4, h8⟩, gsmL_length n, fun i _ => by rw [e i]; show _ ≤ (0 : Int) ∧ (0 : Int) ≤ _; omega, fun i _ => by rw [e i]; show (0 : Nat) < 900 ∧ (0 : Nat) < 900; omega, by show _ ≤ (0 : Int) ∧ (0 : Int) ≤ _; omega, by show 0 < n; omega, fun x hx => (by cases hx), ?_, ?_, by show 0 ≤ 1000; omega⟩
  · show 0 ≤ 4 * dr + 9 ∧ 4 * dr + 9 ≤ 1000; omega
  · show 0 ≤ 4 * dr + 6 ∧ 4 * dr + 6 ≤ 1000; omega
theorem may_new (n : Nat) (dr : Int) (i : Nat) (d : Int) (l : List R4) (h4 : 4 ≤ n) (h8 : n ≤ 8) (hd : 0 ≤ dr ∧ dr ≤ 200) (hi : i < n) (hdd : -dr ≤ d ∧ d ≤ dr) (hl : l.length ≤ 8) (hm : ∀ k, k < l.length → (l.getD k default).may) : NM.may (gsmT n dr) (i : Nat) d l :=
  ⟨some_is n dr h4 h8 hd, ⟨by omega, by show ((i : Nat) : Int) < ((gsmL n).length : Nat); rw [gsmL_length]; omega⟩, hdd, hl, hm⟩
/-- A ward of some(n, dr), without drifts. -/
theorem wnew_some (n : Nat) (dr : Int) (rv : Value) (l : List R4) (h4 : 4 ≤ n) (h8 : n ≤ 8) (hd : 0 ≤ dr ∧ dr ≤ 200) (hl : l.length ≤ 8) (hm : ∀ k, k < l.length → (l.getD k default).may) (v dv : Value) (W : World) (hv : SeesT W W.heap.size v (gsmL n)) (hdv : SeesI W W.heap.size dv (List.replicate n 0)) (hr : SeesRs W W.heap.size rv l) :
    Calls Tryz.prog 13 #[.agg #[v, .int .i64 dr, .int .i64 (4 * dr + 6), .int .i64 (4 * dr + 9)], dv, rv] W fun e w' => ∃ x, e = .returned (.tuple #[.pointer (some ⟨x, 0, none⟩), .int .i64 0]) ∧ WAt W.heap.size [] n w' x (WM.new (gsmT n dr) (List.replicate n 0) l) ∧ Below W.heap.size W w' := by
  have := wnew (gsmT n dr) v dv rv (List.replicate n 0) l W hv hdv hr (some_is n dr h4 h8 hd) (by rw [List.length_replicate]; exact (gsmL_length n).symm) (fun i hi => by
    have hi : i < n := by rw [← gsmL_length n]; exact hi
    refine may_new n dr i _ l h4 h8 hd hi ?_ hl hm
    have e : (List.replicate n (0 : Int)).getD i 0 = 0 := by simp [List.getD_eq_getElem?_getD, hi]
    rw [e]; omega)
  rw [show (gsmT n dr).ns.length = n from gsmL_length n] at this
  exact this
theorem WAt.lower {B B' : Nat} {P : List Nat} {N x : Nat} {u : WM} {W : World} (h : WAt B P N W x u) (hB : B' ≤ B) : WAt B' P N W x u := by
  obtain ⟨q, h⟩ := h
  exact ⟨q, h.blk, h.nlt, h.ptr, h.star, h.nd, h.own, h.dis, h.ne, h.out, h.cap, Nat.le_trans hB h.bas.1, Nat.le_trans hB h.bas.2.1, Nat.le_trans hB h.bas.2.2.1, fun i hi f hf => Nat.le_trans hB (h.bas.2.2.2 i hi f hf)⟩
theorem WAt.slots_ {B : Nat} {P : List Nat} {N x : Nat} {u : WM} {W : World} (h : WAt B P N W x u) : Calls Tryz.prog 26 #[.pointer (some ⟨x, 0, none⟩)] W fun e w' => e = .returned (.int .i64 (u.sl : Nat)) ∧ w' = W := by
  obtain ⟨q, h⟩ := h
  exact wslots h
theorem WAt.nodes_ {B : Nat} {P : List Nat} {N x : Nat} {u : WM} {W : World} (h : WAt B P N W x u) : Calls Tryz.prog 23 #[.pointer (some ⟨x, 0, none⟩)] W fun e w' => e = .returned (.int .i64 (N : Nat)) ∧ w' = W := by
  obtain ⟨q, h⟩ := h
  exact wnodes h
/-- Nobody is on: a slot passes, and nothing is so. -/
def AllOff (N : Nat) (u : WM) : Prop := ∀ i, i < N → (u.ms i).st = 0 ∧ (u.ms i).se = false
theorem slot_off {N : Nat} {u : WM} (h : AllOff N u) (ok : WOk N u) (hk : u.s.kn = false) : u.slot N = { u with sl := u.sl + 1 } := by
  have es : ∀ i, i < N → (u.ms i).sendS = u.ms i := fun i hi => by
    obtain ⟨h1, h2⟩ := h i hi
    unfold NM.sendS
    rw [if_neg (by omega), if_pos (.inl h1), ← h2]
  have eb : ∀ i, u.bs N i = [] := fun i => by
    unfold WM.bs
    split
    · rename_i hi
      obtain ⟨h1, h2⟩ := h i hi
      unfold NM.sent
      rw [if_pos (by unfold NM.sendK; rw [if_neg (by omega), if_pos (.inl h1)])]
    · rfl
  have hw : u.who N = -1 := by
    rcases WM.who_range ok with e | ⟨j, -, hj, h0⟩
    · exact e
    · rw [eb j] at h0; simp at h0
  refine WM.alike (fun i => ?_) ?_ rfl
  · show (if i < N then (u.ms i).sendS.take (u.hear N i) else u.ms i) = u.ms i
    split
    · rename_i hi
      rw [es i hi]
      unfold NM.take
      rw [if_pos (.inl (h i hi).1)]
    · rfl
  · show u.s.ended (u.heard N) (u.when_ N) = u.s
    rw [show u.heard N = [] by unfold WM.heard; rw [hw]; rfl]
    exact ended_not _ hk (tells_short (by simp) _) _
theorem new_off (n : Nat) (dr : Int) (dl : List Int) (l : List R4) : AllOff n (WM.new (gsmT n dr) dl l) := fun _ _ => ⟨rfl, rfl⟩
set_option maxRecDepth 100000 in
set_option maxHeartbeats 4000000 in
theorem known_wd (w : World) : Calls Tryz.prog 19 #[] w fun e w' => e = .returned (.bool true) ∧ Below w.heap.size w w' := by
  have hs := fun W => Lib.hid (show Calls Tryz.prog 14 #[.int .i64 4, .int .i64 1] W fun e w' => ∃ v, e = .returned (.agg #[v, .int .i64 1, .int .i64 10, .int .i64 13]) ∧ OwnsD w' W.heap.size v (gsmL 4) ∧ Below W.heap.size W w' from some_wd 4 1 (by omega) (by omega) W)
  have hmk : ∀ W : World, (Instr.makeSlice 31 (.int .i64 4) (.int .i64 4)).run Tryz.prog W = .ok (.slice (some ⟨W.heap.size, 0, none⟩) 4 4) (W.alloc (.cells (ics 4) 3)) := fun W => run_makeI 4 (by omega) W
  have hN := fun v dv W (hv : SeesT W W.heap.size v (gsmL 4)) (hdv : SeesI W W.heap.size dv (List.replicate 4 0)) => Lib.hid (wnew_some 4 1 (.slice none 0 0) [] (by omega) (by omega) (by omega) (by simp) (fun k hk => by simp at hk) v dv W hv hdv SeesRs.nil)
  have hI := fun W => Lib.hid (sees_ics 4 (by omega) W)
  go_enter Tryz.func19, Tryz.ntmps19
  go_wp2_with fail
  go_region_with (first
    | (go_at_call 14; refine (hs _).out.mono ?_; rintro e w1 ⟨v, rfl, ho, hb1⟩)
    | (go_at_call 13; refine (hN _ _ _ ?_ ?_).out.mono ?_; (focus (first | exact ho.sees | exact (ho.sees.below ((Below.refl _ _).alloc (Nat.le_refl _) _)).more (by simp))); (focus (first | exact (hI w1).out.more (by simp) | exact (((hI w).out.below ((Below.refl _ _).drew)).below (hb1.mono (by simp))).more (by have := hb1.size; simpa using this))); rintro e w2 ⟨x, rfl, hw, hb2⟩; (have hB : Below w.heap.size w w2 := by (first | exact ((Below.refl _ _).drew.trans (hb1.alloc hb1.size _)).trans (hb2.mono (by have := hb1.size; simp; exact Nat.le_succ_of_le this)) | exact ((((Below.refl _ _).alloc (Nat.le_refl _) _).drew).trans (hb1.mono (by simp))).trans (hb2.mono (by have := hb1.size; simp at this; omega)))))
    | fail)
  all_goals
    have hlo : w.heap.size ≤ w2.heap.size := hB.size
    have hw0 : WAt w.heap.size [] 4 w2 x (WM.new (gsmT 4 1) (List.replicate 4 0) []) := hw.lower (by first | (have := hb1.size; simp at this ⊢; omega) | (have := hb1.size; simp at this; omega))
    have ok0 := WOk.new 4 1 (List.replicate 4 0) [] (by omega) (by omega) (by omega)
    have hst := wstep_slot hw0 ok0 (by show 0 ≤ 1000000; omega)
    rw [slot_off (new_off 4 1 _ _) ok0 rfl] at hst
    have hsl := hw0.slots_
    have hno := hw0.nodes_
    change Calls _ _ _ _ (fun e w' => e = .returned (.int .i64 0) ∧ w' = w2) at hsl
    have hst := Lib.hid hst
    have hsl := Lib.hid hsl
    have hno := Lib.hid hno
    have hB := Lib.hid hB
    clear hw hw0 ok0 hs hN hI ho hb1 hb2 hmk
    go_wp2_with fail
    refine hsl.out.mono ?_
    rintro _ _ ⟨rfl, rfl⟩
    go_wp2_with fail
    refine hno.out.mono ?_
    rintro _ _ ⟨rfl, rfl⟩
    go_wp2_with fail
    refine hst.out.mono ?_
    rintro _ w3 ⟨rfl, hw3, b3⟩
    have hsl3 := hw3.slots_
    change Calls _ _ _ _ (fun e w' => e = .returned (.int .i64 1) ∧ w' = w3) at hsl3
    have hsl3 := Lib.hid hsl3
    have hb3 := Lib.hid (wstep_bad hw3 (by omega))
    have hB3 := Lib.hid (hB.out.trans b3.b)
    clear hsl hno hst hw3 b3 hB
    go_wp2_with fail
    refine hsl3.out.mono ?_
    rintro _ _ ⟨rfl, rfl⟩
    go_wp2_with fail
    refine hb3.out.mono ?_
    rintro _ w4 ⟨rfl, -, b4⟩
    have hB4 := Lib.hid (hB3.out.trans b4.b)
    clear hsl3 hb3
    go_wp2_with fail
    go_ret
    exact ⟨rfl, hB4.out⟩
end Go.Proofs.YtjoioojckekfhaaGreat

/-! ### WdBase -/
