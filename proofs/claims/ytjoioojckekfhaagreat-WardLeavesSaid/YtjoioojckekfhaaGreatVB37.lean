/- Texts GdD, SrE in one. For what each says in front of its theorems. -/
import Derived.BigQuiet
import Derived.Test.YtjoioojckekfhaaGreatVB35
import Derived.Test.YtjoioojckekfhaaGreatVB36
/-! ### GdD -/
namespace Go.Proofs.YtjoioojckekfhaaGreat
open Go.RowKit

def bools8 (f : Nat → Bool) : Value := .agg #[.bool (f 0), .bool (f 1), .bool (f 2), .bool (f 3), .bool (f 4), .bool (f 5), .bool (f 6), .bool (f 7)]
def ints8 (f : Nat → Int) : Value := .agg #[.int .i64 (f 0), .int .i64 (f 1), .int .i64 (f 2), .int .i64 (f 3), .int .i64 (f 4), .int .i64 (f 5), .int .i64 (f 6), .int .i64 (f 7)]
/-- The first of n, or -1. -/
def fst (f : Nat → Bool) (n : Nat) : Int := match (List.range n).find? f with | some k => (k : Nat) | none => -1
theorem fst_none {f : Nat → Bool} {n : Nat} (h : ∀ k, k < n → f k = false) : fst f n = -1 := by
  unfold fst
  rw [List.find?_eq_none.2 (fun k hk => by simp [h k (List.mem_range.1 hk)])]
theorem fst_hit {f : Nat → Bool} {n k : Nat} (hk : k < n) (hf : f k = true) (h : ∀ j, j < k → f j = false) : fst f n = (k : Nat) := by
  unfold fst
  rw [List.find?_range_eq_some.2 ⟨hf, List.mem_range.2 hk, fun j hj => by simp [h j hj]⟩]
set_option maxRecDepth 100000 in
set_option maxHeartbeats 1000000 in
theorem index_sl (b n c : Nat) (f : Nat → Bool) (w : World) (h : ∀ k, k < n → w.cell? ⟨b, k, none⟩ = some (.bool (f k))) (hn : n ≤ 8) :
    Calls Tryz.prog 107 #[.slice (some ⟨b, 0, none⟩) n c, .bool true] w fun e w' => e = .returned (.int .i64 (fst f n)) ∧ w = w' := by
  have H := Lib.hid h
  have F0 := Lib.hid (fst_none (f := f) (n := n))
  have F1 := fun k h1 h2 h3 => Lib.hid (fst_hit (f := f) (n := n) (k := k) h1 h2 h3)
  generalize fst f n = r at *
  clear h
  go_enter Tryz.func107, Tryz.ntmps107
  go_wp2
  go_loopw [8] (fun i wr => ∃ k : Nat, k ≤ n ∧ i = .int .i64 k ∧ Hid (∀ j, j < k → f j = false) ∧ w = wr) (fun i _ => n - (intOf i).toNat)
  case atStart => exact ⟨0, by omega, rfl, Lib.hid (fun j hj => by omega), rfl⟩
  case round =>
    obtain ⟨k, hk, rfl, hz, rfl⟩ := hrel
    by_cases hlt : k < n
    · have q1 : decide ((k : Int) < (n : Int)) = true := decide_eq_true (by omega)
      have ck := H.out k hlt
      cases hf : f k
      · rw [hf] at ck
        go_wp2
        go_roundw
        case rel => exact ⟨k + 1, by omega, by go_num, Lib.hid (fun j hj => by
          by_cases e : j = k
          · subst e; exact hf
          · exact hz.out j (by omega)), trivial⟩
        case measure => simp [intOf]; omega
      · rw [hf] at ck
        have e1 := F1 k hlt hf hz.out
        go_wp2
        go_ret
        exact ⟨by rw [e1.out]; rfl, rfl⟩
    · have q1 : decide ((k : Int) < (n : Int)) = false := decide_eq_false (by omega)
      have e1 := F0.out (fun j hj => hz.out j (by omega))
      go_wp2
      go_ret
      exact ⟨by rw [e1]; rfl, rfl⟩
/-- Who may be heard. -/
def G.pass (s : G) (f : Nat → Bool) (a : Nat → Int) : Int := if s.kn then (if f s.slot && nearB (a s.slot) s.now s.wi then (s.slot : Nat) else -1) else fst f s.n
theorem b8_get (f : Nat → Bool) (k : Nat) (hk : k < 8) : (#[.bool (f 0), .bool (f 1), .bool (f 2), .bool (f 3), .bool (f 4), .bool (f 5), .bool (f 6), .bool (f 7)] : Array Value)[k]? = some (.bool (f k)) := by
  rcases (by omega : k = 0 ∨ k = 1 ∨ k = 2 ∨ k = 3 ∨ k = 4 ∨ k = 5 ∨ k = 6 ∨ k = 7) with rfl | rfl | rfl | rfl | rfl | rfl | rfl | rfl <;> rfl
theorem i8_get (f : Nat → Int) (k : Nat) (hk : k < 8) : (#[.int .i64 (f 0), .int .i64 (f 1), .int .i64 (f 2), .int .i64 (f 3), .int .i64 (f 4), .int .i64 (f 5), .int .i64 (f 6), .int .i64 (f 7)] : Array Value)[k]? = some (.int .i64 (f k)) := by
  rcases (by omega : k = 0 ∨ k = 1 ∨ k = 2 ∨ k = 3 ∨ k = 4 ∨ k = 5 ∨ k = 6 ∨ k = 7) with rfl | rfl | rfl | rfl | rfl | rfl | rfl | rfl <;> rfl
set_option maxRecDepth 100000 in
set_option maxHeartbeats 4000000 in
theorem pass_gd (g : Nat) (s : G) (f : Nat → Bool) (a : Nat → Int) (w : World) (h : GAt w g s) (hn : s.n ≤ 8) (hs : s.slot < 8) (hnow : time s.now) (hat : time (a s.slot)) (hwi : 0 ≤ s.wi ∧ s.wi ≤ 2305843009213693952) :
    Calls Tryz.prog 106 #[.pointer (some ⟨g, 0, none⟩), bools8 f, ints8 a] w fun e w' => e = .returned (.int .i64 (s.pass f a)) ∧ Below w.heap.size w w' := by
  have hB := ((Below.refl w.heap.size w).alloc (Nat.le_refl _) (.cells #[.bool (f 0), .bool (f 1), .bool (f 2), .bool (f 3), .bool (f 4), .bool (f 5), .bool (f 6), .bool (f 7)] 88)).alloc (by simp) (.cells #[.int .i64 (a 0), .int .i64 (a 1), .int .i64 (a 2), .int .i64 (a 3), .int .i64 (a 4), .int .i64 (a 5), .int .i64 (a 6), .int .i64 (a 7)] 22)
  have hX := (Blk.new w _ rfl #[.bool (f 0), .bool (f 1), .bool (f 2), .bool (f 3), .bool (f 4), .bool (f 5), .bool (f 6), .bool (f 7)] 88).alloc (.cells #[.int .i64 (a 0), .int .i64 (a 1), .int .i64 (a 2), .int .i64 (a 3), .int .i64 (a 4), .int .i64 (a 5), .int .i64 (a 6), .int .i64 (a 7)] 22)
  have hY := Blk.new (w.alloc (.cells #[.bool (f 0), .bool (f 1), .bool (f 2), .bool (f 3), .bool (f 4), .bool (f 5), .bool (f 6), .bool (f 7)] 88)) (w.heap.size + 1) (by simp) #[.int .i64 (a 0), .int .i64 (a 1), .int .i64 (a 2), .int .i64 (a 3), .int .i64 (a 4), .int .i64 (a 5), .int .i64 (a 6), .int .i64 (a 7)] 22
  have hG := h.below hB h.lt
  unfold bools8 ints8
  go_enter Tryz.func106, Tryz.ntmps106
  generalize hw0 : (w.alloc (.cells #[.bool (f 0), .bool (f 1), .bool (f 2), .bool (f 3), .bool (f 4), .bool (f 5), .bool (f 6), .bool (f 7)] 88)).alloc (.cells #[.int .i64 (a 0), .int .i64 (a 1), .int .i64 (a 2), .int .i64 (a 3), .int .i64 (a 4), .int .i64 (a 5), .int .i64 (a 6), .int .i64 (a 7)] 22) = w0 at *
  have c17 := hG.1.cell 17 (x := .bool s.kn) rfl
  unfold G.pass
  cases hk : s.kn
  · rw [hk] at c17
    have c8 := hG.1.cell 8 (x := .int .i64 (s.n : Nat)) rfl
    have hI := Lib.hid (index_sl w.heap.size s.n 8 f w0 (fun k hk => hX.cell k (b8_get f k (by omega))) hn)
    simp only [Bool.false_eq_true, if_false]
    generalize fst f s.n = r at *
    have i1 : (0 : Int) ≤ (s.n : Int) := by omega
    have i2 : (s.n : Int) ≤ 8 := by omega
    clear hX hY h hG
    go_wp2_with fail
    refine hI.out.mono ?_
    rintro e w2 ⟨rfl, rfl⟩
    go_wp2
    go_ret
    exact ⟨rfl, hB⟩
  · rw [hk] at c17
    have cx := hX.cell s.slot (b8_get f s.slot hs)
    have cy := hY.cell s.slot (i8_get a s.slot hs)
    have c9 := hG.1.cell 9 (x := .int .i64 s.wi) rfl
    have c16 := hG.1.cell 16 (x := .int .i64 s.now) rfl
    have c18 := hG.1.cell 18 (x := .int .i64 (s.slot : Nat)) rfl
    have i1 : (0 : Int) ≤ (s.slot : Int) := by omega
    have i2 : (s.slot : Int) < 8 := by omega
    have hN := fun W => Lib.hid ((near_gd (a s.slot) s.now s.wi W hat hnow hwi).mono fun e w' (h : e = .returned (.bool (nearB (a s.slot) s.now s.wi)) ∧ W = w') => (⟨h.1, h.2.symm⟩ : e = .returned (.bool (nearB (a s.slot) s.now s.wi)) ∧ w' = W))
    have HB : Hid (∀ n, Below w.heap.size w (w0.drewN n)) := Lib.hid fun n => below_drewN hB n
    have H18 : Hid (∀ n, (w0.drewN n).cell? ⟨g, 18, none⟩ = some (.int .i64 (s.slot : Nat))) := Lib.hid fun n => (hG.1.drewN n).cell 18 rfl
    generalize f s.slot = q at *
    generalize a s.slot = x at *
    generalize nearB x s.now s.wi = q2 at *
    clear hX hY h hG
    cases q
    · clear hN
      simp only [Bool.false_and, Bool.false_eq_true, if_false, if_true]
      go_wp2_with fail
      go_quiet (fail)
      all_goals
        go_wp2
        all_goals
          go_ret
          exact ⟨rfl, HB.out _⟩
    · cases q2
      all_goals
        simp only [Bool.true_and, Bool.false_eq_true, if_false, if_true]
        go_wp2_with fail
        go_quiet (first | (go_at_call 134; refine Calls.quiet_of_same (hN _).out))
        have c18' := H18.out nq
        have hB' := HB.out nq
        generalize w0.drewN nq = w3 at *
        go_wp2
        go_ret
        exact ⟨rfl, hB'⟩
set_option maxRecDepth 100000 in
set_option maxHeartbeats 1000000 in
theorem pass_nil (f : Nat → Bool) (a : Nat → Int) (w : World) :
    Calls Tryz.prog 106 #[.pointer none, bools8 f, ints8 a] w fun e w' => e = .returned (.int .i64 (-1)) ∧ Below w.heap.size w w' := by
  have hB := ((Below.refl w.heap.size w).alloc (Nat.le_refl _) (.cells #[.bool (f 0), .bool (f 1), .bool (f 2), .bool (f 3), .bool (f 4), .bool (f 5), .bool (f 6), .bool (f 7)] 88)).alloc (by simp) (.cells #[.int .i64 (a 0), .int .i64 (a 1), .int .i64 (a 2), .int .i64 (a 3), .int .i64 (a 4), .int .i64 (a 5), .int .i64 (a 6), .int .i64 (a 7)] 22)
  unfold bools8 ints8
  go_enter Tryz.func106, Tryz.ntmps106
  go_wp2
  go_ret
  exact ⟨rfl, hB⟩
end Go.Proofs.YtjoioojckekfhaaGreat

/-! ### SrE -/
namespace Go.Proofs.YtjoioojckekfhaaGreat
open Go.RowKit

theorem SdAt.sub {W : World} {P P' : List Nat} {b : Nat} {l : List (Value × Sd)} (h : SdAt W P b l) (hP : ∀ i ∈ P', i ∈ P ∨ W.heap.size ≤ i) (hb : b ∈ P') : SdAt W P' b l := ⟨h.blk, fun x hx => (h.row x hx).sub hP, hb⟩
theorem SdAt.other {W : World} {P : List Nat} {b : Nat} {l : List (Value × Sd)} (h : SdAt W P b l) (p : Addr) (hp : p.block ∈ P) (hne : b ≠ p.block) (u : Value) : SdAt (W.setCell p u) P b l := h.kp ((Kw.refl P W).set p hp u) (Below.heap_setCell W p u b hne)
def s8 (f : Nat → Value) : Value := .agg #[f 0, f 1, f 2, f 3, f 4, f 5, f 6, f 7]
theorem s8_get (f : Nat → Value) (k : Nat) (hk : k < 8) : (#[f 0, f 1, f 2, f 3, f 4, f 5, f 6, f 7] : Array Value)[k]? = some (f k) := by
  rcases (by omega : k = 0 ∨ k = 1 ∨ k = 2 ∨ k = 3 ∨ k = 4 ∨ k = 5 ∨ k = 6 ∨ k = 7) with rfl | rfl | rfl | rfl | rfl | rfl | rfl | rfl <;> rfl
/-- A sender as it begins. -/
def sd0 (bs : Nat → List Int) (a : Nat → Int) (i : Nat) : Sd := ⟨rn (bs i), rq (bs i), a i, false⟩
def sdz : Sd := ⟨0, fun _ => 0, 0, false⟩
theorem infoSender : (Tryz.prog.info? 164).map (fun i => (i.zero, i.size)) = some (some (.agg #[.slice none 0 0, .int .i64 0, .bool false]), 3) := by kernel_rfl
theorem infoSenderB : (Tryz.prog.info? 164).map (fun i => decide (i.bytes ≤ 100)) = some true := by kernel_rfl
theorem made3 (n : Nat) (hn : n ≤ 8) : madeCells (Value.agg #[.slice none 0 0, .int .i64 0, .bool false]).cells (n * 3) = (c3 (List.replicate n (.slice none 0 0, sdz))).toArray := by
  rcases (by omega : n = 0 ∨ n = 1 ∨ n = 2 ∨ n = 3 ∨ n = 4 ∨ n = 5 ∨ n = 6 ∨ n = 7 ∨ n = 8) with rfl | rfl | rfl | rfl | rfl | rfl | rfl | rfl | rfl <;> kernel_rfl
theorem run_makeS (n : Nat) (hn : n ≤ 8) (w : World) : (Instr.makeSlice 141 (.int .i64 (n : Int)) (.int .i64 (n : Int))).run Tryz.prog w = .ok (.slice (some ⟨w.heap.size, 0, none⟩) n n) (w.alloc (.cells (c3 (List.replicate n (.slice none 0 0, sdz))).toArray 164)) := by
  have h1 := infoSender
  have h2 := infoSenderB
  cases hi : Tryz.prog.info? 164 with
  | none => rw [hi] at h1; simp at h1
  | some i =>
    rw [hi] at h1 h2
    simp only [Option.map_some, Option.some.injEq, Prod.mk.injEq, decide_eq_true_eq] at h1 h2
    have hb : (i.bytes : Int) * (n : Int) ≤ 281474976710656 := by
      have : i.bytes * n ≤ 100 * 8 := Nat.mul_le_mul h2 hn
      have h : ((i.bytes * n : Nat) : Int) ≤ 281474976710656 := by omega
      rwa [Int.natCast_mul] at h
    have hr := run_make (P := Tryz.prog) w 141 164 i _ Tryz.underlying141 hi h1.1 .i64 .i64 n n (by omega) (by omega) hb (by omega)
    simp only [Int.toNat_natCast] at hr
    rw [hr, h1.2, made3 n hn]
theorem set_step (N k : Nat) (u : Value) (f : Nat → Sd) (z : Sd) (l : List (Value × Sd)) (hk : k < N) (h : l.map Prod.snd = (List.range N).map fun i => if i < k then f i else z) : (l.set k (u, f k)).map Prod.snd = (List.range N).map fun i => if i < k + 1 then f i else z := by
  rw [List.map_set, h]
  apply List.ext_getElem?
  intro i
  rw [List.getElem?_set]
  simp only [List.length_map, List.length_range, List.getElem?_map]
  by_cases e : k = i
  · subst e; simp [hk]
  · rw [if_neg e]
    by_cases hi : i < N
    · simp only [List.getElem?_range hi, Option.map_some]
      by_cases h1 : i < k
      · rw [if_pos h1, if_pos (by omega)]
      · rw [if_neg h1, if_neg (by omega)]
    · rw [List.getElem?_eq_none (by simp; omega)]; rfl
set_option maxRecDepth 100000 in
set_option maxHeartbeats 4000000 in
theorem begin_sr (g N : Nat) (A : Nat → Option Addr) (c : Nat → Nat) (bs : Nat → List Int) (a : Nat → Int) (w : World) (hg : w.cell? ⟨g, 0, none⟩ = some (.int .i64 (N : Nat))) (hN : N ≤ 8)
    (hv : ∀ i, i < 8 → SeesL w w.heap.size (.slice (A i) (bs i).length (c i)) (bs i) ∧ bytesL (bs i)) :
    Calls Tryz.prog 82 #[.pointer (some ⟨g, 0, none⟩), s8 fun i => .slice (A i) (bs i).length (c i), ints8 a] w fun e w' => ∃ b l, e = .returned (.agg #[.slice (some ⟨b, 0, none⟩) N N, .bool false, .bool false, .slice none 0 0, .int .i64 0, .bool false, .bool false, .slice none 0 0, .int .i64 0]) ∧
      l.map Prod.snd = (List.range N).map (sd0 bs a) ∧ SdAt w' [b, g] b l ∧ w.heap.size ≤ b ∧ Below w.heap.size w w' := by
  have hmk := run_makeS N hN
  have hgl := World.block_lt_of_cell? w _ hg
  have hb3 := (((Below.refl w.heap.size w).alloc (Nat.le_refl _) (.cells #[.slice (A 0) (bs 0).length (c 0), .slice (A 1) (bs 1).length (c 1), .slice (A 2) (bs 2).length (c 2), .slice (A 3) (bs 3).length (c 3), .slice (A 4) (bs 4).length (c 4), .slice (A 5) (bs 5).length (c 5), .slice (A 6) (bs 6).length (c 6), .slice (A 7) (bs 7).length (c 7)] 117)).alloc (by simp) (.cells #[.int .i64 (a 0), .int .i64 (a 1), .int .i64 (a 2), .int .i64 (a 3), .int .i64 (a 4), .int .i64 (a 5), .int .i64 (a 6), .int .i64 (a 7)] 22)).alloc (by simp; omega) (.cells #[.slice none 0 0, .bool false, .bool false, .slice none 0 0, .int .i64 0, .bool false, .bool false, .slice none 0 0, .int .i64 0] 147)
  have g3 := (hb3.cell (p := ⟨g, 0, none⟩) hgl).trans hg
  have X0 := ((((Blk.new w w.heap.size rfl (#[.slice (A 0) (bs 0).length (c 0), .slice (A 1) (bs 1).length (c 1), .slice (A 2) (bs 2).length (c 2), .slice (A 3) (bs 3).length (c 3), .slice (A 4) (bs 4).length (c 4), .slice (A 5) (bs 5).length (c 5), .slice (A 6) (bs 6).length (c 6), .slice (A 7) (bs 7).length (c 7)]) 117).alloc (.cells #[.int .i64 (a 0), .int .i64 (a 1), .int .i64 (a 2), .int .i64 (a 3), .int .i64 (a 4), .int .i64 (a 5), .int .i64 (a 6), .int .i64 (a 7)] 22)).alloc (.cells #[.slice none 0 0, .bool false, .bool false, .slice none 0 0, .int .i64 0, .bool false, .bool false, .slice none 0 0, .int .i64 0] 147)).alloc (.cells (c3 (List.replicate N (.slice none 0 0, sdz))).toArray 164)).alloc (.cells #[.slice (some ⟨w.heap.size + 1 + 1 + 1, 0, none⟩) N N, .bool false, .bool false, .slice none 0 0, .int .i64 0, .bool false, .bool false, .slice none 0 0, .int .i64 0] 147)
  have X1 := (((Blk.new (w.alloc (.cells #[.slice (A 0) (bs 0).length (c 0), .slice (A 1) (bs 1).length (c 1), .slice (A 2) (bs 2).length (c 2), .slice (A 3) (bs 3).length (c 3), .slice (A 4) (bs 4).length (c 4), .slice (A 5) (bs 5).length (c 5), .slice (A 6) (bs 6).length (c 6), .slice (A 7) (bs 7).length (c 7)] 117)) (w.heap.size + 1) (by simp) (#[.int .i64 (a 0), .int .i64 (a 1), .int .i64 (a 2), .int .i64 (a 3), .int .i64 (a 4), .int .i64 (a 5), .int .i64 (a 6), .int .i64 (a 7)]) 22).alloc (.cells #[.slice none 0 0, .bool false, .bool false, .slice none 0 0, .int .i64 0, .bool false, .bool false, .slice none 0 0, .int .i64 0] 147)).alloc (.cells (c3 (List.replicate N (.slice none 0 0, sdz))).toArray 164)).alloc (.cells #[.slice (some ⟨w.heap.size + 1 + 1 + 1, 0, none⟩) N N, .bool false, .bool false, .slice none 0 0, .int .i64 0, .bool false, .bool false, .slice none 0 0, .int .i64 0] 147)
  have X2 := ((Blk.new ((w.alloc (.cells #[.slice (A 0) (bs 0).length (c 0), .slice (A 1) (bs 1).length (c 1), .slice (A 2) (bs 2).length (c 2), .slice (A 3) (bs 3).length (c 3), .slice (A 4) (bs 4).length (c 4), .slice (A 5) (bs 5).length (c 5), .slice (A 6) (bs 6).length (c 6), .slice (A 7) (bs 7).length (c 7)] 117)).alloc (.cells #[.int .i64 (a 0), .int .i64 (a 1), .int .i64 (a 2), .int .i64 (a 3), .int .i64 (a 4), .int .i64 (a 5), .int .i64 (a 6), .int .i64 (a 7)] 22)) (w.heap.size + 1 + 1) (by simp) (#[.slice none 0 0, .bool false, .bool false, .slice none 0 0, .int .i64 0, .bool false, .bool false, .slice none 0 0, .int .i64 0]) 147).alloc (.cells (c3 (List.replicate N (.slice none 0 0, sdz))).toArray 164)).alloc (.cells #[.slice (some ⟨w.heap.size + 1 + 1 + 1, 0, none⟩) N N, .bool false, .bool false, .slice none 0 0, .int .i64 0, .bool false, .bool false, .slice none 0 0, .int .i64 0] 147)
  have X3 := (Blk.new (((w.alloc (.cells #[.slice (A 0) (bs 0).length (c 0), .slice (A 1) (bs 1).length (c 1), .slice (A 2) (bs 2).length (c 2), .slice (A 3) (bs 3).length (c 3), .slice (A 4) (bs 4).length (c 4), .slice (A 5) (bs 5).length (c 5), .slice (A 6) (bs 6).length (c 6), .slice (A 7) (bs 7).length (c 7)] 117)).alloc (.cells #[.int .i64 (a 0), .int .i64 (a 1), .int .i64 (a 2), .int .i64 (a 3), .int .i64 (a 4), .int .i64 (a 5), .int .i64 (a 6), .int .i64 (a 7)] 22)).alloc (.cells #[.slice none 0 0, .bool false, .bool false, .slice none 0 0, .int .i64 0, .bool false, .bool false, .slice none 0 0, .int .i64 0] 147)) (w.heap.size + 1 + 1 + 1) (by simp) ((c3 (List.replicate N (.slice none 0 0, sdz))).toArray) 164).alloc (.cells #[.slice (some ⟨w.heap.size + 1 + 1 + 1, 0, none⟩) N N, .bool false, .bool false, .slice none 0 0, .int .i64 0, .bool false, .bool false, .slice none 0 0, .int .i64 0] 147)
  have X4 := Blk.new ((((w.alloc (.cells #[.slice (A 0) (bs 0).length (c 0), .slice (A 1) (bs 1).length (c 1), .slice (A 2) (bs 2).length (c 2), .slice (A 3) (bs 3).length (c 3), .slice (A 4) (bs 4).length (c 4), .slice (A 5) (bs 5).length (c 5), .slice (A 6) (bs 6).length (c 6), .slice (A 7) (bs 7).length (c 7)] 117)).alloc (.cells #[.int .i64 (a 0), .int .i64 (a 1), .int .i64 (a 2), .int .i64 (a 3), .int .i64 (a 4), .int .i64 (a 5), .int .i64 (a 6), .int .i64 (a 7)] 22)).alloc (.cells #[.slice none 0 0, .bool false, .bool false, .slice none 0 0, .int .i64 0, .bool false, .bool false, .slice none 0 0, .int .i64 0] 147)).alloc (.cells (c3 (List.replicate N (.slice none 0 0, sdz))).toArray 164)) (w.heap.size + 1 + 1 + 1 + 1) (by simp) (#[.slice (some ⟨w.heap.size + 1 + 1 + 1, 0, none⟩) N N, .bool false, .bool false, .slice none 0 0, .int .i64 0, .bool false, .bool false, .slice none 0 0, .int .i64 0]) 147
  have hb5 := (hb3.alloc (by simp; omega) (.cells (c3 (List.replicate N (.slice none 0 0, sdz))).toArray 164)).alloc (by simp; omega) (.cells #[.slice (some ⟨w.heap.size + 1 + 1 + 1, 0, none⟩) N N, .bool false, .bool false, .slice none 0 0, .int .i64 0, .bool false, .bool false, .slice none 0 0, .int .i64 0] 147)
  have hz5 : (((((w.alloc (.cells #[.slice (A 0) (bs 0).length (c 0), .slice (A 1) (bs 1).length (c 1), .slice (A 2) (bs 2).length (c 2), .slice (A 3) (bs 3).length (c 3), .slice (A 4) (bs 4).length (c 4), .slice (A 5) (bs 5).length (c 5), .slice (A 6) (bs 6).length (c 6), .slice (A 7) (bs 7).length (c 7)] 117)).alloc (.cells #[.int .i64 (a 0), .int .i64 (a 1), .int .i64 (a 2), .int .i64 (a 3), .int .i64 (a 4), .int .i64 (a 5), .int .i64 (a 6), .int .i64 (a 7)] 22)).alloc (.cells #[.slice none 0 0, .bool false, .bool false, .slice none 0 0, .int .i64 0, .bool false, .bool false, .slice none 0 0, .int .i64 0] 147)).alloc (.cells (c3 (List.replicate N (.slice none 0 0, sdz))).toArray 164)).alloc (.cells #[.slice (some ⟨w.heap.size + 1 + 1 + 1, 0, none⟩) N N, .bool false, .bool false, .slice none 0 0, .int .i64 0, .bool false, .bool false, .slice none 0 0, .int .i64 0] 147)).heap.size = w.heap.size + 1 + 1 + 1 + 1 + 1 := by simp
  unfold s8 ints8
  go_enter Tryz.func82, Tryz.ntmps82
  go_wp2_with fail
  generalize (((((w.alloc (.cells #[.slice (A 0) (bs 0).length (c 0), .slice (A 1) (bs 1).length (c 1), .slice (A 2) (bs 2).length (c 2), .slice (A 3) (bs 3).length (c 3), .slice (A 4) (bs 4).length (c 4), .slice (A 5) (bs 5).length (c 5), .slice (A 6) (bs 6).length (c 6), .slice (A 7) (bs 7).length (c 7)] 117)).alloc (.cells #[.int .i64 (a 0), .int .i64 (a 1), .int .i64 (a 2), .int .i64 (a 3), .int .i64 (a 4), .int .i64 (a 5), .int .i64 (a 6), .int .i64 (a 7)] 22)).alloc (.cells #[.slice none 0 0, .bool false, .bool false, .slice none 0 0, .int .i64 0, .bool false, .bool false, .slice none 0 0, .int .i64 0] 147)).alloc (.cells (c3 (List.replicate N (.slice none 0 0, sdz))).toArray 164)).alloc (.cells #[.slice (some ⟨w.heap.size + 1 + 1 + 1, 0, none⟩) N N, .bool false, .bool false, .slice none 0 0, .int .i64 0, .bool false, .bool false, .slice none 0 0, .int .i64 0] 147)) = w5 at *
  have hS0 : SdAt w5 [w.heap.size + 1 + 1 + 1, w.heap.size + 1 + 1, g] (w.heap.size + 1 + 1 + 1) (List.replicate N (.slice none 0 0, sdz)) := ⟨X3, fun y hy => by rw [List.eq_of_mem_replicate hy]; exact Row.nil _ _ _ _ (fun k => by simp [sdz]), by simp⟩
  have HV : Hid (∀ W k, Kw [w.heap.size + 1 + 1 + 1, w.heap.size + 1 + 1] w5 W → k < 8 → SeesL W W.heap.size (.slice (A k) (bs k).length (c k)) (bs k) ∧ bytesL (bs k)) := Lib.hid fun W k hW hk => ⟨((hv k hk).1.below (hb5.trans (hW.toBelow (by omega) (fun i hi => by simp at hi; omega)))).more (by have := hW.size; omega), (hv k hk).2⟩
  have HX : Hid (∀ W k, Kw [w.heap.size + 1 + 1 + 1, w.heap.size + 1 + 1] w5 W → k < 8 → W.cell? ⟨w.heap.size, k, none⟩ = some (.slice (A k) (bs k).length (c k)) ∧ W.cell? ⟨w.heap.size + 1, k, none⟩ = some (.int .i64 (a k)) ∧ W.cell? ⟨w.heap.size + 1 + 1 + 1 + 1, 0, none⟩ = some (.slice (some ⟨w.heap.size + 1 + 1 + 1, 0, none⟩) N N)) := Lib.hid fun W k hW hk =>
    ⟨(X0.kp hW (by simp <;> omega)).cell k (s8_get (fun i => .slice (A i) (bs i).length (c i)) k hk), (X1.kp hW (by simp <;> omega)).cell k (i8_get a k hk), (X4.kp hW (by simp <;> omega)).cell 0 rfl⟩
  have HY : Hid (∀ W, Kw [w.heap.size + 1 + 1 + 1, w.heap.size + 1 + 1] w5 W → Blk W (w.heap.size + 1 + 1 + 1 + 1) #[.slice (some ⟨w.heap.size + 1 + 1 + 1, 0, none⟩) N N, .bool false, .bool false, .slice none 0 0, .int .i64 0, .bool false, .bool false, .slice none 0 0, .int .i64 0] 147) := Lib.hid fun W hW => X4.kp hW (by simp <;> omega)
  clear X0 X1 X3 X4 hv hmk g3 hb3
  go_loopw [18] (fun i wr => ∃ k : Nat, ∃ l : List (Value × Sd), k ≤ N ∧ i = .int .i64 k ∧ l.map Prod.snd = ((List.range N).map fun i => if i < k then sd0 bs a i else sdz) ∧ SdAt wr [w.heap.size + 1 + 1 + 1, w.heap.size + 1 + 1, g] (w.heap.size + 1 + 1 + 1) l ∧ Kw [w.heap.size + 1 + 1 + 1, w.heap.size + 1 + 1] w5 wr ∧ Blk wr (w.heap.size + 1 + 1) #[.slice none 0 0, .bool false, .bool false, .slice none 0 0, .int .i64 0, .bool false, .bool false, .slice none 0 0, .int .i64 0] 147) (fun i _ => N - (intOf i).toNat)
  case atStart => exact ⟨0, _, by omega, rfl, by simp [List.map_replicate, List.map_const'], hS0, Kw.refl _ _, X2⟩
  case round =>
    obtain ⟨k, l, hk, rfl, hm, hS, hK, hR⟩ := hrel
    have hlen : l.length = N := by have := congrArg List.length hm; simpa using this
    clear hS0 X2
    by_cases hlt : k < N
    · have q1 : decide ((k : Int) < (N : Nat)) = true := by simp; omega
      obtain ⟨x0, x1, x2⟩ := HX.out wr k hK (by omega)
      obtain ⟨⟨v0, s0⟩, hk0⟩ : ∃ y, l[k]? = some y := ⟨_, List.getElem?_eq_getElem (by omega)⟩
      have hD := fun W hW => Lib.hid (drive_sr _ (bs k) W (HV.out W k hW (by omega)).1 (HV.out W k hW (by omega)).2)
      have i1 : (k : Int) < 8 := by omega
      go_wp2_with fail
      go_region_held3 (fun W => W.cell? ⟨w.heap.size, k, none⟩ = some (.slice (A k) (bs k).length (c k)) ∧ W.cell? ⟨w.heap.size + 1, k, none⟩ = some (.int .i64 (a k)) ∧ W.cell? ⟨w.heap.size + 1 + 1 + 1 + 1, 0, none⟩ = some (.slice (some ⟨w.heap.size + 1 + 1 + 1, 0, none⟩) N N))
        ((refine HX.out _ k ?_ (by omega); (repeat' (first | exact hK | exact hK2 | (with_reducible refine Kw.drew ?_) | (with_reducible refine Kw.set ?_ _ ?_ _) | simp))))
        (first
          | (go_at_call 103; refine (hD wr.drew hK.drew).out.mono ?_; rintro e w2 ⟨u, rfl, ho, hb2⟩; have hK2 := hK.drew.below hb2; have hS2 := hS.drew.below hb2; have hr2 := Row.ofOwns (P := [w.heap.size + 1 + 1 + 1, w.heap.size + 1 + 1, g]) ho (fun i hi => by have := hK.size; simp at hi ⊢; omega) (rn_le _) (fun j => ⟨rq_one _ j, rq_one _ j⟩); have hR2 := hR.drew.below hb2 hR.lt; obtain ⟨A2, d2, rfl, -, -, -⟩ := hr2.sees; obtain ⟨y0, y1, y2⟩ := hS2.cells hk0; have f0 := hS2.blk.frozen (k * 3); have f1 := hS2.blk.frozen (k * 3 + 1); have f2 := hS2.blk.frozen (k * 3 + 2))
          | fail)
      all_goals
        have HH := Lib.hid (hS2.all (t := sd0 bs a k) hk0 hr2)
        have KK := Lib.hid (((hK2.set ⟨w.heap.size + 1 + 1 + 1, k * 3, none⟩ (by simp) (Value.slice A2 (rn (bs k)) d2)).set ⟨w.heap.size + 1 + 1 + 1, k * 3 + 1, none⟩ (by simp) (.int .i64 (a k))).set ⟨w.heap.size + 1 + 1 + 1, k * 3 + 2, none⟩ (by simp) (.bool false))
        have RR := Lib.hid (((hR2.other ⟨w.heap.size + 1 + 1 + 1, k * 3, none⟩ (by simp) (Value.slice A2 (rn (bs k)) d2)).other ⟨w.heap.size + 1 + 1 + 1, k * 3 + 1, none⟩ (by simp) (.int .i64 (a k))).other ⟨w.heap.size + 1 + 1 + 1, k * 3 + 2, none⟩ (by simp) (.bool false))
        have MM := Lib.hid (set_step N k (Value.slice A2 (rn (bs k)) d2) (sd0 bs a) sdz l hlt hm)
        clear hS2 hr2 hK2 hR2 ho hb2 hS hK hR y0 y1 y2 f0 f1 f2 HX HV hD
        go_wp2_with fail
        go_roundw
        case rel => exact ⟨k + 1, _, by omega, by go_num, MM.out, HH.out, KK.out, RR.out⟩
        case measure => simp [intOf]; omega
    · obtain rfl : k = N := by omega
      have q1 : decide ((k : Int) < (k : Nat)) = false := by simp
      have hX := HY.out wr hK
      have x0 := hX.cell 0 rfl
      have x1 := hX.cell 1 rfl
      have x2 := hX.cell 2 rfl
      have x3 := hX.cell 3 rfl
      have x4 := hX.cell 4 rfl
      have x5 := hX.cell 5 rfl
      have x6 := hX.cell 6 rfl
      have x7 := hX.cell 7 rfl
      have x8 := hX.cell 8 rfl
      have r0 := hR.cell 0 rfl
      have r1 := hR.cell 1 rfl
      have r2 := hR.cell 2 rfl
      have r3 := hR.cell 3 rfl
      have r4 := hR.cell 4 rfl
      have r5 := hR.cell 5 rfl
      have r6 := hR.cell 6 rfl
      have r7 := hR.cell 7 rfl
      have r8 := hR.cell 8 rfl
      have f0 := hR.frozen 0
      have f1 := hR.frozen 1
      have f2 := hR.frozen 2
      have f3 := hR.frozen 3
      have f4 := hR.frozen 4
      have f5 := hR.frozen 5
      have f6 := hR.frozen 6
      have f7 := hR.frozen 7
      have f8 := hR.frozen 8
      have HM := Lib.hid hm
      have HB := Lib.hid hb5
      have HS := Lib.hid hS
      have HK := Lib.hid hK
      clear HX HY HV hm hb5 hS hK hX hR
      go_wp2_with fail
      refine bodyPost_ret (v := .agg #[.slice (some ⟨w.heap.size + 1 + 1 + 1, 0, none⟩) k k, .bool false, .bool false, .slice none 0 0, .int .i64 0, .bool false, .bool false, .slice none 0 0, .int .i64 0]) ?_ rfl ⟨_, l, rfl, ?_, ?_, ?_, ?_⟩
      · rw [results_cell rfl]
        go_simp
      · rw [HM.out]
        exact List.map_congr_left fun i hi => by rw [if_pos (List.mem_range.1 hi)]
      · refine SdAt.sub (P := [w.heap.size + 1 + 1 + 1, w.heap.size + 1 + 1, g]) ?_ (fun i hi => .inl (by simp at hi; rcases hi with rfl | rfl <;> simp)) (by simp)
        (repeat' (first | (with_reducible exact HS.out) | (with_reducible refine SdAt.other ?_ _ ?_ ?_ _) | (simp; done)))
      · omega
      · refine HB.out.trans (Kw.toBelow (P := [w.heap.size + 1 + 1 + 1, w.heap.size + 1 + 1]) ?_ (by omega) (fun i hi => by simp at hi; omega))
        (repeat' (first | (with_reducible exact HK.out) | (with_reducible refine Kw.set ?_ _ ?_ _) | (simp; done)))
end Go.Proofs.YtjoioojckekfhaaGreat
