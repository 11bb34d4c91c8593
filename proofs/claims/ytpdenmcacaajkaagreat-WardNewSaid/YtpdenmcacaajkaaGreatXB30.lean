/- Texts SrE, SrF, FrK, FrO in one. For what each says in front of its theorems. -/
import Derived.ProofKit
import Derived.OpenShut
import Derived.Lib.SmallJoins
import Derived.Test.YtpdenmcacaajkaaGreatXB3
import Derived.Test.YtpdenmcacaajkaaGreatXB18
import Derived.Test.YtpdenmcacaajkaaGreatXB29
/-! ### SrE -/
namespace Go.Proofs.YtpdenmcacaajkaaGreat
open Go.RowKit

theorem SdAt.sub {W : World} {P P' : List Nat} {b : Nat} {l : List (Value × Sd)} (h : SdAt W P b l) (hP : ∀ i ∈ P', i ∈ P ∨ W.heap.size ≤ i) (hb : b ∈ P') : SdAt W P' b l := ⟨h.blk, fun x hx => (h.row x hx).sub hP, hb⟩
theorem SdAt.other {W : World} {P : List Nat} {b : Nat} {l : List (Value × Sd)} (h : SdAt W P b l) (p : Addr) (hp : p.block ∈ P) (hne : b ≠ p.block) (u : Value) : SdAt (W.setCell p u) P b l := h.kp ((Kw.refl P W).set p hp u) (Below.heap_setCell W p u b hne)
def s8 (f : Nat → Value) : Value := .agg #[f 0, f 1, f 2, f 3, f 4, f 5, f 6, f 7]
theorem s8_get (f : Nat → Value) (k : Nat) (hk : k < 8) : (#[f 0, f 1, f 2, f 3, f 4, f 5, f 6, f 7] : Array Value)[k]? = some (f k) := by
  rcases (by omega : k = 0 ∨ k = 1 ∨ k = 2 ∨ k = 3 ∨ k = 4 ∨ k = 5 ∨ k = 6 ∨ k = 7) with rfl | rfl | rfl | rfl | rfl | rfl | rfl | rfl <;> rfl
/-- A sender as it begins. -/
def sd0 (bs : Nat → List Int) (a : Nat → Int) (i : Nat) : Sd := ⟨rn (bs i), rq (bs i), a i, false⟩
def sdz : Sd := ⟨0, fun _ => 0, 0, false⟩
theorem infoSender : (Tryz.prog.info? 229).map (fun i => (i.zero, i.size)) = some (some (.agg #[.slice none 0 0, .int .i64 0, .bool false]), 3) := by kernel_rfl
theorem infoSenderB : (Tryz.prog.info? 229).map (fun i => decide (i.bytes ≤ 100)) = some true := by kernel_rfl
theorem made3 (n : Nat) (hn : n ≤ 8) : madeCells (Value.agg #[.slice none 0 0, .int .i64 0, .bool false]).cells (n * 3) = (c3 (List.replicate n (.slice none 0 0, sdz))).toArray := by
  rcases (by omega : n = 0 ∨ n = 1 ∨ n = 2 ∨ n = 3 ∨ n = 4 ∨ n = 5 ∨ n = 6 ∨ n = 7 ∨ n = 8) with rfl | rfl | rfl | rfl | rfl | rfl | rfl | rfl | rfl <;> kernel_rfl
theorem run_makeS (n : Nat) (hn : n ≤ 8) (w : World) : (Instr.makeSlice 208 (.int .i64 (n : Int)) (.int .i64 (n : Int))).run Tryz.prog w = .ok (.slice (some ⟨w.heap.size, 0, none⟩) n n) (w.alloc (.cells (c3 (List.replicate n (.slice none 0 0, sdz))).toArray 229)) := by
  have h1 := infoSender
  have h2 := infoSenderB
  cases hi : Tryz.prog.info? 229 with
  | none => rw [hi] at h1; simp at h1
  | some i =>
    rw [hi] at h1 h2
    simp only [Option.map_some, Option.some.injEq, Prod.mk.injEq, decide_eq_true_eq] at h1 h2
    have hb : (i.bytes : Int) * (n : Int) ≤ 281474976710656 := by
      have : i.bytes * n ≤ 100 * 8 := Nat.mul_le_mul h2 hn
      have h : ((i.bytes * n : Nat) : Int) ≤ 281474976710656 := by omega
      rwa [Int.natCast_mul] at h
    have hr := run_make (P := Tryz.prog) w 208 229 i _ Tryz.underlying208 hi h1.1 .i64 .i64 n n (by omega) (by omega) hb (by omega)
    simp only [Int.toNat_natCast] at hr
    rw [hr, h1.2, made3 n hn]
theorem set_step (N k : Nat) (u : Value) (f : Nat → Sd) (z : Sd) (l : List (Value × Sd)) (hk : k < N) (h : l.map Prod.snd = (List.range N).map fun i => if i < k then f i else z) : (l.set k (u, f k)).map Prod.snd = (List.range N).map fun i => if i < k + 1 then f i else z := by
  rw [List.map_set, h]
  apply List.ext_getElem?
  intro i
  rw [List.getElem?_set]
  simp only [List.length_map, List.length_range, List.getElem?_map]
  by_cases e : k = i
  · subst e; simp [hk]
  · rw [if_neg e]
    by_cases hi : i < N
    · simp only [List.getElem?_range hi, Option.map_some]
      by_cases h1 : i < k
      · rw [if_pos h1, if_pos (by omega)]
      · rw [if_neg h1, if_neg (by omega)]
    · rw [List.getElem?_eq_none (by simp; omega)]; rfl
set_option maxRecDepth 100000 in
set_option maxHeartbeats 4000000 in
theorem begin_sr (g N : Nat) (A : Nat → Option Addr) (c : Nat → Nat) (bs : Nat → List Int) (a : Nat → Int) (w : World) (hg : w.cell? ⟨g, 0, none⟩ = some (.int .i64 (N : Nat))) (hN : N ≤ 8)
    (hv : ∀ i, i < 8 → SeesL w w.heap.size (.slice (A i) (bs i).length (c i)) (bs i) ∧ bytesL (bs i)) :
    Calls Tryz.prog 156 #[.pointer (some ⟨g, 0, none⟩), s8 fun i => .slice (A i) (bs i).length (c i), ints8 a] w fun e w' => ∃ b l, e = .returned (.agg #[.slice (some ⟨b, 0, none⟩) N N, .bool false, .bool false, .slice none 0 0, .int .i64 0, .bool false, .bool false, .slice none 0 0, .int .i64 0]) ∧
      l.map Prod.snd = (List.range N).map (sd0 bs a) ∧ SdAt w' [b, g] b l ∧ w.heap.size ≤ b ∧ Below w.heap.size w w' := by
  have hmk := run_makeS N hN
  have hgl := World.block_lt_of_cell? w _ hg
  have hb3 := (((Below.refl w.heap.size w).alloc (Nat.le_refl _) (.cells #[.slice (A 0) (bs 0).length (c 0), .slice (A 1) (bs 1).length (c 1), .slice (A 2) (bs 2).length (c 2), .slice (A 3) (bs 3).length (c 3), .slice (A 4) (bs 4).length (c 4), .slice (A 5) (bs 5).length (c 5), .slice (A 6) (bs 6).length (c 6), .slice (A 7) (bs 7).length (c 7)] 188)).alloc (by simp) (.cells #[.int .i64 (a 0), .int .i64 (a 1), .int .i64 (a 2), .int .i64 (a 3), .int .i64 (a 4), .int .i64 (a 5), .int .i64 (a 6), .int .i64 (a 7)] 66)).alloc (by simp; omega) (.cells #[.slice none 0 0, .bool false, .bool false, .slice none 0 0, .int .i64 0, .bool false, .bool false, .slice none 0 0, .int .i64 0] 214)
  have g3 := (hb3.cell (p := ⟨g, 0, none⟩) hgl).trans hg
  have X0 := ((((Blk.new w w.heap.size rfl (#[.slice (A 0) (bs 0).length (c 0), .slice (A 1) (bs 1).length (c 1), .slice (A 2) (bs 2).length (c 2), .slice (A 3) (bs 3).length (c 3), .slice (A 4) (bs 4).length (c 4), .slice (A 5) (bs 5).length (c 5), .slice (A 6) (bs 6).length (c 6), .slice (A 7) (bs 7).length (c 7)]) 188).alloc (.cells #[.int .i64 (a 0), .int .i64 (a 1), .int .i64 (a 2), .int .i64 (a 3), .int .i64 (a 4), .int .i64 (a 5), .int .i64 (a 6), .int .i64 (a 7)] 66)).alloc (.cells #[.slice none 0 0, .bool false, .bool false, .slice none 0 0, .int .i64 0, .bool false, .bool false, .slice none 0 0, .int .i64 0] 214)).alloc (.cells (c3 (List.replicate N (.slice none 0 0, sdz))).toArray 229)).alloc (.cells #[.slice (some ⟨w.heap.size + 1 + 1 + 1, 0, none⟩) N N, .bool false, .bool false, .slice none 0 0, .int .i64 0, .bool false, .bool false, .slice none 0 0, .int .i64 0] 214)
  have X1 := (((Blk.new (w.alloc (.cells #[.slice (A 0) (bs 0).length (c 0), .slice (A 1) (bs 1).length (c 1), .slice (A 2) (bs 2).length (c 2), .slice (A 3) (bs 3).length (c 3), .slice (A 4) (bs 4).length (c 4), .slice (A 5) (bs 5).length (c 5), .slice (A 6) (bs 6).length (c 6), .slice (A 7) (bs 7).length (c 7)] 188)) (w.heap.size + 1) (by simp) (#[.int .i64 (a 0), .int .i64 (a 1), .int .i64 (a 2), .int .i64 (a 3), .int .i64 (a 4), .int .i64 (a 5), .int .i64 (a 6), .int .i64 (a 7)]) 66).alloc (.cells #[.slice none 0 0, .bool false, .bool false, .slice none 0 0, .int .i64 0, .bool false, .bool false, .slice none 0 0, .int .i64 0] 214)).alloc (.cells (c3 (List.replicate N (.slice none 0 0, sdz))).toArray 229)).alloc (.cells #[.slice (some ⟨w.heap.size + 1 + 1 + 1, 0, none⟩) N N, .bool false, .bool false, .slice none 0 0, .int .i64 0, .bool false, .bool false, .slice none 0 0, .int .i64 0] 214)
  have X2 := ((Blk.new ((w.alloc (.cells #[.slice (A 0) (bs 0).length (c 0), .slice (A 1) (bs 1).length (c 1), .slice (A 2) (bs 2).length (c 2), .slice (A 3) (bs 3).length (c 3), .slice (A 4) (bs 4).length (c 4), .slice (A 5) (bs 5).length (c 5), .slice (A 6) (bs 6).length (c 6), .slice (A 7) (bs 7).length (c 7)] 188)).alloc (.cells #[.int .i64 (a 0), .int .i64 (a 1), .int .i64 (a 2), .int .i64 (a 3), .int .i64 (a 4), .int .i64 (a 5), .int .i64 (a 6), .int .i64 (a 7)] 66)) (w.heap.size + 1 + 1) (by simp) (#[.slice none 0 0, .bool false, .bool false, .slice none 0 0, .int .i64 0, .bool false, .bool false, .slice none 0 0, .int .i64 0]) 214).alloc (.cells (c3 (List.replicate N (.slice none 0 0, sdz))).toArray 229)).alloc (.cells #[.slice (some ⟨w.heap.size + 1 + 1 + 1, 0, none⟩) N N, .bool false, .bool false, .slice none 0 0, .int .i64 0, .bool false, .bool false, .slice none 0 0, .int .i64 0] 214)
  have X3 := (Blk.new (((w.alloc (.cells #[.slice (A 0) (bs 0).length (c 0), .slice (A 1) (bs 1).length (c 1), .slice (A 2) (bs 2).length (c 2), .slice (A 3) (bs 3).length (c 3), .slice (A 4) (bs 4).length (c 4), .slice (A 5) (bs 5).length (c 5), .slice (A 6) (bs 6).length (c 6), .slice (A 7) (bs 7).length (c 7)] 188)).alloc (.cells #[.int .i64 (a 0), .int .i64 (a 1), .int .i64 (a 2), .int .i64 (a 3), .int .i64 (a 4), .int .i64 (a 5), .int .i64 (a 6), .int .i64 (a 7)] 66)).alloc (.cells #[.slice none 0 0, .bool false, .bool false, .slice none 0 0, .int .i64 0, .bool false, .bool false, .slice none 0 0, .int .i64 0] 214)) (w.heap.size + 1 + 1 + 1) (by simp) ((c3 (List.replicate N (.slice none 0 0, sdz))).toArray) 229).alloc (.cells #[.slice (some ⟨w.heap.size + 1 + 1 + 1, 0, none⟩) N N, .bool false, .bool false, .slice none 0 0, .int .i64 0, .bool false, .bool false, .slice none 0 0, .int .i64 0] 214)
  have X4 := Blk.new ((((w.alloc (.cells #[.slice (A 0) (bs 0).length (c 0), .slice (A 1) (bs 1).length (c 1), .slice (A 2) (bs 2).length (c 2), .slice (A 3) (bs 3).length (c 3), .slice (A 4) (bs 4).length (c 4), .slice (A 5) (bs 5).length (c 5), .slice (A 6) (bs 6).length (c 6), .slice (A 7) (bs 7).length (c 7)] 188)).alloc (.cells #[.int .i64 (a 0), .int .i64 (a 1), .int .i64 (a 2), .int .i64 (a 3), .int .i64 (a 4), .int .i64 (a 5), .int .i64 (a 6), .int .i64 (a 7)] 66)).alloc (.cells #[.slice none 0 0, .bool false, .bool false, .slice none 0 0, .int .i64 0, .bool false, .bool false, .slice none 0 0, .int .i64 0] 214)).alloc (.cells (c3 (List.replicate N (.slice none 0 0, sdz))).toArray 229)) (w.heap.size + 1 + 1 + 1 + 1) (by simp) (#[.slice (some ⟨w.heap.size + 1 + 1 + 1, 0, none⟩) N N, .bool false, .bool false, .slice none 0 0, .int .i64 0, .bool false, .bool false, .slice none 0 0, .int .i64 0]) 214
  have hb5 := (hb3.alloc (by simp; omega) (.cells (c3 (List.replicate N (.slice none 0 0, sdz))).toArray 229)).alloc (by simp; omega) (.cells #[.slice (some ⟨w.heap.size + 1 + 1 + 1, 0, none⟩) N N, .bool false, .bool false, .slice none 0 0, .int .i64 0, .bool false, .bool false, .slice none 0 0, .int .i64 0] 214)
  have hz5 : (((((w.alloc (.cells #[.slice (A 0) (bs 0).length (c 0), .slice (A 1) (bs 1).length (c 1), .slice (A 2) (bs 2).length (c 2), .slice (A 3) (bs 3).length (c 3), .slice (A 4) (bs 4).length (c 4), .slice (A 5) (bs 5).length (c 5), .slice (A 6) (bs 6).length (c 6), .slice (A 7) (bs 7).length (c 7)] 188)).alloc (.cells #[.int .i64 (a 0), .int .i64 (a 1), .int .i64 (a 2), .int .i64 (a 3), .int .i64 (a 4), .int .i64 (a 5), .int .i64 (a 6), .int .i64 (a 7)] 66)).alloc (.cells #[.slice none 0 0, .bool false, .bool false, .slice none 0 0, .int .i64 0, .bool false, .bool false, .slice none 0 0, .int .i64 0] 214)).alloc (.cells (c3 (List.replicate N (.slice none 0 0, sdz))).toArray 229)).alloc (.cells #[.slice (some ⟨w.heap.size + 1 + 1 + 1, 0, none⟩) N N, .bool false, .bool false, .slice none 0 0, .int .i64 0, .bool false, .bool false, .slice none 0 0, .int .i64 0] 214)).heap.size = w.heap.size + 1 + 1 + 1 + 1 + 1 := by simp
  unfold s8 ints8
  go_enter Tryz.func156, Tryz.ntmps156
  go_wp2_with fail
  generalize (((((w.alloc (.cells #[.slice (A 0) (bs 0).length (c 0), .slice (A 1) (bs 1).length (c 1), .slice (A 2) (bs 2).length (c 2), .slice (A 3) (bs 3).length (c 3), .slice (A 4) (bs 4).length (c 4), .slice (A 5) (bs 5).length (c 5), .slice (A 6) (bs 6).length (c 6), .slice (A 7) (bs 7).length (c 7)] 188)).alloc (.cells #[.int .i64 (a 0), .int .i64 (a 1), .int .i64 (a 2), .int .i64 (a 3), .int .i64 (a 4), .int .i64 (a 5), .int .i64 (a 6), .int .i64 (a 7)] 66)).alloc (.cells #[.slice none 0 0, .bool false, .bool false, .slice none 0 0, .int .i64 0, .bool false, .bool false, .slice none 0 0, .int .i64 0] 214)).alloc (.cells (c3 (List.replicate N (.slice none 0 0, sdz))).toArray 229)).alloc (.cells #[.slice (some ⟨w.heap.size + 1 + 1 + 1, 0, none⟩) N N, .bool false, .bool false, .slice none 0 0, .int .i64 0, .bool false, .bool false, .slice none 0 0, .int .i64 0] 214)) = w5 at *
  have hS0 : SdAt w5 [w.heap.size + 1 + 1 + 1, w.heap.size + 1 + 1, g] (w.heap.size + 1 + 1 + 1) (List.replicate N (.slice none 0 0, sdz)) := ⟨X3, fun y hy => by rw [List.eq_of_mem_replicate hy]; exact Row.nil _ _ _ _ (fun k => by simp [sdz]), by simp⟩
  have HV : Hid (∀ W k, Kw [w.heap.size + 1 + 1 + 1, w.heap.size + 1 + 1] w5 W → k < 8 → SeesL W W.heap.size (.slice (A k) (bs k).length (c k)) (bs k) ∧ bytesL (bs k)) := Lib.hid fun W k hW hk => ⟨((hv k hk).1.below (hb5.trans (hW.toBelow (by omega) (fun i hi => by simp at hi; omega)))).more (by have := hW.size; omega), (hv k hk).2⟩
  have HX : Hid (∀ W k, Kw [w.heap.size + 1 + 1 + 1, w.heap.size + 1 + 1] w5 W → k < 8 → W.cell? ⟨w.heap.size, k, none⟩ = some (.slice (A k) (bs k).length (c k)) ∧ W.cell? ⟨w.heap.size + 1, k, none⟩ = some (.int .i64 (a k)) ∧ W.cell? ⟨w.heap.size + 1 + 1 + 1 + 1, 0, none⟩ = some (.slice (some ⟨w.heap.size + 1 + 1 + 1, 0, none⟩) N N)) := Lib.hid fun W k hW hk =>
    ⟨(X0.kp hW (by simp <;> omega)).cell k (s8_get (fun i => .slice (A i) (bs i).length (c i)) k hk), (X1.kp hW (by simp <;> omega)).cell k (i8_get a k hk), (X4.kp hW (by simp <;> omega)).cell 0 rfl⟩
  have HY : Hid (∀ W, Kw [w.heap.size + 1 + 1 + 1, w.heap.size + 1 + 1] w5 W → Blk W (w.heap.size + 1 + 1 + 1 + 1) #[.slice (some ⟨w.heap.size + 1 + 1 + 1, 0, none⟩) N N, .bool false, .bool false, .slice none 0 0, .int .i64 0, .bool false, .bool false, .slice none 0 0, .int .i64 0] 214) := Lib.hid fun W hW => X4.kp hW (by simp <;> omega)
  clear X0 X1 X3 X4 hv hmk g3 hb3
  go_loopw [18] (fun i wr => ∃ k : Nat, ∃ l : List (Value × Sd), k ≤ N ∧ i = .int .i64 k ∧ l.map Prod.snd = ((List.range N).map fun i => if i < k then sd0 bs a i else sdz) ∧ SdAt wr [w.heap.size + 1 + 1 + 1, w.heap.size + 1 + 1, g] (w.heap.size + 1 + 1 + 1) l ∧ Kw [w.heap.size + 1 + 1 + 1, w.heap.size + 1 + 1] w5 wr ∧ Blk wr (w.heap.size + 1 + 1) #[.slice none 0 0, .bool false, .bool false, .slice none 0 0, .int .i64 0, .bool false, .bool false, .slice none 0 0, .int .i64 0] 214) (fun i _ => N - (intOf i).toNat)
  case atStart => exact ⟨0, _, by omega, rfl, by simp [List.map_replicate, List.map_const'], hS0, Kw.refl _ _, X2⟩
  case round =>
    obtain ⟨k, l, hk, rfl, hm, hS, hK, hR⟩ := hrel
    have hlen : l.length = N := by have := congrArg List.length hm; simpa using this
    clear hS0 X2
    by_cases hlt : k < N
    · have q1 : decide ((k : Int) < (N : Nat)) = true := by simp; omega
      obtain ⟨x0, x1, x2⟩ := HX.out wr k hK (by omega)
      obtain ⟨⟨v0, s0⟩, hk0⟩ : ∃ y, l[k]? = some y := ⟨_, List.getElem?_eq_getElem (by omega)⟩
      have hD := fun W hW => Lib.hid (drive_sr _ (bs k) W (HV.out W k hW (by omega)).1 (HV.out W k hW (by omega)).2)
      have i1 : (k : Int) < 8 := by omega
      go_wp2_with fail
      go_region_held3 (fun W => W.cell? ⟨w.heap.size, k, none⟩ = some (.slice (A k) (bs k).length (c k)) ∧ W.cell? ⟨w.heap.size + 1, k, none⟩ = some (.int .i64 (a k)) ∧ W.cell? ⟨w.heap.size + 1 + 1 + 1 + 1, 0, none⟩ = some (.slice (some ⟨w.heap.size + 1 + 1 + 1, 0, none⟩) N N))
        ((refine HX.out _ k ?_ (by omega); (repeat' (first | exact hK | exact hK2 | (with_reducible refine Kw.drew ?_) | (with_reducible refine Kw.set ?_ _ ?_ _) | simp))))
        (first
          | (go_at_call 174; refine (hD wr.drew hK.drew).out.mono ?_; rintro e w2 ⟨u, rfl, ho, hb2⟩; have hK2 := hK.drew.below hb2; have hS2 := hS.drew.below hb2; have hr2 := Row.ofOwns (P := [w.heap.size + 1 + 1 + 1, w.heap.size + 1 + 1, g]) ho (fun i hi => by have := hK.size; simp at hi ⊢; omega) (rn_le _) (fun j => ⟨rq_one _ j, rq_one _ j⟩); have hR2 := hR.drew.below hb2 hR.lt; obtain ⟨A2, d2, rfl, -, -, -⟩ := hr2.sees; obtain ⟨y0, y1, y2⟩ := hS2.cells hk0; have f0 := hS2.blk.frozen (k * 3); have f1 := hS2.blk.frozen (k * 3 + 1); have f2 := hS2.blk.frozen (k * 3 + 2))
          | fail)
      all_goals
        have HH := Lib.hid (hS2.all (t := sd0 bs a k) hk0 hr2)
        have KK := Lib.hid (((hK2.set ⟨w.heap.size + 1 + 1 + 1, k * 3, none⟩ (by simp) (Value.slice A2 (rn (bs k)) d2)).set ⟨w.heap.size + 1 + 1 + 1, k * 3 + 1, none⟩ (by simp) (.int .i64 (a k))).set ⟨w.heap.size + 1 + 1 + 1, k * 3 + 2, none⟩ (by simp) (.bool false))
        have RR := Lib.hid (((hR2.other ⟨w.heap.size + 1 + 1 + 1, k * 3, none⟩ (by simp) (Value.slice A2 (rn (bs k)) d2)).other ⟨w.heap.size + 1 + 1 + 1, k * 3 + 1, none⟩ (by simp) (.int .i64 (a k))).other ⟨w.heap.size + 1 + 1 + 1, k * 3 + 2, none⟩ (by simp) (.bool false))
        have MM := Lib.hid (set_step N k (Value.slice A2 (rn (bs k)) d2) (sd0 bs a) sdz l hlt hm)
        clear hS2 hr2 hK2 hR2 ho hb2 hS hK hR y0 y1 y2 f0 f1 f2 HX HV hD
        go_wp2_with fail
        go_roundw
        case rel => exact ⟨k + 1, _, by omega, by go_num, MM.out, HH.out, KK.out, RR.out⟩
        case measure => simp [intOf]; omega
    · obtain rfl : k = N := by omega
      have q1 : decide ((k : Int) < (k : Nat)) = false := by simp
      have hX := HY.out wr hK
      have x0 := hX.cell 0 rfl
      have x1 := hX.cell 1 rfl
      have x2 := hX.cell 2 rfl
      have x3 := hX.cell 3 rfl
      have x4 := hX.cell 4 rfl
      have x5 := hX.cell 5 rfl
      have x6 := hX.cell 6 rfl
      have x7 := hX.cell 7 rfl
      have x8 := hX.cell 8 rfl
      have r0 := hR.cell 0 rfl
      have r1 := hR.cell 1 rfl
      have r2 := hR.cell 2 rfl
      have r3 := hR.cell 3 rfl
      have r4 := hR.cell 4 rfl
      have r5 := hR.cell 5 rfl
      have r6 := hR.cell 6 rfl
      have r7 := hR.cell 7 rfl
      have r8 := hR.cell 8 rfl
      have f0 := hR.frozen 0
      have f1 := hR.frozen 1
      have f2 := hR.frozen 2
      have f3 := hR.frozen 3
      have f4 := hR.frozen 4
      have f5 := hR.frozen 5
      have f6 := hR.frozen 6
      have f7 := hR.frozen 7
      have f8 := hR.frozen 8
      have HM := Lib.hid hm
      have HB := Lib.hid hb5
      have HS := Lib.hid hS
      have HK := Lib.hid hK
      clear HX HY HV hm hb5 hS hK hX hR
      go_wp2_with fail
      refine bodyPost_ret (v := .agg #[.slice (some ⟨w.heap.size + 1 + 1 + 1, 0, none⟩) k k, .bool false, .bool false, .slice none 0 0, .int .i64 0, .bool false, .bool false, .slice none 0 0, .int .i64 0]) ?_ rfl ⟨_, l, rfl, ?_, ?_, ?_, ?_⟩
      · rw [results_cell rfl]
        go_simp
      · rw [HM.out]
        exact List.map_congr_left fun i hi => by rw [if_pos (List.mem_range.1 hi)]
      · refine SdAt.sub (P := [w.heap.size + 1 + 1 + 1, w.heap.size + 1 + 1, g]) ?_ (fun i hi => .inl (by simp at hi; rcases hi with rfl | rfl <;> simp)) (by simp)
        (repeat' (first | (with_reducible exact HS.out) | (with_reducible refine SdAt.other ?_ _ ?_ ?_ _) | (simp; done)))
      · omega
      · refine HB.out.trans (Kw.toBelow (P := [w.heap.size + 1 + 1 + 1, w.heap.size + 1 + 1]) ?_ (by omega) (fun i hi => by simp at hi; omega))
        (repeat' (first | (with_reducible exact HK.out) | (with_reducible refine Kw.set ?_ _ ?_ _) | (simp; done)))
end Go.Proofs.YtpdenmcacaajkaaGreat

/-! ### SrF -/
namespace Go.Proofs.YtpdenmcacaajkaaGreat
open Go.RowKit

/-- Who sends, and when. -/
def sF (m : List Sd) (i : Nat) : Bool := match m[i]? with
  | some s => decide (0 < s.n)
  | none => false
def sA (m : List Sd) (i : Nat) : Int := match m[i]? with
  | some s => s.at_
  | none => 0
def b8 (f : Nat → Bool) : Array Value := #[.bool (f 0), .bool (f 1), .bool (f 2), .bool (f 3), .bool (f 4), .bool (f 5), .bool (f 6), .bool (f 7)]
def i8 (f : Nat → Int) : Array Value := #[.int .i64 (f 0), .int .i64 (f 1), .int .i64 (f 2), .int .i64 (f 3), .int .i64 (f 4), .int .i64 (f 5), .int .i64 (f 6), .int .i64 (f 7)]
theorem b8_set (f : Nat → Bool) (k : Nat) (hk : k < 8) : (b8 fun i => decide (i < k) && f i).setIfInBounds k (.bool (f k)) = b8 fun i => decide (i < k + 1) && f i := by
  rcases (by omega : k = 0 ∨ k = 1 ∨ k = 2 ∨ k = 3 ∨ k = 4 ∨ k = 5 ∨ k = 6 ∨ k = 7) with rfl | rfl | rfl | rfl | rfl | rfl | rfl | rfl <;> simp [b8]
theorem i8_set (f : Nat → Int) (k : Nat) (hk : k < 8) : (i8 fun i => if i < k then f i else 0).setIfInBounds k (.int .i64 (f k)) = i8 fun i => if i < k + 1 then f i else 0 := by
  rcases (by omega : k = 0 ∨ k = 1 ∨ k = 2 ∨ k = 3 ∨ k = 4 ∨ k = 5 ∨ k = 6 ∨ k = 7) with rfl | rfl | rfl | rfl | rfl | rfl | rfl | rfl <;> simp [i8]
theorem sF_all (m : List Sd) : (fun i => decide (i < m.length) && sF m i) = sF m := by
  funext i
  by_cases h : i < m.length
  · simp [h]
  · unfold sF; rw [List.getElem?_eq_none (by omega)]; simp
theorem sA_all (m : List Sd) : (fun i => if i < m.length then sA m i else 0) = sA m := by
  funext i
  by_cases h : i < m.length
  · simp [h]
  · unfold sA; rw [List.getElem?_eq_none (by omega)]; simp
theorem results_cells2 {fn : Func} {p q : Tmp} {ty uy : TypeId} (h : fn.results = #[.cell p ty, .cell q uy]) (tmps : Array Value) (P : Program) (w : World) :
    (results fn tmps).run P w = ((asAddr (tmps.getD p undef)).run P w).andThen fun a w₁ => ((loadVar ty a).run P w₁).andThen fun v w₂ => ((asAddr (tmps.getD q undef)).run P w₂).andThen fun b w₃ => ((loadVar uy b).run P w₃).andThen fun u w₄ => .ok (.tuple #[v, u]) w₄ := by
  simp only [results, h]
  simp [Sem.run_bind, Result.andThen]
set_option maxRecDepth 100000 in
set_option maxHeartbeats 4000000 in
theorem senders_sr (x b : Nat) (l : List (Value × Sd)) (c d : Ch) (P : List Nat) (w : World) (h : XAt w P x b l c d) (hl : l.length ≤ 8) :
    Calls Tryz.prog 176 #[.pointer (some ⟨x, 0, none⟩)] w fun e w' => e = .returned (.tuple #[bools8 (sF (l.map Prod.snd)), ints8 (sA (l.map Prod.snd))]) ∧ Below w.heap.size w w' := by
  have X0 := (Blk.new w w.heap.size rfl (b8 fun _ => false) 150).alloc (.cells (i8 fun _ => 0) 66)
  have X1 := Blk.new (w.alloc (.cells (b8 fun _ => false) 150)) (w.heap.size + 1) (by simp) (i8 fun _ => 0) 66
  have hb := ((Below.refl w.heap.size w).alloc (Nat.le_refl _) (.cells (b8 fun _ => false) 150)).alloc (by simp) (.cells (i8 fun _ => 0) 66)
  have H := h.below hb
  have hz : ((w.alloc (.cells (b8 fun _ => false) 150)).alloc (.cells (i8 fun _ => 0) 66)).heap.size = w.heap.size + 1 + 1 := by simp
  have y0 := H.blk.cell 0 (x := .slice (some ⟨b, 0, none⟩) l.length l.length) rfl
  unfold b8 i8 at *
  unfold bools8 ints8
  go_enter Tryz.func176, Tryz.ntmps176
  go_wp2_with fail
  generalize ((w.alloc (.cells #[.bool false, .bool false, .bool false, .bool false, .bool false, .bool false, .bool false, .bool false] 150)).alloc (.cells #[.int .i64 0, .int .i64 0, .int .i64 0, .int .i64 0, .int .i64 0, .int .i64 0, .int .i64 0, .int .i64 0] 66)) = w2 at *
  have HX : Hid (∀ W k v s, Below w.heap.size w W → l[k]? = some (v, s) → W.cell? ⟨b, k * 3, none⟩ = some v ∧ W.cell? ⟨b, k * 3 + 1, none⟩ = some (.int .i64 s.at_) ∧ W.cell? ⟨b, k * 3 + 2, none⟩ = some (.bool s.df) ∧ ∃ A c, v = .slice A s.n c) := Lib.hid fun W k v s hW hk => by
    have h2 := (h.below hW).sd
    obtain ⟨A, c, e, -⟩ := (h2.row _ (List.mem_of_getElem? hk)).sees
    obtain ⟨e0, e1, e2⟩ := h2.cells hk
    exact ⟨e0, e1, e2, A, c, e⟩
  clear H h
  go_loopw [11] (fun i wr => ∃ k : Nat, k ≤ l.length ∧ i = .int .i64 k ∧ Blk wr w.heap.size (b8 fun i => decide (i < k) && sF (l.map Prod.snd) i) 150 ∧ Blk wr (w.heap.size + 1) (i8 fun i => if i < k then sA (l.map Prod.snd) i else 0) 66 ∧ Below w.heap.size w wr ∧ w.heap.size + 1 + 1 ≤ wr.heap.size) (fun i _ => l.length - (intOf i).toNat)
  case atStart => exact ⟨0, by omega, rfl, by simpa [b8] using X0, by simpa [i8] using X1, hb, by omega⟩
  case round =>
    obtain ⟨k, hk, rfl, hR0, hR1, hbk, hzk⟩ := hrel
    clear X0 X1
    by_cases hlt : k < l.length
    · have q1 : decide ((k : Int) < (l.length : Nat)) = true := by simp; omega
      obtain ⟨⟨v, s⟩, hk0⟩ : ∃ y, l[k]? = some y := ⟨_, List.getElem?_eq_getElem hlt⟩
      obtain ⟨e0, e1, e2, A, c', rfl⟩ := HX.out wr k v s hbk hk0
      have eF : sF (l.map Prod.snd) k = decide (0 < s.n) := by simp [sF, hk0]
      have eA : sA (l.map Prod.snd) k = s.at_ := by simp [sA, hk0]
      have N0 := Lib.hid (b8_set (sF (l.map Prod.snd)) k (by omega))
      have N1 := Lib.hid (i8_set (sA (l.map Prod.snd)) k (by omega))
      rw [eF] at N0
      rw [eA] at N1
      have O := hR0.alloc (.cells #[.slice A s.n c', .int .i64 s.at_, .bool s.df] 229)
      have O1 := hR1.alloc (.cells #[.slice A s.n c', .int .i64 s.at_, .bool s.df] 229)
      have ON := Blk.new wr wr.heap.size rfl #[.slice A s.n c', .int .i64 s.at_, .bool s.df] 229
      have hbk2 := hbk.alloc hbk.size (.cells #[.slice A s.n c', .int .i64 s.at_, .bool s.df] 229)
      have c0 := O.cell k (b8_get (fun i => decide (i < k) && sF (l.map Prod.snd) i) k (by omega))
      have c1 := O1.cell k (i8_get (fun i => if i < k then sA (l.map Prod.snd) i else 0) k (by omega))
      have f0 := O.frozen k
      have f1 := O1.frozen k
      have n0 := ON.cell 0 (x := .slice A s.n c') rfl
      have n1 := ON.cell 1 (x := .int .i64 s.at_) rfl
      have i1 : (k : Int) < 8 := by omega
      have q2 : decide ((s.n : Int) > 0) = decide (0 < s.n) := by rw [Bool.eq_iff_iff]; simp
      have q3 : decide ((0 : Int) < (s.n : Int)) = decide (0 < s.n) := by rw [Bool.eq_iff_iff]; simp
      go_wp2_with fail
      generalize wr.alloc (.cells #[.slice A s.n c', .int .i64 s.at_, .bool s.df] 229) = wx at *
      have RR0 := Lib.hid (((O.set k (.bool (decide (0 < s.n)))).other ⟨w.heap.size + 1, k, none⟩ (by simp) (.int .i64 s.at_)).eq N0.out)
      have RR1 := Lib.hid (((O1.other ⟨w.heap.size, k, none⟩ (by simp) (.bool (decide (0 < s.n)))).set k (.int .i64 s.at_)).eq N1.out)
      have BB := Lib.hid ((hbk2.setCell (p := ⟨w.heap.size, k, none⟩) (Nat.le_refl _) (.bool (decide (0 < s.n)))).setCell (p := ⟨w.heap.size + 1, k, none⟩) (by simp) (.int .i64 s.at_))
      have hzx : w.heap.size + 1 + 1 ≤ wx.heap.size := by have := O1.lt; have := ON.lt; omega
      have ZZ := Lib.hid (show w.heap.size + 1 + 1 ≤ ((wx.setCell ⟨w.heap.size, k, none⟩ (.bool (decide (0 < s.n)))).setCell ⟨w.heap.size + 1, k, none⟩ (.int .i64 s.at_)).heap.size by simpa [World.setCell] using hzx)
      clear hR0 hR1 hbk O O1 ON N0 N1 hbk2 eF eA HX
      go_region
      go_wp2_with fail
      go_roundw
      case rel => exact ⟨k + 1, by omega, by go_num, RR0.out.drew, RR1.out.drew, BB.out.drew, ZZ.out⟩
      case measure => simp [intOf]; omega
    · obtain rfl : k = l.length := by omega
      have q1 : decide ((l.length : Int) < (l.length : Nat)) = false := by simp
      have e0 := sF_all (l.map Prod.snd)
      have e1 := sA_all (l.map Prod.snd)
      simp only [List.length_map] at e0 e1
      rw [e0] at hR0
      rw [e1] at hR1
      clear e0 e1 HX
      generalize hff : sF (l.map Prod.snd) = ff at *
      generalize haa : sA (l.map Prod.snd) = aa at *
      have HFF := Lib.hid hff
      have HAA := Lib.hid haa
      clear hff haa
      have c00 := hR0.cell 0 (x := .bool (ff 0)) rfl
      have f00 := hR0.frozen 0
      have c01 := hR0.cell 1 (x := .bool (ff 1)) rfl
      have f01 := hR0.frozen 1
      have c02 := hR0.cell 2 (x := .bool (ff 2)) rfl
      have f02 := hR0.frozen 2
      have c03 := hR0.cell 3 (x := .bool (ff 3)) rfl
      have f03 := hR0.frozen 3
      have c04 := hR0.cell 4 (x := .bool (ff 4)) rfl
      have f04 := hR0.frozen 4
      have c05 := hR0.cell 5 (x := .bool (ff 5)) rfl
      have f05 := hR0.frozen 5
      have c06 := hR0.cell 6 (x := .bool (ff 6)) rfl
      have f06 := hR0.frozen 6
      have c07 := hR0.cell 7 (x := .bool (ff 7)) rfl
      have f07 := hR0.frozen 7
      have c10 := hR1.cell 0 (x := .int .i64 (aa 0)) rfl
      have f10 := hR1.frozen 0
      have c11 := hR1.cell 1 (x := .int .i64 (aa 1)) rfl
      have f11 := hR1.frozen 1
      have c12 := hR1.cell 2 (x := .int .i64 (aa 2)) rfl
      have f12 := hR1.frozen 2
      have c13 := hR1.cell 3 (x := .int .i64 (aa 3)) rfl
      have f13 := hR1.frozen 3
      have c14 := hR1.cell 4 (x := .int .i64 (aa 4)) rfl
      have f14 := hR1.frozen 4
      have c15 := hR1.cell 5 (x := .int .i64 (aa 5)) rfl
      have f15 := hR1.frozen 5
      have c16 := hR1.cell 6 (x := .int .i64 (aa 6)) rfl
      have f16 := hR1.frozen 6
      have c17 := hR1.cell 7 (x := .int .i64 (aa 7)) rfl
      have f17 := hR1.frozen 7
      have HB := Lib.hid hbk
      clear hR0 hR1 hbk y0 hb
      go_wp2_with fail
      go_region
      go_wp2_with fail
      refine bodyPost_ret (v := .tuple #[.agg #[.bool (ff 0), .bool (ff 1), .bool (ff 2), .bool (ff 3), .bool (ff 4), .bool (ff 5), .bool (ff 6), .bool (ff 7)], .agg #[.int .i64 (aa 0), .int .i64 (aa 1), .int .i64 (aa 2), .int .i64 (aa 3), .int .i64 (aa 4), .int .i64 (aa 5), .int .i64 (aa 6), .int .i64 (aa 7)]]) ?_ rfl ⟨by rw [HFF.out, HAA.out], ?_⟩
      · rw [results_cells2 rfl]
        go_simp
      · (repeat' (first | (with_reducible exact HB.out) | (with_reducible refine Below.drew ?_) | (with_reducible refine Below.setCell ?_ ?_ _) | exact Nat.le_refl _ | (simp; done)))
set_option maxRecDepth 100000 in
set_option maxHeartbeats 1000000 in
theorem when_no (x : Nat) (w : World) :
    Calls Tryz.prog 183 #[.pointer (some ⟨x, 0, none⟩), .int .i64 (-1)] w fun e w' => e = .returned (.int .i64 0) ∧ w = w' := by
  go_enter Tryz.func183, Tryz.ntmps183
  go_wp2
  go_ret
  exact ⟨rfl, rfl⟩
set_option maxRecDepth 100000 in
set_option maxHeartbeats 1000000 in
theorem when_yes (x b k : Nat) (l : List (Value × Sd)) (v : Value) (s : Sd) (c d : Ch) (P : List Nat) (w : World) (h : XAt w P x b l c d) (hk : l[k]? = some (v, s)) :
    Calls Tryz.prog 183 #[.pointer (some ⟨x, 0, none⟩), .int .i64 (k : Nat)] w fun e w' => e = .returned (.int .i64 s.at_) ∧ w = w' := by
  have y0 := h.blk.cell 0 (x := .slice (some ⟨b, 0, none⟩) l.length l.length) rfl
  obtain ⟨-, e1, -⟩ := h.sd.cells hk
  have hlt := (List.getElem?_eq_some_iff.1 hk).1
  have q0 : ((k : Int) == -1) = false := by rw [beq_eq_false_iff_ne]; omega
  have i1 : (k : Int) < (l.length : Nat) := by omega
  clear h
  go_enter Tryz.func183, Tryz.ntmps183
  go_wp2
  go_ret
  exact ⟨rfl, rfl⟩
end Go.Proofs.YtpdenmcacaajkaaGreat

/-! ### FrK -/
namespace Go.Proofs.YtpdenmcacaajkaaGreat
open Go.RowKit
open Fr (St F)

end Go.Proofs.YtpdenmcacaajkaaGreat

/-! ### FrO -/
namespace Go.Proofs.YtpdenmcacaajkaaGreat
open Go.ChangeShapes Go.WideShapes Go.ChangeAt Go.RowKit Go.Joins Go.Deep
open Fr (St F)

/-- Bounds of an int. -/
def i64f (x : Int) : Prop := -9223372036854775808 ≤ x ∧ x ≤ 9223372036854775807
structure InState (s : St) : Prop where
  hr : i64f s.r
  hs : i64f s.s
  hm : i64f s.m
structure InFrame (w : World) (f : F) (v : Value) : Prop where
  sees : SeesL w w.heap.size v f.d
  bytes : bytesL f.d
  hk : i64f f.k
  hst : InState f.st
  reach : f.d.length ≤ 140737488351232

section
variable {H : Type} {enc : TypeId × Value → H} {P : Program} {w : World} {base : Nat} {spare : Nat → Bool} {held : Bool}
end
end Go.Proofs.YtpdenmcacaajkaaGreat
