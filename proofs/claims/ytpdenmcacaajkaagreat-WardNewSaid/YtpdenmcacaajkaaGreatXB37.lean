/- Texts SrK, GdF, SrL, GdG, FrR, GdL in one. For what each says in front of its theorems. -/
import Derived.Test.YtpdenmcacaajkaaGreatXB2
import Derived.Test.YtpdenmcacaajkaaGreatXB5
import Derived.Test.YtpdenmcacaajkaaGreatXB35
import Derived.Test.YtpdenmcacaajkaaGreatXB36
/-! ### SrK -/
namespace Go.Proofs.YtpdenmcacaajkaaGreat
open Go.RowKit

/-- Senders that faults strike, one behind the other. -/
def strikes (fl : List Ft) (m : List Sd) : List Sd := fl.foldl (fun m f => strikeL f m) m
theorem strikes_succ (fl : List Ft) (m : List Sd) (k : Nat) (hk : k < fl.length) : strikes (fl.take (k + 1)) m = strikeL (fl.getD k default) (strikes (fl.take k) m) := by
  unfold strikes
  rw [List.take_add_one, List.foldl_append, List.getD_eq_getElem?_getD, List.getElem?_eq_getElem hk]
  rfl
theorem strikes_length (fl : List Ft) (m : List Sd) : (strikes fl m).length = m.length := by
  unfold strikes
  induction fl generalizing m with
  | nil => rfl
  | cons f fl ih => rw [List.foldl_cons, ih, strikeL_length]
theorem any_succ (fl : List Ft) (p : Ft → Bool) (k : Nat) (hk : k < fl.length) : (fl.take (k + 1)).any p = ((fl.take k).any p || p (fl.getD k default)) := by
  rw [List.take_add_one, List.any_append, List.getD_eq_getElem?_getD, List.getElem?_eq_getElem hk]
  simp
theorem strike_at (f : Ft) (s : Sd) (ha : -1000 ≤ f.a ∧ f.a ≤ 1000) : s.at_ - 1000 ≤ (s.strike f).at_ ∧ (s.strike f).at_ ≤ s.at_ + 1000 := by
  unfold Sd.strike
  split <;> (try split) <;> (try split) <;> (try split) <;> (try split) <;> (try simp only) <;> omega
theorem strikeL_at (f : Ft) (m : List Sd) (ha : -1000 ≤ f.a ∧ f.a ≤ 1000) (B : Int) (h : ∀ s ∈ m, -B ≤ s.at_ ∧ s.at_ ≤ B) : ∀ s ∈ strikeL f m, -(B + 1000) ≤ s.at_ ∧ s.at_ ≤ B + 1000 := by
  intro s hs
  unfold strikeL at hs
  split at hs
  · have := h s hs; omega
  · split at hs
    · rename_i t ht
      rcases mem_set_of hs with rfl | hs
      · have := h t (List.mem_of_getElem? ht)
        have := strike_at f t ha
        omega
      · have := h s hs; omega
    · have := h s hs; omega
theorem sA_bd (m : List Sd) (B : Int) (hB : 0 ≤ B) (h : ∀ s ∈ m, -B ≤ s.at_ ∧ s.at_ ≤ B) (i : Nat) : -B ≤ sA m i ∧ sA m i ≤ B := by
  unfold sA
  cases e : m[i]? with
  | none => simp only; omega
  | some s => exact h s (List.mem_of_getElem? e)
theorem Only.other {g r : Nat} {w w1 w2 : World} (h : Only g w w1) (k : Only r w1 w2) (hr : w.heap.size ≤ r) : Only g w w2 := ⟨k.os.trans h.os, k.tape.trans h.tape, k.output.trans h.output, Nat.le_trans h.size k.size, fun i hi hne => (k.block i (Nat.lt_of_lt_of_le hi h.size) (by intro e; cases e; omega)).trans (h.block i hi hne)⟩
set_option maxRecDepth 100000 in
set_option maxHeartbeats 8000000 in
theorem slot_sr (g N : Nat) (s : G) (A : Nat → Option Addr) (c : Nat → Nat) (bs : Nat → List Int) (a : Nat → Int) (v : Value) (fl : List Ft) (bl : Bool) (m : List Sd) (p : Int) (w : World) (hg : GsAt w g N s s) (hN : N ≤ 8)
    (hv : ∀ i, i < 8 → SeesL w w.heap.size (.slice (A i) (bs i).length (c i)) (bs i) ∧ bytesL (bs i)) (ha : ∀ i, -1000000 ≤ a i ∧ a i ≤ 1000000) (hf : SeesF w w.heap.size v fl) (his : ftIs fl = true) (h7 : ∀ f ∈ fl, f.k ≠ 7)
    (hb0 : fl.any (blocks · 0) = bl) (hb1 : fl.any (blocks · 1) = bl) (hm : strikes fl ((List.range N).map (sd0 bs a)) = m) (hp : s.pass (sF m) (sA m) = p) (hpl : p = -1 ∨ ∃ j : Nat, p = j ∧ j < N)
    (sn : s.n ≤ 8) (ss : s.slot < 8) (sw : time s.now) (swi : 0 ≤ s.wi ∧ s.wi ≤ 2305843009213693952) (ok : s.Ok (whenV m (prV bl p))) :
    Calls Tryz.prog 139 #[.pointer (some ⟨g, 0, none⟩), s8 fun i => .slice (A i) (bs i).length (c i), ints8 a, v] w fun e w' => ∃ f, e = .returned (.tuple #[.agg (hdC f), .int .i64 0]) ∧
      (∀ i, i < 8 → Hears w' w.heap.size m (hn m (prV bl p)) (hq m p) (hq m p) (prV bl p) a i (f i)) ∧ GsAt w' g N (s.ended (tl (hn m (prV bl p)) (hq m p)) (whenV m (prV bl p))) (s.ended (tl (hn m (prV bl p)) (hq m p)) (whenV m (prV bl p))) ∧ Only g w w' := by
  have X2 := Blk.new ((w.alloc (.cells #[.slice (A 0) (bs 0).length (c 0), .slice (A 1) (bs 1).length (c 1), .slice (A 2) (bs 2).length (c 2), .slice (A 3) (bs 3).length (c 3), .slice (A 4) (bs 4).length (c 4), .slice (A 5) (bs 5).length (c 5), .slice (A 6) (bs 6).length (c 6), .slice (A 7) (bs 7).length (c 7)] 188)).alloc (.cells #[.int .i64 (a 0), .int .i64 (a 1), .int .i64 (a 2), .int .i64 (a 3), .int .i64 (a 4), .int .i64 (a 5), .int .i64 (a 6), .int .i64 (a 7)] 66)) (w.heap.size + 1 + 1) (by simp) (#[.int .i64 0, .int .i64 0, .slice none 0 0, .slice none 0 0, .int .i64 0, .int .i64 0, .int .i64 0, .slice none 0 0, .slice none 0 0, .int .i64 0, .int .i64 0, .int .i64 0, .slice none 0 0, .slice none 0 0, .int .i64 0, .int .i64 0, .int .i64 0, .slice none 0 0, .slice none 0 0, .int .i64 0, .int .i64 0, .int .i64 0, .slice none 0 0, .slice none 0 0, .int .i64 0, .int .i64 0, .int .i64 0, .slice none 0 0, .slice none 0 0, .int .i64 0, .int .i64 0, .int .i64 0, .slice none 0 0, .slice none 0 0, .int .i64 0, .int .i64 0, .int .i64 0, .slice none 0 0, .slice none 0 0, .int .i64 0]) 189
  have X0 := ((Blk.new w w.heap.size rfl (#[.slice (A 0) (bs 0).length (c 0), .slice (A 1) (bs 1).length (c 1), .slice (A 2) (bs 2).length (c 2), .slice (A 3) (bs 3).length (c 3), .slice (A 4) (bs 4).length (c 4), .slice (A 5) (bs 5).length (c 5), .slice (A 6) (bs 6).length (c 6), .slice (A 7) (bs 7).length (c 7)]) 188).alloc (.cells #[.int .i64 (a 0), .int .i64 (a 1), .int .i64 (a 2), .int .i64 (a 3), .int .i64 (a 4), .int .i64 (a 5), .int .i64 (a 6), .int .i64 (a 7)] 66)).alloc (.cells #[.int .i64 0, .int .i64 0, .slice none 0 0, .slice none 0 0, .int .i64 0, .int .i64 0, .int .i64 0, .slice none 0 0, .slice none 0 0, .int .i64 0, .int .i64 0, .int .i64 0, .slice none 0 0, .slice none 0 0, .int .i64 0, .int .i64 0, .int .i64 0, .slice none 0 0, .slice none 0 0, .int .i64 0, .int .i64 0, .int .i64 0, .slice none 0 0, .slice none 0 0, .int .i64 0, .int .i64 0, .int .i64 0, .slice none 0 0, .slice none 0 0, .int .i64 0, .int .i64 0, .int .i64 0, .slice none 0 0, .slice none 0 0, .int .i64 0, .int .i64 0, .int .i64 0, .slice none 0 0, .slice none 0 0, .int .i64 0] 189)
  have X1 := (Blk.new (w.alloc (.cells #[.slice (A 0) (bs 0).length (c 0), .slice (A 1) (bs 1).length (c 1), .slice (A 2) (bs 2).length (c 2), .slice (A 3) (bs 3).length (c 3), .slice (A 4) (bs 4).length (c 4), .slice (A 5) (bs 5).length (c 5), .slice (A 6) (bs 6).length (c 6), .slice (A 7) (bs 7).length (c 7)] 188)) (w.heap.size + 1) (by simp) (#[.int .i64 (a 0), .int .i64 (a 1), .int .i64 (a 2), .int .i64 (a 3), .int .i64 (a 4), .int .i64 (a 5), .int .i64 (a 6), .int .i64 (a 7)]) 66).alloc (.cells #[.int .i64 0, .int .i64 0, .slice none 0 0, .slice none 0 0, .int .i64 0, .int .i64 0, .int .i64 0, .slice none 0 0, .slice none 0 0, .int .i64 0, .int .i64 0, .int .i64 0, .slice none 0 0, .slice none 0 0, .int .i64 0, .int .i64 0, .int .i64 0, .slice none 0 0, .slice none 0 0, .int .i64 0, .int .i64 0, .int .i64 0, .slice none 0 0, .slice none 0 0, .int .i64 0, .int .i64 0, .int .i64 0, .slice none 0 0, .slice none 0 0, .int .i64 0, .int .i64 0, .int .i64 0, .slice none 0 0, .slice none 0 0, .int .i64 0, .int .i64 0, .int .i64 0, .slice none 0 0, .slice none 0 0, .int .i64 0] 189)
  have hb3 := (((Below.refl w.heap.size w).alloc (Nat.le_refl _) (.cells #[.slice (A 0) (bs 0).length (c 0), .slice (A 1) (bs 1).length (c 1), .slice (A 2) (bs 2).length (c 2), .slice (A 3) (bs 3).length (c 3), .slice (A 4) (bs 4).length (c 4), .slice (A 5) (bs 5).length (c 5), .slice (A 6) (bs 6).length (c 6), .slice (A 7) (bs 7).length (c 7)] 188)).alloc (by simp) (.cells #[.int .i64 (a 0), .int .i64 (a 1), .int .i64 (a 2), .int .i64 (a 3), .int .i64 (a 4), .int .i64 (a 5), .int .i64 (a 6), .int .i64 (a 7)] 66)).alloc (by simp; omega) (.cells #[.int .i64 0, .int .i64 0, .slice none 0 0, .slice none 0 0, .int .i64 0, .int .i64 0, .int .i64 0, .slice none 0 0, .slice none 0 0, .int .i64 0, .int .i64 0, .int .i64 0, .slice none 0 0, .slice none 0 0, .int .i64 0, .int .i64 0, .int .i64 0, .slice none 0 0, .slice none 0 0, .int .i64 0, .int .i64 0, .int .i64 0, .slice none 0 0, .slice none 0 0, .int .i64 0, .int .i64 0, .int .i64 0, .slice none 0 0, .slice none 0 0, .int .i64 0, .int .i64 0, .int .i64 0, .slice none 0 0, .slice none 0 0, .int .i64 0, .int .i64 0, .int .i64 0, .slice none 0 0, .slice none 0 0, .int .i64 0] 189)
  have hz3 : (((w.alloc (.cells #[.slice (A 0) (bs 0).length (c 0), .slice (A 1) (bs 1).length (c 1), .slice (A 2) (bs 2).length (c 2), .slice (A 3) (bs 3).length (c 3), .slice (A 4) (bs 4).length (c 4), .slice (A 5) (bs 5).length (c 5), .slice (A 6) (bs 6).length (c 6), .slice (A 7) (bs 7).length (c 7)] 188)).alloc (.cells #[.int .i64 (a 0), .int .i64 (a 1), .int .i64 (a 2), .int .i64 (a 3), .int .i64 (a 4), .int .i64 (a 5), .int .i64 (a 6), .int .i64 (a 7)] 66)).alloc (.cells #[.int .i64 0, .int .i64 0, .slice none 0 0, .slice none 0 0, .int .i64 0, .int .i64 0, .int .i64 0, .slice none 0 0, .slice none 0 0, .int .i64 0, .int .i64 0, .int .i64 0, .slice none 0 0, .slice none 0 0, .int .i64 0, .int .i64 0, .int .i64 0, .slice none 0 0, .slice none 0 0, .int .i64 0, .int .i64 0, .int .i64 0, .slice none 0 0, .slice none 0 0, .int .i64 0, .int .i64 0, .int .i64 0, .slice none 0 0, .slice none 0 0, .int .i64 0, .int .i64 0, .int .i64 0, .slice none 0 0, .slice none 0 0, .int .i64 0, .int .i64 0, .int .i64 0, .slice none 0 0, .slice none 0 0, .int .i64 0] 189)).heap.size = w.heap.size + 1 + 1 + 1 := by simp
  have hG3 := hg.below hb3 hg.lt
  have hgl := hg.lt
  have hF3 := hf.below hb3
  have hv3 : ∀ i, i < 8 → SeesL (((w.alloc (.cells #[.slice (A 0) (bs 0).length (c 0), .slice (A 1) (bs 1).length (c 1), .slice (A 2) (bs 2).length (c 2), .slice (A 3) (bs 3).length (c 3), .slice (A 4) (bs 4).length (c 4), .slice (A 5) (bs 5).length (c 5), .slice (A 6) (bs 6).length (c 6), .slice (A 7) (bs 7).length (c 7)] 188)).alloc (.cells #[.int .i64 (a 0), .int .i64 (a 1), .int .i64 (a 2), .int .i64 (a 3), .int .i64 (a 4), .int .i64 (a 5), .int .i64 (a 6), .int .i64 (a 7)] 66)).alloc (.cells #[.int .i64 0, .int .i64 0, .slice none 0 0, .slice none 0 0, .int .i64 0, .int .i64 0, .int .i64 0, .slice none 0 0, .slice none 0 0, .int .i64 0, .int .i64 0, .int .i64 0, .slice none 0 0, .slice none 0 0, .int .i64 0, .int .i64 0, .int .i64 0, .slice none 0 0, .slice none 0 0, .int .i64 0, .int .i64 0, .int .i64 0, .slice none 0 0, .slice none 0 0, .int .i64 0, .int .i64 0, .int .i64 0, .slice none 0 0, .slice none 0 0, .int .i64 0, .int .i64 0, .int .i64 0, .slice none 0 0, .slice none 0 0, .int .i64 0, .int .i64 0, .int .i64 0, .slice none 0 0, .slice none 0 0, .int .i64 0] 189)) w.heap.size (.slice (A i) (bs i).length (c i)) (bs i) ∧ bytesL (bs i) := fun i hi => ⟨(hv i hi).1.below hb3, (hv i hi).2⟩
  obtain ⟨Af, cf, rfl, n1, n2, -⟩ := hf.at_
  have hlen : fl.length ≤ 4 := by unfold ftIs at his; simp at his; exact his.1
  have hmay : ∀ f ∈ fl, f.may = true := by unfold ftIs at his; simp at his; exact his.2
  clear hf hv hg
  unfold s8 ints8
  go_enter Tryz.func139, Tryz.ntmps139
  go_wp2_with fail
  generalize (((w.alloc (.cells #[.slice (A 0) (bs 0).length (c 0), .slice (A 1) (bs 1).length (c 1), .slice (A 2) (bs 2).length (c 2), .slice (A 3) (bs 3).length (c 3), .slice (A 4) (bs 4).length (c 4), .slice (A 5) (bs 5).length (c 5), .slice (A 6) (bs 6).length (c 6), .slice (A 7) (bs 7).length (c 7)] 188)).alloc (.cells #[.int .i64 (a 0), .int .i64 (a 1), .int .i64 (a 2), .int .i64 (a 3), .int .i64 (a 4), .int .i64 (a 5), .int .i64 (a 6), .int .i64 (a 7)] 66)).alloc (.cells #[.int .i64 0, .int .i64 0, .slice none 0 0, .slice none 0 0, .int .i64 0, .int .i64 0, .int .i64 0, .slice none 0 0, .slice none 0 0, .int .i64 0, .int .i64 0, .int .i64 0, .slice none 0 0, .slice none 0 0, .int .i64 0, .int .i64 0, .int .i64 0, .slice none 0 0, .slice none 0 0, .int .i64 0, .int .i64 0, .int .i64 0, .slice none 0 0, .slice none 0 0, .int .i64 0, .int .i64 0, .int .i64 0, .slice none 0 0, .slice none 0 0, .int .i64 0, .int .i64 0, .int .i64 0, .slice none 0 0, .slice none 0 0, .int .i64 0, .int .i64 0, .int .i64 0, .slice none 0 0, .slice none 0 0, .int .i64 0] 189)) = w3 at *
  refine (is_sr _ fl w3 (hF3.more (by omega))).mono ?_
  rintro e w4 ⟨rfl, hb4⟩
  rw [his]
  have hG4 := hG3.below hb4 hG3.lt
  have hF4 := hF3.below (hb4.mono (by omega))
  have hv4 : ∀ i, i < 8 → SeesL w4 w.heap.size (.slice (A i) (bs i).length (c i)) (bs i) ∧ bytesL (bs i) := fun i hi => ⟨(hv3 i hi).1.below (hb4.mono (by omega)), (hv3 i hi).2⟩
  have Y0 := X0.below hb4 (by omega)
  have Y1 := X1.below hb4 (by omega)
  have Y2 := X2.below hb4 (by omega)
  have hB4 := hb3.trans (hb4.mono (by omega))
  have hz4 : w.heap.size + 1 + 1 + 1 ≤ w4.heap.size := by have := hb4.size; omega
  have c0 := Y0.cell 0 (x := .slice (A 0) (bs 0).length (c 0)) rfl
  have c1 := Y0.cell 1 (x := .slice (A 1) (bs 1).length (c 1)) rfl
  have c2 := Y0.cell 2 (x := .slice (A 2) (bs 2).length (c 2)) rfl
  have c3 := Y0.cell 3 (x := .slice (A 3) (bs 3).length (c 3)) rfl
  have c4 := Y0.cell 4 (x := .slice (A 4) (bs 4).length (c 4)) rfl
  have c5 := Y0.cell 5 (x := .slice (A 5) (bs 5).length (c 5)) rfl
  have c6 := Y0.cell 6 (x := .slice (A 6) (bs 6).length (c 6)) rfl
  have c7 := Y0.cell 7 (x := .slice (A 7) (bs 7).length (c 7)) rfl
  have d0 := Y1.cell 0 (x := .int .i64 (a 0)) rfl
  have d1 := Y1.cell 1 (x := .int .i64 (a 1)) rfl
  have d2 := Y1.cell 2 (x := .int .i64 (a 2)) rfl
  have d3 := Y1.cell 3 (x := .int .i64 (a 3)) rfl
  have d4 := Y1.cell 4 (x := .int .i64 (a 4)) rfl
  have d5 := Y1.cell 5 (x := .int .i64 (a 5)) rfl
  have d6 := Y1.cell 6 (x := .int .i64 (a 6)) rfl
  have d7 := Y1.cell 7 (x := .int .i64 (a 7)) rfl
  have hBg := begin_sr g N A c bs a w4 hG4.n_ hN (fun i hi => ⟨(hv4 i hi).1.more (by omega), (hv4 i hi).2⟩)
  unfold s8 ints8 at hBg
  have hBg := Lib.hid hBg
  clear X0 X1 X2 hG3 hF3 hv3 hb4 hb3 hz3
  go_wp2_with fail
  refine hBg.out.mono ?_
  rintro e w5 ⟨b, l, rfl, hml, hS5, hbw, hb5⟩
  have hY15 := Y1.below hb5 (by omega)
  have hY25 := Y2.below hb5 (by omega)
  have hG5 := hG4.below hb5 hG4.lt
  have hF5 := hF4.below (hb5.mono (by omega))
  have hB5 := hB4.trans (hb5.mono (by omega))
  have hz5 : b < w5.heap.size := hS5.lt
  have hll : l.length = N := by have := congrArg List.length hml; simpa using this
  have hX6 : XAt (w5.alloc (.cells #[.slice (some ⟨b, 0, none⟩) N N, .bool false, .bool false, .slice none 0 0, .int .i64 0, .bool false, .bool false, .slice none 0 0, .int .i64 0] 214)) [w5.heap.size, b, g] w5.heap.size b l ⟨false, false, .slice none 0 0, 0⟩ ⟨false, false, .slice none 0 0, 0⟩ := ⟨by unfold xcs; rw [hll]; exact Blk.new w5 _ rfl _ _, (hS5.sub (P' := [w5.heap.size, b, g]) (fun i hi => by simp at hi ⊢; omega) (by simp)).below ((Below.refl _ _).alloc (Nat.le_refl _) _), by simp, by omega⟩
  have hb6 : Below w5.heap.size w5 (w5.alloc (.cells #[.slice (some ⟨b, 0, none⟩) N N, .bool false, .bool false, .slice none 0 0, .int .i64 0, .bool false, .bool false, .slice none 0 0, .int .i64 0] 214)) := (Below.refl _ _).alloc (Nat.le_refl _) _
  have hz6 : (w5.alloc (.cells #[.slice (some ⟨b, 0, none⟩) N N, .bool false, .bool false, .slice none 0 0, .int .i64 0, .bool false, .bool false, .slice none 0 0, .int .i64 0] 214)).heap.size = w5.heap.size + 1 := by simp
  have hB6 := hB5.trans (hb6.mono (by omega))
  have hY16 := hY15.below hb6 (by omega)
  have hY26 := hY25.below hb6 (by omega)
  have hG6 := hG5.below hb6 hG5.lt
  have hF6 := hF5.below (hb6.mono (by omega))
  have hwx : w.heap.size + 1 + 1 + 1 ≤ w5.heap.size := by have := hb5.size; omega
  have hb4b : w4.heap.size ≤ b := hbw
  clear Y0 Y1 Y2 hG4 hF4 hv4 hB4 hBg hS5 hb5 hY15 hY25 hG5 hF5 hB5 hb6 c0 c1 c2 c3 c4 c5 c6 c7 d0 d1 d2 d3 d4 d5 d6 d7
  go_wp2_with fail
  generalize w5.alloc (.cells #[.slice (some ⟨b, 0, none⟩) N N, .bool false, .bool false, .slice none 0 0, .int .i64 0, .bool false, .bool false, .slice none 0 0, .int .i64 0] 214) = w6 at *
  generalize w5.heap.size = x at *
  have hbb : w.heap.size + 1 + 1 + 1 ≤ b := by omega
  have HM0 : Hid (∀ s ∈ (List.range N).map (sd0 bs a), -(1000000 : Int) ≤ s.at_ ∧ s.at_ ≤ 1000000) := Lib.hid fun s hs => by
    obtain ⟨i, -, rfl⟩ := List.mem_map.1 hs
    exact ha i
  generalize hm0 : (List.range N).map (sd0 bs a) = m0 at *
  have hF6 := Lib.hid hF6
  have HT := fun k hk => Lib.hid (strikes_succ fl m0 k hk)
  have HA := fun (p : Ft → Bool) k hk => Lib.hid (any_succ fl p k hk)
  go_loopw [28] (fun i wr => ∃ k : Nat, ∃ l' : List (Value × Sd), k ≤ fl.length ∧ i = .int .i64 k ∧ XAt wr [x, b, g] x b l' ⟨(fl.take k).any (blocks · 0), false, .slice none 0 0, 0⟩ ⟨(fl.take k).any (blocks · 1), false, .slice none 0 0, 0⟩ ∧ Hid (l'.map Prod.snd = strikes (fl.take k) m0) ∧ Hid (∀ s ∈ strikes (fl.take k) m0, -(1000000 + 1000 * (k : Int)) ≤ s.at_ ∧ s.at_ ≤ 1000000 + 1000 * (k : Int)) ∧ Kw [x, b] w6 wr) (fun i _ => fl.length - (intOf i).toNat)
  case atStart => exact ⟨0, l, by omega, rfl, by simpa using hX6, Lib.hid (by simpa [strikes] using hml), Lib.hid (by simpa [strikes] using HM0.out), Kw.refl _ _⟩
  case round =>
    obtain ⟨k, l', hk, rfl, hX, hM, hA, hK⟩ := hrel
    clear hX6
    by_cases hlt : k < fl.length
    · have r1 : decide ((k : Int) < (fl.length : Nat)) = true := by simp; omega
      have hBl : Below w.heap.size w6 wr := hK.toBelow (by omega) (fun i hi => by simp at hi; omega)
      have hFr := hF6.out.below hBl
      obtain ⟨Af2, cf2, hfe, -, -, hfc⟩ := hFr.at_
      obtain ⟨bf, off, rfl, hbf, hd⟩ := hfc (by omega)
      simp only [Value.slice.injEq] at hfe
      obtain ⟨rfl, -, rfl⟩ := hfe
      obtain ⟨c0, c1, c2, u, c3, hu⟩ := hd k hlt
      have hy := hFr.by_ _ (ftAt fl k hlt)
      have hfm := hmay _ (ftAt fl k hlt)
      have hf7 := h7 _ (ftAt fl k hlt)
      have HTk := HT k hlt
      have HA0 := HA (blocks · 0) k hlt
      have HA1 := HA (blocks · 1) k hlt
      generalize fl.getD k default = f at *
      have hfa : -1000 ≤ f.a ∧ f.a ≤ 1000 := by unfold Ft.may at hfm; rw [ftMay_iff] at hfm; omega
      obtain ⟨Au, cu, rfl, -⟩ := hu.at_
      have hzr := hK.size
      have hbx : Below wr.heap.size wr (wr.alloc (.cells #[.int .i64 f.k, .int .i64 f.n, .int .i64 f.a, .slice Au f.d.length cu] 206)) := (Below.refl _ _).alloc (Nat.le_refl _) _
      have hN4 := Blk.new wr wr.heap.size rfl #[.int .i64 f.k, .int .i64 f.n, .int .i64 f.a, .slice Au f.d.length cu] 206
      have y0 := hN4.cell 0 (x := .int .i64 f.k) rfl
      have y1 := hN4.cell 1 (x := .int .i64 f.n) rfl
      have y2 := hN4.cell 2 (x := .int .i64 f.a) rfl
      have y3 := hN4.cell 3 (x := .slice Au f.d.length cu) rfl
      have hz7 : (wr.alloc (.cells #[.int .i64 f.k, .int .i64 f.n, .int .i64 f.a, .slice Au f.d.length cu] 206)).heap.size = wr.heap.size + 1 := by simp
      have hX7 := hX.below hbx
      have hK7 := hK.below hbx
      have hl8 : l'.length = N := by have e := congrArg List.length hM.out; rw [List.length_map, strikes_length, ← hm0] at e; simpa using e
      have hS7 := Lib.hid (strike_x x b l' _ _ (.slice Au f.d.length cu) f [x, b, g] _ hX7 hfm hf7 (fun s hs => by have := hA.out s.2 (by rw [← hM.out]; exact List.mem_map_of_mem hs); unfold wide; omega) (fun i hi => by have := hG6.lt; simp at hi; omega) ((hu.below (hbx.mono (by omega))).more (by omega)) hy (by omega))
      have HA' : Hid (∀ s ∈ strikes (fl.take (k + 1)) m0, -(1000000 + 1000 * ((k + 1 : Nat) : Int)) ≤ s.at_ ∧ s.at_ ≤ 1000000 + 1000 * ((k + 1 : Nat) : Int)) := Lib.hid fun s hs => by
        rw [HTk.out] at hs
        have := strikeL_at f _ hfa _ hA.out s hs
        omega
      unfold ftV at hS7
      clear hX hK hX7 hN4 hd hfc hu hFr hBl hbx HT HA HM0
      go_wp2_with fail
      refine hS7.out.mono ?_
      rintro e w8 ⟨rfl, l2, hm2, hX8, hK8⟩
      have hX9 := Lib.hid hX8
      have hK9 := Lib.hid (hK7.trans hK8)
      clear hX8 hK8 hK7 hS7
      go_wp2_with fail
      go_roundw
      case rel => exact ⟨k + 1, l2, by omega, by go_num, by rw [HA0.out, HA1.out]; exact hX9.out, Lib.hid (by rw [hm2, hM.out, HTk.out]), HA', hK9.out⟩
      case measure => simp [intOf]; omega
    · obtain rfl : k = fl.length := by omega
      have r1 : decide ((fl.length : Int) < (fl.length : Nat)) = false := by simp
      rw [List.take_length, hb0, hb1] at hX
      rw [List.take_length, hm] at hM hA
      have hl8 : l'.length = N := by have e := congrArg List.length hM.out; rw [List.length_map, ← hm, strikes_length, ← hm0] at e; simpa using e
      have hgx : g ≠ x := by omega
      have hGr := hG6.kp hK (by simp; omega)
      have hY1r := hY16.kp hK (by simp; omega)
      have hY2r := hY26.kp hK (by simp; omega)
      have hBr := hB6.trans (hK.toBelow (B := w.heap.size) (by omega) (fun i hi => by simp at hi; omega))
      have hzr := hK.size
      have hPr : ∀ i ∈ [x, b, g], i < wr.heap.size := fun i hi => by simp at hi; omega
      have hM := hM.out
      have hsA := sA_bd m 1004000 (by omega) (fun s hs => by have := hA.out s hs; omega)
      have hpl' : p = -1 ∨ ∃ j : Nat, p = j ∧ j < l'.length := by rw [hl8]; exact hpl
      have hPs := Lib.hid (pass_sr g N x b s l' bl p [x, b, g] wr hGr hX (by omega) hgx hPr sn ss sw (by rw [hM]; have := hsA s.slot; unfold time; omega) swi (by rw [hM]; exact hp) hpl')
      rw [hM] at hPs
      have hGrr := hGr
      clear hX hGr hK hG6 hF6 HT HA HM0 hA hB6 hY16 hY26
      go_wp2_with fail
      refine hPs.out.mono ?_
      rintro e w7 ⟨rfl, u0, u1, hX7, R0, R1, hK7⟩
      have hG7 := hGrr.kp hK7 (by simp; omega)
      have hY17 := hY1r.kp hK7 (by simp; omega)
      have hY27 := hY2r.kp hK7 (by simp; omega)
      have hB7 := hBr.trans (hK7.toBelow (B := w.heap.size) (by omega) (fun i hi => by simp at hi; omega))
      have hz77 := hK7.size
      have hP7 : ∀ i ∈ [x, b, g], i < w7.heap.size := fun i hi => by have := hPr i hi; omega
      have n4 := R0.n4
      have o0 := R0.one
      obtain ⟨A0, e0, rfl, -, -, S0⟩ := R0.sees
      obtain ⟨A1, e1, rfl, -, -, S1⟩ := R1.sees
      have hMx := fun e => Lib.hid (mix_two A0 A1 _ _ e0 e1 _ _ _ _ w7 e S0 S1 (by omega) (by omega) (fun k => by have := (o0 k).1; omega) (fun k => by have := (o0 k).1; omega))
      have x3 := hX7.blk.cell 3 (x := .slice A0 (hn m (prV bl p)) e0) rfl
      have x7 := hX7.blk.cell 7 (x := .slice A1 (hn m (prV bl p)) e1) rfl
      have HO := Lib.hid o0
      clear hGrr hY1r hY2r hBr hK7 hPr hPs R0 R1 S0 S1 o0
      go_wp2_with fail
      refine (hMx _).out.mono ?_
      rintro e w8 ⟨v, rfl, ho, hb8⟩
      have hr8 : Row w8 [x, b, g] v (hn m (prV bl p)) (hq m p) (hq m p) := Row.ofOwns (B := w7.heap.size) (by
        rw [Nat.max_self] at ho
        exact ho.alike fun k hk => by simp [hk]) hP7 n4 (fun k => ⟨(HO.out k).1, (HO.out k).1⟩)
      have hX8 := hX7.below hb8
      have hG8 := hG7.below hb8 hG7.lt
      have hY18 := hY17.below hb8 hY17.lt
      have hY28 := hY27.below hb8 hY27.lt
      have hB8 := hB7.trans (hb8.mono hB7.size)
      have hz8 := hb8.size
      obtain ⟨Av, ev, rfl, -⟩ := hr8.sees
      have hpr : prV bl p = -1 ∨ ∃ j : Nat, prV bl p = j ∧ j < l'.length := by
        cases bl
        · exact hpl'
        · exact .inl rfl
      have hEn := end_sr g N b s l' ⟨bl, false, .slice A0 (hn m (prV bl p)) e0, prV bl p⟩ ⟨bl, false, .slice A1 (hn m (prV bl p)) e1, prV bl p⟩ (prV bl p) [x, b, g] _ _ _ _ w8 hG8 hX8.sd (by simp) (by omega) hr8 rfl rfl hpr (by rw [hM]; exact ok)
      rw [hM] at hEn
      unfold xcs at hEn
      simp only at hEn
      rw [hl8] at hEn
      have hEnd := Lib.hid hEn
      clear hEn
      have x0 := hX8.blk.cell 0 (x := .slice (some ⟨b, 0, none⟩) l'.length l'.length) rfl
      have x1 := hX8.blk.cell 1 (x := .bool bl) rfl
      have x2 := hX8.blk.cell 2 (x := .bool false) rfl
      have x3 := hX8.blk.cell 3 (x := .slice A0 (hn m (prV bl p)) e0) rfl
      have x4 := hX8.blk.cell 4 (x := .int .i64 (prV bl p)) rfl
      have x5 := hX8.blk.cell 5 (x := .bool bl) rfl
      have x6 := hX8.blk.cell 6 (x := .bool false) rfl
      have x7 := hX8.blk.cell 7 (x := .slice A1 (hn m (prV bl p)) e1) rfl
      have x8 := hX8.blk.cell 8 (x := .int .i64 (prV bl p)) rfl
      clear hX7 hG7 hY17 hY27 hB7 hb8 ho hMx
      go_wp2_with fail
      refine hEnd.out.mono ?_
      rintro e w9 ⟨rfl, hG9, hO9⟩
      have hX9 : XAt w9 [x, b, g] x b l' ⟨bl, false, .slice A0 (hn m (prV bl p)) e0, prV bl p⟩ ⟨bl, false, .slice A1 (hn m (prV bl p)) e1, prV bl p⟩ := ⟨hX8.blk.only hO9 (by omega), hX8.sd.kp (Kw.only hO9 (by simp)) (hO9.block b hX8.sd.lt (by intro e; cases e; omega)), hX8.mem, hX8.ne⟩
      have hr9 := hr8.kp (Kw.only hO9 (by simp))
      have hY19 := hY18.only hO9 (by omega)
      have hY29 := hY28.only hO9 (by omega)
      have hO9' := Lib.hid ((only_of_below g hB8).trans hO9)
      have hz9 := hO9.size
      have hHe := heard_sr x b l' ⟨bl, false, .slice A0 (hn m (prV bl p)) e0, prV bl p⟩ ⟨bl, false, .slice A1 (hn m (prV bl p)) e1, prV bl p⟩ (prV bl p) [x, b, g] _ _ _ _ a w9 hX9 (by omega) hr9 rfl rfl hpr (fun i => by have := ha i; unfold wide; omega) (by rw [hM]; unfold whenV; split; (unfold wide; omega); (have := hsA (prV bl p).toNat; unfold wide; omega))
      rw [hM] at hHe
      unfold ints8 at hHe
      have hHe := Lib.hid hHe
      have d0 := hY19.cell 0 (x := .int .i64 (a 0)) rfl
      have d1 := hY19.cell 1 (x := .int .i64 (a 1)) rfl
      have d2 := hY19.cell 2 (x := .int .i64 (a 2)) rfl
      have d3 := hY19.cell 3 (x := .int .i64 (a 3)) rfl
      have d4 := hY19.cell 4 (x := .int .i64 (a 4)) rfl
      have d5 := hY19.cell 5 (x := .int .i64 (a 5)) rfl
      have d6 := hY19.cell 6 (x := .int .i64 (a 6)) rfl
      have d7 := hY19.cell 7 (x := .int .i64 (a 7)) rfl
      clear hX8 hG8 hY18 hY28 hB8 hr8 hX9 hr9 hEnd hO9
      go_wp2_with fail
      refine hHe.out.mono ?_
      rintro e w10 ⟨f, rfl, hH, hb10⟩
      have hG10 := hG9.below hb10 hG9.lt
      have hOx := Lib.hid (hO9'.out.trans (only_of_below g hb10))
      have hR10 := Lib.hid (hY29.below hb10 hY29.lt)
      have hth : w10.there (w.heap.size + 1 + 1) 0 (hdC f).size := fun i hi => ⟨by rw [Nat.zero_add, hR10.out.cell i (Array.getElem?_eq_getElem (by simpa [hdC] using hi))]; rfl, hR10.out.frozen _⟩
      have hin := infoHeard8
      have hun := Tryz.underlying189
      have hone := Lib.hid (hdC_one f (fun i hi => by obtain ⟨A, c, h, -⟩ := (hH i hi).X.sees.at_; exact ⟨A, _, c, h⟩) (fun i hi => by obtain ⟨A, c, h, -⟩ := (hH i hi).Y.sees.at_; exact ⟨A, _, c, h⟩))
      have HF : Hid (∀ i, i < 8 → Hears (w10.setCells (w.heap.size + 1 + 1) 0 (hdC f).toList) w.heap.size m (hn m (prV bl p)) (hq m p) (hq m p) (prV bl p) a i (f i)) := Lib.hid fun i hi => ((hH i hi).only (g := w.heap.size + 1 + 1) (Only.setCells _ _ (Only.refl _ _)) (by omega)).base (by omega)
      have GG : Hid (GsAt (w10.setCells (w.heap.size + 1 + 1) 0 (hdC f).toList) g N _ _) := Lib.hid ⟨hG10.1.only (g := w.heap.size + 1 + 1) (Only.setCells _ _ (Only.refl _ _)) (by omega), hG10.2⟩
      have OO := Lib.hid (hOx.out.other (Only.setCells (hdC f).toList 0 (Only.refl (w.heap.size + 1 + 1) w10)) (by omega))
      clear hG10 hH hG9 hb10 hHe
      go_wp2_with (first
        | (refine wpList_store_mid rfl _ _ _ rfl _ _ (hdC f) rfl rfl hth hin hone.out ?_))
      refine bodyPost_ret (v := .tuple #[.agg (hdC f), .int .i64 0]) ?_ rfl ⟨f, rfl, HF.out, GG.out, OO.out⟩
      rw [results_cell_tmp rfl]
      have hld := run_loadVar_mid (P := Tryz.prog) (w10.setCells (w.heap.size + 1 + 1) 0 (hdC f).toList) (w.heap.size + 1 + 1) 0 189 (hdC f).toList _ (World.rangeAt_setCells_same _ _ _ _ (by simpa using hth)) hun rfl hin
      simp only [Array.toArray_toList] at hld
      show ((asAddr (.pointer (some ⟨w.heap.size + 1 + 1, 0, none⟩))).run Tryz.prog _).andThen _ = _
      simp only [asAddr, Sem.run_pure, Result.andThen_ok, hld]
      rfl
end Go.Proofs.YtpdenmcacaajkaaGreat

/-! ### GdF -/
namespace Go.Proofs.YtpdenmcacaajkaaGreat
open Go.RowKit
open Tb (D T)

def gsmD (i : Nat) : D := ⟨decide ((i : Int) < 4) || ((i : Int) % 2 == 0), ((i : Int) % 3 == 0), 20 + 3 * ((i : Int) * 5 % 8), 4⟩
def gsmL (n : Nat) : List D := (List.range n).map gsmD
def gsmT (n : Nat) (dr : Int) : T := ⟨gsmL n, dr, 4 * dr + 6, 4 * dr + 9⟩
theorem gsmL_length (n : Nat) : (gsmL n).length = n := by simp [gsmL]
theorem gsmL_succ (n : Nat) : gsmL (n + 1) = gsmL n ++ [gsmD n] := by simp [gsmL, List.range_succ]
theorem some_is (n : Nat) (dr : Int) (h4 : 4 ≤ n) (h8 : n ≤ 8) (hd : 0 ≤ dr ∧ dr ≤ 200) : (gsmT n dr).is = true := by
  have ha : Tb.are (gsmL n) = true := by
    rcases (by omega : n = 4 ∨ n = 5 ∨ n = 6 ∨ n = 7 ∨ n = 8) with rfl | rfl | rfl | rfl | rfl <;> decide +kernel
  simp only [T.is, Tb.rest, gsmT, ha, Bool.true_and, Bool.and_eq_true, Tb.wi_iff]
  omega
end Go.Proofs.YtpdenmcacaajkaaGreat

/-! ### SrL -/
namespace Go.Proofs.YtpdenmcacaajkaaGreat
open Go.RowKit
open Tb (D T)

end Go.Proofs.YtpdenmcacaajkaaGreat

/-! ### GdG -/
namespace Go.Proofs.YtpdenmcacaajkaaGreat
open Go.RowKit
open Tb (D T)

end Go.Proofs.YtpdenmcacaajkaaGreat

/-! ### FrR -/
namespace Go.Proofs.YtpdenmcacaajkaaGreat
open Go.RowKit
open Fr (St F)

end Go.Proofs.YtpdenmcacaajkaaGreat

/-! ### GdL -/
namespace Go.Proofs.YtpdenmcacaajkaaGreat
open Go.RowKit
open Clk (avg)
open Fr (St F)

theorem tells_short {l : List Int} (h : l.length < 4) (n : Nat) : tells l n = false := by
  have hf : Fr.formB l z0 = false := by
    rw [Bool.eq_false_iff]; intro e; simp only [Fr.formB, Bool.and_eq_true, decide_eq_true_eq] at e; omega
  unfold tells
  simp [Fr.err, hf]
/-- It was told the slot. -/
def G.told (s : G) (k : Nat) (at_ : Int) : G := { s with kn := true, slot := (k + 1) % s.n, now := at_, si := 0, l := [] }
theorem ended_not (s : G) (hkn : s.kn = false) {l : List Int} (h : tells l s.n = false) (at_ : Int) : s.ended l at_ = s := by
  unfold G.ended G.learnt
  rw [hkn, h]
  rfl
end Go.Proofs.YtpdenmcacaajkaaGreat
