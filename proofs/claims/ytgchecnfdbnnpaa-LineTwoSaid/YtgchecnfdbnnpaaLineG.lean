/- What line.Drive makes, as whole numbers; what is read of it; bytes as a string. -/
import Derived.Test.YtgchecnfdbnnpaaLineF
import Derived.Laws.BytesString
import Derived.Laws.Cells
namespace Go.Proofs.Ytgchecnfdbnnpaa
open Go.RowKit

def lv (f : Bool) (z : Nat → Int) (k : Nat) : Int := if f then (if bitv (z (k / 8)) (k % 8) then 1 else -1) else 0
theorem drv_cx (f s : Bool) (z : Nat → Int) (k : Nat) : drv f s z k = cx (lv f z k) (lv s z k) := by
  have h1 : part f (lvl (bitv (z (k / 8)) (k % 8))) = floatOfInt .f64 (lv f z k) := by
    unfold part lvl lv
    cases f
    · exact fl_zero.symm
    · cases bitv (z (k / 8)) (k % 8)
      · exact fl_minus.symm
      · exact fl_one.symm
  have h2 : part s (lvl (bitv (z (k / 8)) (k % 8))) = floatOfInt .f64 (lv s z k) := by
    unfold part lvl lv
    cases s
    · exact fl_zero.symm
    · cases bitv (z (k / 8)) (k % 8)
      · exact fl_minus.symm
      · exact fl_one.symm
  unfold drv cx
  rw [h1, h2]
theorem lv_small (f : Bool) (z : Nat → Int) (k : Nat) : (lv f z k).natAbs < 2 ^ 53 := by
  unfold lv
  split
  · split <;> decide
  · decide
theorem drive_cx (A : Option Addr) (n c : Nat) (z : Nat → Int) (f s : Bool) (w : World) (h : Sees w w.heap.size A n fun k => .int .u8 (z k)) (hz : ∀ k, k < n → 0 ≤ z k ∧ z k < 256) (hn : n ≤ c) (hc : c ≤ maxLen) :
    Calls Try.prog 16 #[.slice A n c, .bool f, .bool s] w fun e w' =>
      ∃ v, e = .returned v ∧ Owns w' w.heap.size 51 v (8 * min n 50) (fun k => cx (lv f z k) (lv s z k)) ∧ Below w.heap.size w w' := by
  refine (drive_any A n c z f s w h hz hn hc).mono ?_
  rintro e w' ⟨v, rfl, ho, hb⟩
  exact ⟨v, rfl, ho.alike fun k _ => drv_cx f s z k, hb⟩

theorem allZ_iff (q : Nat → Int) (n : Nat) : allZ q n = true ↔ ∀ k, k < n → q k = 0 := by simp [allZ]
theorem allU_iff (q : Nat → Int) (n : Nat) : allU q n = true ↔ ∀ k, k < n → q k = 1 ∨ q k = -1 := by simp [allU]
theorem lv_silent (z : Nat → Int) (n : Nat) : allZ (lv false z) n = true := (allZ_iff _ _).2 fun _k _ => rfl
theorem lv_unit (z : Nat → Int) (k : Nat) : lv true z k = 1 ∨ lv true z k = -1 := by
  unfold lv
  simp only [if_true]
  split
  · exact .inl rfl
  · exact .inr rfl
theorem lv_units (z : Nat → Int) (n : Nat) : allU (lv true z) n = true := (allU_iff _ _).2 fun k _ => lv_unit z k
theorem lv_loud (z : Nat → Int) (n : Nat) (hn : 0 < n) : allZ (lv true z) n = false := by
  rw [Bool.eq_false_iff]
  intro h
  have := (allZ_iff _ _).1 h 0 hn
  rcases lv_unit z 0 with h1 | h1 <;> omega

theorem byte_bits (x : Fin 256) : (List.range 8).foldl (fun a k => a ||| (if x.val.testBit (7 - k) = true then 128 / 2 ^ k else 0)) 0 = x.val := by
  revert x
  decide +kernel
theorem foldl_same {α β : Type} (f g : α → β → α) : ∀ (l : List β) (a : α), (∀ a k, k ∈ l → f a k = g a k) → l.foldl f a = l.foldl g a
  | [], _, _ => rfl
  | k :: l, a, h => by
    rw [List.foldl_cons, List.foldl_cons, h a k (List.mem_cons_self), foldl_same f g l (g a k) fun a' k' hk => h a' k' (List.mem_cons_of_mem _ hk)]
theorem packed_lv (z : Nat → Int) (j : Nat) (hz : 0 ≤ z j ∧ z j < 256) : packed (lv true z) j = z j := by
  obtain ⟨x, hx⟩ := Int.eq_ofNat_of_zero_le hz.1
  have hb : _ = x := byte_bits ⟨x, by omega⟩
  have he : packTo (lv true z) j 8 = x := by
    refine Eq.trans ?_ hb
    refine foldl_same _ _ _ _ fun a k hk => ?_
    have hk8 : k < 8 := List.mem_range.1 hk
    have hl : lv true z (8 * j + k) = if x.testBit (7 - k) = true then 1 else -1 := by
      unfold lv bitv
      rw [show (8 * j + k) / 8 = j by omega, show (8 * j + k) % 8 = k by omega, hx]
      rfl
    rw [hl]
    cases x.testBit (7 - k) <;> rfl
  unfold packed
  rw [he, hx]

/-- Bytes as a string. -/
def strOf (z : Nat → Int) (n : Nat) : ByteArray := ((List.range n).map z).foldl (fun r n => r.push (UInt8.ofNat n.toNat)) ByteArray.empty
theorem strOf_congr {z z' : Nat → Int} {n : Nat} (h : ∀ k, k < n → z k = z' k) : strOf z n = strOf z' n := by
  unfold strOf
  rw [List.map_congr_left fun k hk => h k (List.mem_range.1 hk)]
theorem run_string {w : World} {B n c : Nat} {A : Option Addr} {z : Nat → Int} (h : Sees w B A n fun k => .int .u8 (z k)) (h0 : 0 < n) :
    (convert 22 9 (.slice A n c)).run Try.prog w = .ok (.string (strOf z n)) w := by
  obtain ⟨b, off, rfl, -, hc⟩ := h h0
  rw [run_convert_bytes_string w _ _ 5 _ _ _ Try.underlying22 Try.underlying5 Try.underlying9]
  refine run_bytesToString w _ _ _ ((List.range n).map z) ?_
  rw [run_loadCells w ⟨b, off, none⟩ n (fun k => .int .u8 (z k)) (fun j hj => ?_)]
  · rw [List.map_map]; rfl
  · have := hc j hj
    by_cases h0 : j = 0
    · subst h0; simpa [Addr.add] using this
    · simpa [Addr.add, h0] using this
/-- The same behind a draw. -/
theorem run_string_later {w : World} {B n c : Nat} {A : Option Addr} {z : Nat → Int} (h : Sees w B A n fun k => .int .u8 (z k)) (h0 : 0 < n) :
    (convert 22 9 (.slice A n c)).run Try.prog w.drew = .ok (.string (strOf z n)) w.drew := run_string (w := w.drew) h h0
end Go.Proofs.Ytgchecnfdbnnpaa
