/- The contracts of line.tell and line.Read: what the channels of a row of whole numbers tell. The numbers are of less than 53 digits. -/
import Derived.Test.YtbjojpcgigoenaaLineE
namespace Go.Proofs.Ytbjojpcgigoenaa
open Go.RowKit

/-- What a channel's levels tell: silence, bytes, or noise. -/
def Told (w' : World) (B : Nat) (q : Nat → Int) (n : Nat) (K : Int) (v : Value) : Prop :=
  (allZ q n = true ∧ K = 0 ∧ v = .slice none 0 0) ∨ (allZ q n = false ∧ n % 8 = 0 ∧ allU q n = true ∧ K = 2 ∧ Owns w' B 5 v (n / 8) (fun j => .int .u8 (packed q j))) ∨
  (allZ q n = false ∧ (n % 8 ≠ 0 ∨ allU q n = false) ∧ K = 1 ∧ v = .slice none 0 0)
def SomeTold (w : World) (q : Nat → Int) (n : Nat) (e : Ending) (w' : World) : Prop := ∃ K v, e = .returned (.tuple #[.int .i64 K, v]) ∧ Told w' w.heap.size q n K v ∧ Below w.heap.size w w'

set_option maxHeartbeats 1000000 in
theorem tell_any (A : Option Addr) (n c : Nat) (a b : Nat → Int) (s : Bool) (w : World) (h : Sees w w.heap.size A n fun k => cx (a k) (b k)) (hq : ∀ k, k < n → (pt s (a k) (b k)).natAbs < 2 ^ 53) (hn : n ≤ c) (hc : c ≤ maxLen) (hr : n ≤ 140737488355328) :
    Calls Try.prog 35 #[.slice A n c, .bool s] w (SomeTold w (fun k => pt s (a k) (b k)) n) := by
  have hc' := hc
  unfold maxLen at hc'
  obtain ⟨E, hE⟩ : ∃ E : Bool, E = decide (n % 8 = 0) := ⟨_, rfl⟩
  have HE := Lib.hid hE
  have hE' : ((n : Int) % 8 == 0) = E := by
    rw [hE, Bool.eq_iff_iff]
    simp
    omega
  clear hE
  go_enter Try.func35, Try.ntmps35
  go_wp2
  clear hE'
  go_loop [6, 7, 17] (fun x y i => ∃ k : Nat, k ≤ n ∧ i = .int .i64 k ∧ x = .bool (allZ (fun k => pt s (a k) (b k)) k) ∧ y = .bool (E && allU (fun k => pt s (a k) (b k)) k)) (fun _ _ i => n - (intOf i).toNat)
  case atStart => exact ⟨0, by omega, rfl, rfl, by simp [allU]⟩
  case round =>
    obtain ⟨k, hk, rfl, rfl, rfl⟩ := hrel
    by_cases hlt : k < n
    · obtain ⟨b0, off, rfl, hbb, hcell⟩ := h (by omega)
      have hx : w.cell? ⟨b0, off + k, none⟩ = some (cx (a k) (b k)) := hcell k (by omega)
      have hqk := hq k hlt
      have h0 := is_zero (pt s (a k) (b k)) hqk
      have h1 := is_one (pt s (a k) (b k)) hqk
      have h2 := is_minus (pt s (a k) (b k)) hqk
      have HZ := Lib.hid (allZ_succ (fun k => pt s (a k) (b k)) k)
      have HU := Lib.hid (allU_succ (fun k => pt s (a k) (b k)) k)
      clear hcell
      have H0 := Lib.hid (show (pt s (a k) (b k) == 0) = decide (pt s (a k) (b k) = 0) by rw [Bool.eq_iff_iff]; simp)
      have H1 := Lib.hid (show (pt s (a k) (b k) == 1) = decide (pt s (a k) (b k) = 1) by rw [Bool.eq_iff_iff]; simp)
      have H2 := Lib.hid (show (pt s (a k) (b k) == -1) = decide (pt s (a k) (b k) = -1) by rw [Bool.eq_iff_iff]; simp)
      generalize decide (pt s (a k) (b k) = 0) = d0 at *
      generalize decide (pt s (a k) (b k) = 1) = d1 at *
      generalize decide (pt s (a k) (b k) = -1) = d2 at *
      generalize allZ (fun k => pt s (a k) (b k)) k = x at *
      have HY := Lib.hid (Bool.and_assoc E (allU (fun k => pt s (a k) (b k)) k) (d1 || d2))
      generalize (E && allU (fun k => pt s (a k) (b k)) k) = y at *
      cases x <;> cases y <;> cases d0 <;> cases d1 <;> cases d2
      all_goals
        go_wp2_with (go_at_call 38; refine (level_cx (a k) (b k) s _).mono ?_; rintro e w' ⟨rfl, rfl⟩)
        go_round
        case rel => exact ⟨k + 1, by omega, by go_num, by rw [HZ.out, H0.out]; rfl, by rw [HU.out, H1.out, H2.out, ← HY.out]; rfl⟩
        case measure => simp [intOf]; omega
    · obtain rfl : k = n := by omega
      have hE := HE.out
      cases hz : allZ (fun k => pt s (a k) (b k)) k
      · cases hu : (E && allU (fun k => pt s (a k) (b k)) k)
        · have HU := Lib.hid hu
          have HZ := Lib.hid hz
          clear hz hu hE
          go_wp2
          go_ret2
          refine ⟨1, _, rfl, .inr (.inr ⟨HZ.out, ?_, rfl, rfl⟩), Below.refl _ _⟩
          have h1 := HU.out
          rw [HE.out, Bool.and_eq_false_iff] at h1
          rcases h1 with h1 | h1
          · exact .inl (by simpa using h1)
          · exact .inr h1
        · have HU := Lib.hid hu
          have HZ := Lib.hid hz
          clear hz hu hE
          have h1 := HU.out
          rw [HE.out, Bool.and_eq_true] at h1
          obtain ⟨h8, h9⟩ := h1
          have h8' : k % 8 = 0 := by simpa using h8
          have H9 := Lib.hid h9
          have H8 := Lib.hid h8'
          clear h8 h9 h8'
          go_wp2_with (go_at_call 39; refine (pack_any A k c a b s w h hq H8.out hn hc hr).mono ?_; rintro e w' ⟨v, rfl, hov, hbv⟩)
          go_ret2
          exact ⟨2, v, rfl, .inr (.inl ⟨HZ.out, H8.out, H9.out, rfl, hov⟩), hbv⟩
      · have HZ := Lib.hid hz
        clear hz hE
        go_wp2
        go_ret2
        exact ⟨0, _, rfl, .inl ⟨HZ.out, rfl, rfl⟩, Below.refl _ _⟩

/-- What both channels tell. -/
def BothTold (w : World) (a b : Nat → Int) (n : Nat) (e : Ending) (w' : World) : Prop :=
  ∃ K v L u, e = .returned (.tuple #[.int .i64 K, v, .int .i64 L, u]) ∧ Told w' w.heap.size a n K v ∧ Told w' w.heap.size b n L u ∧ Below w.heap.size w w'

theorem Told.below {w w' : World} {B B' : Nat} {q : Nat → Int} {n : Nat} {K : Int} {v : Value} (h : Told w B q n K v) (hb : Below B' w w') (hB : w.heap.size ≤ B') : Told w' B q n K v := by
  rcases h with h | ⟨h1, h2, h3, h4, h5⟩ | h
  · exact .inl h
  · exact .inr (.inl ⟨h1, h2, h3, h4, World.ownsRow.kept (row := none) h5 ⟨hb.os, hb.tape, hb.output, hb.size, fun k hk _ => hb.block k (by omega)⟩ (by
      rcases h5.2 with ⟨rfl, _⟩ | ⟨g, cap, cur, rfl, _⟩
      · exact .inl rfl
      · exact .inr (by simp [Value.ownBlock]))⟩)
  · exact .inr (.inr h)
theorem Told.base {w : World} {B B' : Nat} {q : Nat → Int} {n : Nat} {K : Int} {v : Value} (h : Told w B q n K v) (hB : B' ≤ B) : Told w B' q n K v := by
  rcases h with h | ⟨h1, h2, h3, h4, h5⟩ | h
  · exact .inl h
  · refine .inr (.inl ⟨h1, h2, h3, h4, h5.1, ?_⟩)
    rcases h5.2 with h6 | ⟨g, cap, cur, h6, h7, h8⟩
    · exact .inl h6
    · exact .inr ⟨g, cap, cur, h6, by omega, h8⟩
  · exact .inr (.inr h)

theorem read_any (A : Option Addr) (n c : Nat) (a b : Nat → Int) (w : World) (h : Sees w w.heap.size A n fun k => cx (a k) (b k)) (ha : ∀ k, k < n → (a k).natAbs < 2 ^ 53) (hb : ∀ k, k < n → (b k).natAbs < 2 ^ 53) (hn : n ≤ c) (hc : c ≤ maxLen) (hr : n ≤ 140737488355328) :
    Calls Try.prog 25 #[.slice A n c] w (BothTold w a b n) := by
  have T1 := tell_any A n c a b false w h (fun k hk => by simpa [pt] using ha k hk) hn hc hr
  go_enter Try.func25, Try.ntmps25
  go_wp2_with fail
  refine T1.mono ?_
  rintro e w1 ⟨K, v, rfl, ht, hb1⟩
  have T2 := tell_any A n c a b true w1 ((h.below hb1).more hb1.size) (fun k hk => by simpa [pt] using hb k hk) hn hc hr
  go_wp2_with fail
  refine T2.mono ?_
  rintro e w2 ⟨L, u, rfl, ht2, hb2⟩
  go_wp2
  refine bodyPost_ret (v := .tuple #[.int .i64 K, v, .int .i64 L, u]) (by simp [results, Try.results25, go_sem]) rfl ?_
  refine ⟨K, v, L, u, rfl, ?_, ?_, hb1.trans (hb2.mono hb1.size)⟩
  · simpa [pt] using ht.below hb2 (Nat.le_refl _)
  · simpa [pt] using ht2.base hb1.size
end Go.Proofs.Ytbjojpcgigoenaa
