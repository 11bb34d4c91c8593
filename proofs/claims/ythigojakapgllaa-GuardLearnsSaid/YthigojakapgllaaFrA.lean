/- The contracts of matronref3: which states and frames may be, their bytes, their sums. -/
import Derived.Test.YthigojakapgllaaLists
import Derived.Test.YthigojakapgllaaFrMath
import Derived.Test.YthigojakapgllaaCrcC
namespace Go.Proofs.Ythigojakapgllaa
open Go.RowKit
open Fr (St F)

def stV (s : St) : Value := .agg #[.int .i64 s.r, .int .i64 s.s, .int .i64 s.m]
def frV (f : F) (v : Value) : Value := .agg #[.int .i64 f.k, .int .i64 f.st.r, .int .i64 f.st.s, .int .i64 f.st.m, v]

theorem may_ref (s : St) (w : World) : Calls Try.prog 32 #[stV s] w fun e w' => e = .returned (.bool s.may) ∧ Below w.heap.size w w' := by
  obtain ⟨r, s, m⟩ := s
  unfold stV
  go_enter Try.func32, Try.ntmps32
  go_wp2
  all_goals
    go_ret
    exact ⟨by simp [St.may, *] <;> omega, (Below.refl _ _).alloc (Nat.le_refl _) _⟩

theorem state_ref (s : St) (hs : s.may = true) (w : World) :
    Calls Try.prog 23 #[stV s] w fun e w' => ∃ v, e = .returned v ∧ OwnsL w' w.heap.size v s.bytes ∧ Below w.heap.size w w' := by
  obtain ⟨⟨h1, h2⟩, ⟨h3, h4⟩, h5, h6⟩ := s.may_iff.1 hs
  obtain ⟨r, s, m⟩ := s
  simp only at h1 h2 h3 h4 h5 h6
  unfold stV
  clear hs
  go_enter Try.func23, Try.ntmps23
  go_wp2
  go_ret
  exact ⟨_, rfl, owns_lit _ _ rfl _ [r / 256, r % 256, s, m] rfl _ (by simp) (by simp [maxLen]) _ _ _ (by simp) rfl rfl, ((Below.refl _ _).alloc (Nat.le_refl _) _).alloc (by simp) _⟩

/-- What a block that was there bears, behind a call. -/
theorem bcell {W w1 : World} {B : Nat} (hb : Below B W w1) : ∀ b o, b < B → w1.cell? ⟨b, o, none⟩ = W.cell? ⟨b, o, none⟩ := fun b o h => hb.cell (p := ⟨b, o, none⟩) h

/-- A new block of five cells, and what reads it behind calls. -/
structure Box5 (w w0 : World) (x0 x1 x2 x3 x4 : Value) : Prop where
  size : w0.heap.size = w.heap.size + 1
  below : Below w.heap.size w w0
  cell : ∀ W, Below w0.heap.size w0 W → w.heap.size < W.heap.size ∧ W.cell? ⟨w.heap.size, 0, none⟩ = some x0 ∧ W.cell? ⟨w.heap.size, 1, none⟩ = some x1 ∧ W.cell? ⟨w.heap.size, 2, none⟩ = some x2 ∧ W.cell? ⟨w.heap.size, 3, none⟩ = some x3 ∧ W.cell? ⟨w.heap.size, 4, none⟩ = some x4
theorem box5 (w : World) (x0 x1 x2 x3 x4 : Value) (t : TypeId) : Box5 w (w.alloc (.cells #[x0, x1, x2, x3, x4] t)) x0 x1 x2 x3 x4 := by
  refine ⟨by simp, (Below.refl _ _).alloc (Nat.le_refl _) _, fun W hb => ?_⟩
  have hz := hb.size
  have hc := bcell hb
  simp only [World.size_alloc] at hz
  refine ⟨by omega, ?_, ?_, ?_, ?_, ?_⟩ <;> (rw [hc _ _ (by simp), World.cell?_alloc_at _ _ _ _ rfl]; rfl)
structure Box3 (w w0 : World) (x0 x1 x2 : Value) : Prop where
  size : w0.heap.size = w.heap.size + 1
  below : Below w.heap.size w w0
  cell : ∀ W, Below w0.heap.size w0 W → w.heap.size < W.heap.size ∧ W.cell? ⟨w.heap.size, 0, none⟩ = some x0 ∧ W.cell? ⟨w.heap.size, 1, none⟩ = some x1 ∧ W.cell? ⟨w.heap.size, 2, none⟩ = some x2
theorem box3 (w : World) (x0 x1 x2 : Value) (t : TypeId) : Box3 w (w.alloc (.cells #[x0, x1, x2] t)) x0 x1 x2 := by
  refine ⟨by simp, (Below.refl _ _).alloc (Nat.le_refl _) _, fun W hb => ?_⟩
  have hz := hb.size
  have hc := bcell hb
  simp only [World.size_alloc] at hz
  refine ⟨by omega, ?_, ?_, ?_⟩ <;> (rw [hc _ _ (by simp), World.cell?_alloc_at _ _ _ _ rfl]; rfl)

theorem is_ref (f : F) (v : Value) (w : World) (B : Nat) (hv : SeesL w B v f.d) :
    Calls Try.prog 21 #[frV f v] w fun e w' => e = .returned (.bool f.is) ∧ Below w.heap.size w w' := by
  obtain ⟨A, c, rfl, h1, h2, -, -⟩ := hv.at_
  unfold maxLen at h2
  obtain ⟨k, ⟨r, s, m⟩, d⟩ := f
  simp only at h1
  have hm := fun W => may_ref ⟨r, s, m⟩ W
  have hr : ∀ b : Bool, b = (⟨r, s, m⟩ : St).may → F.is ⟨k, ⟨r, s, m⟩, d⟩ = (decide (1 ≤ k) && decide (k ≤ 3) && b && decide (d.length ≤ 8)) := fun b hb => by rw [hb]; rfl
  generalize (⟨r, s, m⟩ : St).may = b at *
  rw [hr b rfl]
  clear hr
  unfold frV
  generalize d.length = n at *
  by_cases h0 : 1 ≤ k <;> by_cases h3 : k ≤ 3 <;> cases b
  all_goals try (exfalso; omega)
  all_goals
    go_enter Try.func21, Try.ntmps21
    go_wp2_with (go_at_call 32; refine (hm _).mono ?_; rintro e w1 ⟨rfl, hb⟩; have hc := bcell hb; have hb := ((Below.refl w.heap.size w).alloc (Nat.le_refl _) _).trans (hb.mono (by simp)))
    go_ret
    first
      | exact ⟨by simp [*] <;> omega, hb⟩
      | exact ⟨by simp [*] <;> omega, (Below.refl _ _).alloc (Nat.le_refl _) _⟩

theorem seed_ref (s : St) (w : World) : Calls Try.prog 22 #[stV s] w fun e w' => e = .returned (.int .i64 (s.seed : Nat)) ∧ Below w.heap.size w w' := by
  have hm := fun W => may_ref s W
  have hst := fun h W => state_ref s h W
  have hsd : s.may = true → s.seed = Fr.sumL 32767 s.bytes := fun h => by rw [St.seed, if_pos h]
  have hsd0 : s.may = false → s.seed = 0 := fun h => by rw [St.seed, if_neg (by rw [h]; decide)]
  have hok : s.may = true → ∀ k, 0 ≤ s.bytes.getD k 0 ∧ s.bytes.getD k 0 < 256 := fun h k => (St.bytes_ok h).getD k
  have hsum := fun A c W B (h : Sees W B A s.bytes.length (bv s.bytes)) hz => refSum_any A s.bytes.length c B (fun k => s.bytes.getD k 0) 32767 W h hz (by simp [St.bytes, maxLen])
  have h32 : Cr.sd 32767 = 32767 := by decide
  simp only [Fr.sum_all, h32] at hsum
  cases hb : s.may
  · rw [hb] at hm
    rw [hsd0 hb]
    clear hst hsd hsd0 hok hsum h32 hb
    have hm := fun W => Lib.hid (hm W)
    unfold stV at hm ⊢
    go_enter Try.func22, Try.ntmps22
    go_wp2_with (go_at_call 32; refine (hm _).out.mono ?_; rintro e w1 ⟨rfl, hb⟩; have hb := ((Below.refl w.heap.size w).alloc (Nat.le_refl _) _).trans (hb.mono (by simp)))
    go_ret
    exact ⟨rfl, hb⟩
  · rw [hb] at hm
    have hm := fun W => Lib.hid (hm W)
    have hst := fun W => Lib.hid (hst hb W)
    have hok := Lib.hid (hok hb)
    have hsum := fun A c W B h hz => Lib.hid (hsum A c W B h hz)
    rw [hsd hb]
    generalize s.bytes = l at *
    clear hsd hsd0 h32 hb
    unfold stV at hm hst ⊢
    go_enter Try.func22, Try.ntmps22
    go_wp2_with (go_at_call 32; refine (hm _).out.mono ?_; rintro e w1 ⟨rfl, hb⟩; have hc := bcell hb; have hz := hb.size; simp only [World.size_alloc] at hz; have hb := ((Below.refl w.heap.size w).alloc (Nat.le_refl _) _).trans (hb.mono (by simp)))
    clear hm
    refine (hst _).out.mono ?_
    rintro e w2 ⟨v, rfl, ho, hb2⟩
    have hb := hb.trans (hb2.mono hb.size)
    obtain ⟨A, c, rfl, -, -, g, -⟩ := ho.sees.at_
    clear ho hst hc hb2
    go_wp2_with fail
    refine (hsum A c w2 _ g (fun k _ => hok.out k)).out.mono ?_
    rintro e w3 ⟨rfl, rfl⟩
    go_wp2
    go_ret
    exact ⟨rfl, hb⟩
end Go.Proofs.Ythigojakapgllaa
