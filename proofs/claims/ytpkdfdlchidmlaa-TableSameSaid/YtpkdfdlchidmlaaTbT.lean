/- The contract of Same. -/
import Derived.Test.YtpkdfdlchidmlaaTbS
namespace Go.Proofs.Ytpkdfdlchidmlaa
open Go.RowKit
open Tb (D T)

set_option maxRecDepth 100000 in
set_option maxHeartbeats 4000000 in
theorem equalD_any (A A' : Option Addr) (c c' : Nat) (l l' : List D) (w : World) (hs : SeesD w w.heap.size A l) (hs' : SeesD w w.heap.size A' l') (h1 : l.length ≤ c) (h2 : c ≤ maxLen) (h1' : l'.length ≤ c') (h2' : c' ≤ maxLen) :
    Calls Try.prog 34 #[.slice A l.length c, .slice A' l'.length c'] w fun e w' => e = .returned (.bool (decide (l = l'))) ∧ Below w.heap.size w w' := by
  unfold maxLen at h2 h2'
  by_cases e0 : l.length = l'.length
  rotate_left
  · have hd : decide (l = l') = false := by simp only [decide_eq_false_iff_not]; rintro rfl; exact e0 rfl
    rw [hd]
    have e2 : ¬ ((l.length : Nat) : Int) = (l'.length : Nat) := by omega
    go_enter Try.func34, Try.ntmps34
    go_wp2
    go_ret
    exact ⟨rfl, Below.refl _ _⟩
  have hE := Lib.hid e0
  rw [← e0] at h1' ⊢
  clear e0
  go_enter Try.func34, Try.ntmps34
  go_wp2
  go_loopw [13] (fun i wr => ∃ k : Nat, k ≤ l.length ∧ i = .int .i64 k ∧ Hid (l.take k = l'.take k) ∧ Below w.heap.size w wr) (fun i _ => l.length - (intOf i).toNat)
  case atStart => exact ⟨0, by omega, rfl, Lib.hid rfl, Below.refl _ _⟩
  case round =>
    obtain ⟨k, hk, rfl, heq, hbk⟩ := hrel
    by_cases hlt : k < l.length
    · obtain ⟨b1, o1, rfl, hbb1, hd1⟩ := hs.below hbk (by omega)
      obtain ⟨b2, o2, rfl, hbb2, hd2⟩ := hs'.below hbk (by have := hE.out; omega)
      obtain ⟨x0, x1, x2, x3⟩ := hd1 k hlt
      obtain ⟨y0, y1, y2, y3⟩ := hd2 k (by have := hE.out; omega)
      have q1 : decide ((k : Int) < (l.length : Nat)) = true := by simp; omega
      have p1 : (0 : Int) ≤ (k : Nat) := by omega
      have p2 : ((k : Nat) : Int) < (l.length : Nat) := by omega
      have hsn := Lib.hid (list_snoc hlt (by have := hE.out; omega) heq.out)
      generalize l.getD k default = d at *
      generalize l'.getD k default = d' at *
      obtain ⟨sy, inf, li, sz⟩ := d
      obtain ⟨sy', inf', li', sz'⟩ := d'
      simp only at x0 x1 x2 x3 y0 y1 y2 y3
      have hdc : sy ≠ sy' ∨ (sy = sy' ∧ inf ≠ inf') ∨ (sy = sy' ∧ inf = inf' ∧ li ≠ li') ∨ (sy = sy' ∧ inf = inf' ∧ li = li' ∧ sz ≠ sz') ∨ (sy = sy' ∧ inf = inf' ∧ li = li' ∧ sz = sz') := by
        by_cases a : sy = sy' <;> by_cases b : inf = inf' <;> by_cases c : li = li' <;> by_cases d : sz = sz' <;> simp [a, b, c, d]
      clear hd1 hd2 hs hs'
      rcases hdc with f1 | ⟨f0, f1⟩ | ⟨f0, f0', f1⟩ | ⟨f0, f0', f0'', f1⟩ | ⟨rfl, rfl, rfl, rfl⟩
      case' inr.inr.inr.inr => have hfin := Lib.hid (hsn.out.1 rfl)
      case' inl => have hne : l ≠ l' := fun e => by have := hsn.out.2 (by rw [e]); simp [f1] at this
      case' inr.inl => have hne : l ≠ l' := fun e => by have := hsn.out.2 (by rw [e]); simp [f1] at this
      case' inr.inr.inl => have hne : l ≠ l' := fun e => by have := hsn.out.2 (by rw [e]); simp [f1] at this
      case' inr.inr.inr.inl => have hne : l ≠ l' := fun e => by have := hsn.out.2 (by rw [e]); simp [f1] at this
      case inr.inr.inr.inr =>
        go_wp2_with fail
        go_quiet (fail)
        go_wp2
        go_roundw
        case rel => exact ⟨k + 1, by omega, by go_num, hfin, below_drewN hbk _⟩
        case measure => simp [intOf]; omega
      all_goals
        have hne := Lib.hid hne
        (try subst f0)
        (try subst f0')
        (try subst f0'')
        go_wp2_with fail
        go_quiet (fail)
        go_wp2
        go_ret
        exact ⟨by simp [hne.out], below_drewN hbk _⟩
    · obtain rfl : k = l.length := by omega
      have q1 : decide ((l.length : Int) < (l.length : Nat)) = false := by simp
      have hfin : l = l' := by
        have := heq.out
        rwa [List.take_length, hE.out, List.take_length] at this
      have hfin := Lib.hid hfin
      go_wp2
      go_ret
      exact ⟨by simp [← hfin.out], hbk⟩

set_option maxRecDepth 100000 in
set_option maxHeartbeats 4000000 in
theorem same_tb (a b : T) (va vb : Value) (w : World) (B : Nat) (hB : B ≤ w.heap.size) (ha : SeesT w B va a.ns) (hb : SeesT w B vb b.ns) :
    Calls Try.prog 25 #[tabV a va, tabV b vb] w fun e w' => e = .returned (.bool (decide (a = b))) ∧ Below w.heap.size w w' := by
  obtain ⟨A, c, rfl, c1, c2, c3, -⟩ := ha.at_
  obtain ⟨A', c', rfl, c1', c2', c3', -⟩ := hb.at_
  obtain ⟨l, dr, wi, lm⟩ := a
  obtain ⟨l', dr', wi', lm'⟩ := b
  simp only at c1 c1' c3 c3'
  unfold tabV
  simp only
  have hE := fun W (hbw : Below w.heap.size w W) => equalD_any A A' c c' l l' W (((c3.more hB).below hbw).more hbw.size) (((c3'.more hB).below hbw).more hbw.size) c1 c2 c1' c2'
  have hd : decide ((⟨l, dr, wi, lm⟩ : T) = ⟨l', dr', wi', lm'⟩) = (decide (l = l') && (decide (dr = dr') && (decide (wi = wi') && decide (lm = lm')))) := by
    rw [Bool.eq_iff_iff]; simp
  rw [hd]
  generalize decide (l = l') = q at *
  have hE := fun W hb => Lib.hid (hE W hb)
  have hbb := ((Below.refl w.heap.size w).alloc (Nat.le_refl _) (.cells #[.slice A l.length c, .int .i64 dr, .int .i64 wi, .int .i64 lm] 24)).alloc (by simp) (.cells #[.slice A' l'.length c', .int .i64 dr', .int .i64 wi', .int .i64 lm'] 24)
  have hT1 := (Blk.new w _ rfl #[.slice A l.length c, .int .i64 dr, .int .i64 wi, .int .i64 lm] 24).alloc (.cells #[.slice A' l'.length c', .int .i64 dr', .int .i64 wi', .int .i64 lm'] 24)
  have hT2 := Blk.new (w.alloc (.cells #[.slice A l.length c, .int .i64 dr, .int .i64 wi, .int .i64 lm] 24)) (w.heap.size + 1) (by simp) #[.slice A' l'.length c', .int .i64 dr', .int .i64 wi', .int .i64 lm'] 24
  generalize l.length = n at *
  generalize l'.length = n' at *
  clear hd c3 c3' c1 c1' c2 c2' ha hb
  have hcase : q = false ∨ (q = true ∧ dr ≠ dr') ∨ (q = true ∧ dr = dr' ∧ wi ≠ wi') ∨ (q = true ∧ dr = dr' ∧ wi = wi' ∧ lm ≠ lm') ∨ (q = true ∧ dr = dr' ∧ wi = wi' ∧ lm = lm') := by
    cases q
    · exact .inl rfl
    · right; simp only [true_and]; omega
  rcases hcase with rfl | ⟨rfl, e1⟩ | ⟨rfl, rfl, e1⟩ | ⟨rfl, rfl, rfl, e1⟩ | ⟨rfl, rfl, rfl, rfl⟩
  all_goals
    go_enter Try.func25, Try.ntmps25
    go_wp2_with fail
    refine (hE _ hbb).out.mono ?_
    rintro e w1 ⟨rfl, hb1⟩
    have t1 := hT1.below hb1 hT1.lt
    have t2 := hT2.below hb1 hT2.lt
    have x1 := t1.cell 1 rfl
    have x2 := t1.cell 2 rfl
    have x3 := t1.cell 3 rfl
    have y1 := t2.cell 1 rfl
    have y2 := t2.cell 2 rfl
    have y3 := t2.cell 3 rfl
    have hbf := hbb.trans (hb1.mono hbb.size)
    clear t1 t2 hT1 hT2 hE
    go_wp2
    go_ret
    exact ⟨by simp [*], hbf⟩
end Go.Proofs.Ytpkdfdlchidmlaa
