/- The contract of the reference's Same. -/
import Derived.Test.YtmddokenjdlgfaaBlk
namespace Go.Proofs.Ytmddokenjdlgfaa
open Go.RowKit
open Tb (D T)

theorem list_snoc {l m : List D} {k : Nat} (hk : k < l.length) (hm : k < m.length) (h : l.take k = m.take k) : (l.getD k default = m.getD k default) ↔ l.take (k + 1) = m.take (k + 1) := by
  rw [List.take_add_one, List.take_add_one, List.getElem?_eq_getElem hk, List.getElem?_eq_getElem hm, h]
  simp only [List.getD_eq_getElem?_getD, List.getElem?_eq_getElem hk, List.getElem?_eq_getElem hm, Option.getD_some, Option.toList_some]
  constructor
  · intro e; rw [e]
  · intro e; exact (List.cons.inj (List.append_cancel_left e)).1

set_option maxRecDepth 100000 in
set_option maxHeartbeats 4000000 in
theorem same_rf (a b : T) (va vb : Value) (w : World) (B : Nat) (hB : B ≤ w.heap.size) (ha : SeesT w B va a.ns) (hb : SeesT w B vb b.ns) :
    Calls Try.prog 22 #[tabV a va, tabV b vb] w fun e w' => e = .returned (.bool (decide (a = b))) ∧ Below w.heap.size w w' := by
  obtain ⟨A, c, rfl, c1, c2, c3, -⟩ := ha.at_
  obtain ⟨A', c', rfl, c1', c2', c3', -⟩ := hb.at_
  obtain ⟨l, dr, wi, lm⟩ := a
  obtain ⟨l', dr', wi', lm'⟩ := b
  simp only at c1 c1' c3 c3'
  have c3 := c3.more hB
  have c3' := c3'.more hB
  unfold maxLen at c2 c2'
  unfold tabV
  simp only
  have hbb := ((Below.refl w.heap.size w).alloc (Nat.le_refl _) (.cells #[.slice A l.length c, .int .i64 dr, .int .i64 wi, .int .i64 lm] 24)).alloc (by simp) (.cells #[.slice A' l'.length c', .int .i64 dr', .int .i64 wi', .int .i64 lm'] 24)
  have hcase : l.length ≠ l'.length ∨ (l.length = l'.length ∧ dr ≠ dr') ∨ (l.length = l'.length ∧ dr = dr' ∧ wi ≠ wi') ∨ (l.length = l'.length ∧ dr = dr' ∧ wi = wi' ∧ lm ≠ lm') ∨ (l.length = l'.length ∧ dr = dr' ∧ wi = wi' ∧ lm = lm') := by omega
  rcases hcase with e1 | ⟨e0, e1⟩ | ⟨e0, rfl, e1⟩ | ⟨e0, rfl, rfl, e1⟩ | ⟨e0, rfl, rfl, rfl⟩
  · have hd : decide ((⟨l, dr, wi, lm⟩ : T) = ⟨l', dr', wi', lm'⟩) = false := by
      simp only [decide_eq_false_iff_not, T.mk.injEq]; rintro ⟨rfl, -⟩; exact e1 rfl
    rw [hd]
    have e2 : ¬ ((l.length : Nat) : Int) = (l'.length : Nat) := by omega
    go_enter Try.func22, Try.ntmps22
    go_wp2
    go_ret
    exact ⟨by simp, hbb⟩
  · have hd : decide ((⟨l, dr, wi, lm⟩ : T) = ⟨l', dr', wi', lm'⟩) = false := by simp [e1]
    rw [hd]
    rw [← e0] at hbb ⊢
    clear e0
    go_enter Try.func22, Try.ntmps22
    go_wp2
    go_ret
    exact ⟨by simp, hbb⟩
  · have hd : decide ((⟨l, dr, wi, lm⟩ : T) = ⟨l', dr, wi', lm'⟩) = false := by simp [e1]
    rw [hd]
    rw [← e0] at hbb ⊢
    clear e0
    go_enter Try.func22, Try.ntmps22
    go_wp2
    go_ret
    exact ⟨by simp, hbb⟩
  · have hd : decide ((⟨l, dr, wi, lm⟩ : T) = ⟨l', dr, wi, lm'⟩) = false := by simp [e1]
    rw [hd]
    rw [← e0] at hbb ⊢
    clear e0
    go_enter Try.func22, Try.ntmps22
    go_wp2
    go_ret
    exact ⟨by simp, hbb⟩
  · have hd : decide ((⟨l, dr, wi, lm⟩ : T) = ⟨l', dr, wi, lm⟩) = decide (l = l') := by simp
    rw [hd]
    rw [← e0] at hbb c1' ⊢
    have hE := Lib.hid e0
    have hT1 := (Blk.new w _ rfl #[.slice A l.length c, .int .i64 dr, .int .i64 wi, .int .i64 lm] 24).alloc (.cells #[.slice A' l.length c', .int .i64 dr, .int .i64 wi, .int .i64 lm] 24)
    have hT2 := Blk.new (w.alloc (.cells #[.slice A l.length c, .int .i64 dr, .int .i64 wi, .int .i64 lm] 24)) (w.heap.size + 1) (by simp) #[.slice A' l.length c', .int .i64 dr, .int .i64 wi, .int .i64 lm] 24
    clear e0 hd
    go_enter Try.func22, Try.ntmps22
    go_wp2
    generalize (w.alloc (.cells #[.slice A l.length c, .int .i64 dr, .int .i64 wi, .int .i64 lm] 24)).alloc (.cells #[.slice A' l.length c', .int .i64 dr, .int .i64 wi, .int .i64 lm] 24) = w0 at *
    go_loopw [5] (fun i wr => ∃ k : Nat, k ≤ l.length ∧ i = .int .i64 k ∧ Hid (l.take k = l'.take k) ∧ Below w0.heap.size w0 wr) (fun i _ => l.length - (intOf i).toNat)
    case atStart => exact ⟨0, by omega, rfl, Lib.hid rfl, Below.refl _ _⟩
    case round =>
      obtain ⟨k, hk, rfl, heq, hbk⟩ := hrel
      have hbw := hbb.trans (hbk.mono hbb.size)
      have t1 := (hT1.below hbk hT1.lt).cell 0 rfl
      have t2 := (hT2.below hbk hT2.lt).cell 0 rfl
      by_cases hlt : k < l.length
      · obtain ⟨b1, o1, rfl, hbb1, hd1⟩ := c3.below hbw (by omega)
        obtain ⟨b2, o2, rfl, hbb2, hd2⟩ := c3'.below hbw (by have := hE.out; omega)
        obtain ⟨x0, x1, x2, x3⟩ := hd1 k hlt
        obtain ⟨y0, y1, y2, y3⟩ := hd2 k (by have := hE.out; omega)
        have q1 : decide ((k : Int) < (l.length : Nat)) = true := by simp; omega
        have p1 : (0 : Int) ≤ (k : Nat) := by omega
        have p2 : ((k : Nat) : Int) < (l.length : Nat) := by omega
        have hsn := Lib.hid (list_snoc hlt (by have := hE.out; omega) heq.out)
        generalize l.getD k default = d at *
        generalize l'.getD k default = d' at *
        obtain ⟨sy, inf, li, sz⟩ := d
        obtain ⟨sy', inf', li', sz'⟩ := d'
        simp only at x0 x1 x2 x3 y0 y1 y2 y3
        have hdc : sy ≠ sy' ∨ (sy = sy' ∧ inf ≠ inf') ∨ (sy = sy' ∧ inf = inf' ∧ li ≠ li') ∨ (sy = sy' ∧ inf = inf' ∧ li = li' ∧ sz ≠ sz') ∨ (sy = sy' ∧ inf = inf' ∧ li = li' ∧ sz = sz') := by
          by_cases a : sy = sy' <;> by_cases b : inf = inf' <;> by_cases c : li = li' <;> by_cases d : sz = sz' <;> simp [a, b, c, d]
        clear hd1 hd2 c3 c3' hT1 hT2
        rcases hdc with f1 | ⟨f0, f1⟩ | ⟨f0, f0', f1⟩ | ⟨f0, f0', f0'', f1⟩ | ⟨rfl, rfl, rfl, rfl⟩
        case' inr.inr.inr.inr => have hfin := Lib.hid (hsn.out.1 rfl)
        case' inl => have hne : l ≠ l' := fun e => by have := hsn.out.2 (by rw [e]); simp [f1] at this
        case' inr.inl => have hne : l ≠ l' := fun e => by have := hsn.out.2 (by rw [e]); simp [f1] at this
        case' inr.inr.inl => have hne : l ≠ l' := fun e => by have := hsn.out.2 (by rw [e]); simp [f1] at this
        case' inr.inr.inr.inl => have hne : l ≠ l' := fun e => by have := hsn.out.2 (by rw [e]); simp [f1] at this
        case inr.inr.inr.inr =>
          go_wp2_with fail
          go_quiet (fail)
          go_wp2
          exact ⟨⟨k + 1, by omega, by go_num, hfin, below_drewN hbk _⟩, by simp [intOf]; omega⟩
        all_goals
          have hne := Lib.hid hne
          (try subst f0)
          (try subst f0')
          (try subst f0'')
          go_wp2_with fail
          go_quiet (fail)
          go_wp2
          go_ret
          exact ⟨by simp [hne.out], below_drewN hbw _⟩
      · obtain rfl : k = l.length := by omega
        have q1 : decide ((l.length : Int) < (l.length : Nat)) = false := by simp
        have hfin : l = l' := by
          have := heq.out
          rwa [List.take_length, hE.out, List.take_length] at this
        have hfin := Lib.hid hfin
        go_wp2
        go_ret
        exact ⟨by simp [← hfin.out], hbw⟩
end Go.Proofs.Ytmddokenjdlgfaa
