/- The contract of matronref1.Turn over rows of pairs. -/
import Derived.Test.YtbjojpcgigoenaaLineO
import Derived.Laws.AppendOwnNone
namespace Go.Proofs.Ytbjojpcgigoenaa
open Go.RowKit

theorem Owns2.formN {w : World} {B n : Nat} {e : TypeId} {v : Value} {V : Nat → Value} (h : Owns2 w B e v n V) : ∃ A c, v = .slice A n c ∧ n ≤ c ∧ c ≤ maxLen ∧ Sees w w.heap.size A (2 * n) V ∧ (A = none → n = 0 ∧ c = 0) := by
  obtain ⟨A, c, rfl, h1, h2, h3⟩ := Owns2.form h
  refine ⟨A, c, rfl, h1, h2, h3, fun hA => ?_⟩
  subst hA
  rcases h.2 with ⟨h4, _⟩ | ⟨g, cap, cur, h4, _⟩
  · simp only [Value.slice.injEq] at h4
    exact ⟨h4.2.1, h4.2.2⟩
  · cases h4
theorem Owns2.at_ {w : World} {B n : Nat} {e : TypeId} {v : Value} {V : Nat → Value} (h : Owns2 w B e v n V) (h0 : 0 < n) : ∃ g c, v = .slice (some ⟨g, 0, none⟩) n c ∧ B ≤ g := by
  rcases h.2 with ⟨_, h2⟩ | ⟨g, cap, cur, h1, h2, _⟩
  · omega
  · exact ⟨g, cap, h1, h2⟩

/-- A whole slice of pairs is appended to an empty one. -/
theorem wpList_appendAll2 {P : Program} (w : World) {ops : Array Oper} {rest : List Oper} {o : Oper} {a : Act} {Q : Exit → Act → World → Prop} (hgd : o.guard = none) (s x : Operand) (t : TypeId)
    (ho : o.op = .call { callee := .builtin .append, args := #[s, x], argTypes := #[t, t] })
    (B : Nat) (e : TypeId) (z : Value) (bytes : Nat) (hinf : (P.info? e).map (fun i => (i.zero, i.size, i.bytes)) = some (some z, 2, bytes)) (hzs : z.cells.size = 2) (ht : P.underlying t = some (.slice e))
    (v : Value) (W : World) (hown : w.ownsRow B e 2 v 0 []) (hbel : Below B W w) (hs : a.eval s = v)
    (Bs : Nat) (A : Option Addr) (m c : Nat) (U : Nat → Value) (hx : a.eval x = .slice A m c) (hnil : A = none → m = 0 ∧ c = 0) (hsee : Sees w Bs A (2 * m) U) (hU : ∀ k, k < m * 2 → (U k).oneCell' = true)
    (hB : B ≤ w.heap.size) (h63 : m ≤ maxLen) (hroom : m * bytes ≤ 140737488355328)
    (h : ∀ v' w', Owns2 w' B e v' m U → Below B W w' → wpList P ops Q rest (a.put o.dst v') w') : wpList P ops Q (o :: rest) a w := by
  obtain ⟨i0, hi, hz0, hz1, hz2⟩ := info_parts hinf
  cases A with
  | none =>
    obtain ⟨rfl, rfl⟩ := hnil rfl
    refine wpList_append_own_none hgd s x t ho B e i0 2 ht hi v 0 _ hs hown hx ?_
    exact h v w hown hbel
  | some ad =>
    refine wpList_append_own _ hgd s x t ho B e i0 z 2 bytes ht hi hz0 hz1 hz2 hzs (by omega) v 0 _ hs hown ad m c ((List.range (m * 2)).map U) hx (by simp) ?_ ?_ (by omega) (by rw [Nat.zero_add]; exact hroom) hB ?_
    · intro j u hj
      rw [List.getElem?_map] at hj
      by_cases hjm : j < m * 2
      · rw [List.getElem?_range hjm] at hj
        simp at hj
        subst hj
        obtain ⟨b, off, he, _, hc⟩ := hsee (by omega)
        simp only [Option.some.injEq] at he
        subst he
        have := hc j (by omega)
        by_cases h1 : j = 0
        · subst h1; simpa [Addr.add] using this
        · simpa [Addr.add, h1] using this
      · rw [List.getElem?_eq_none (by simpa using hjm)] at hj
        cases hj
    · intro u hu
      obtain ⟨k, hk, rfl⟩ := List.mem_map.1 hu
      exact hU k (List.mem_range.1 hk)
    · intro v' w' h1 h2 h3
      rw [Nat.zero_add, List.nil_append] at h1
      exact h v' w' h1 (hbel.grown h2 hB (fun g h => (World.ownsRow.lt hown g h).1))

set_option maxRecDepth 100000 in
set_option maxHeartbeats 2000000 in
theorem refTurn_any (A : Option Addr) (n c : Nat) (a b : Nat → Int) (t : Int) (w : World) (h : Sees w w.heap.size A (2 * n) (prs a b)) (hnil : A = none → n = 0 ∧ c = 0) (hs : ∀ k, (-9 ≤ a k ∧ a k ≤ 9) ∧ (-9 ≤ b k ∧ b k ≤ 9)) (ht : -9223372036854775808 ≤ t ∧ t ≤ 9223372036854775807) (hn : n ≤ 100000) :
    Calls Try.prog 23 #[.slice A n c, .int .i64 t] w fun e w' =>
      ∃ v, e = .returned v ∧ Owns2 w' w.heap.size 59 v n (prs (turned t a) (turned t b)) ∧ Below w.heap.size w w' := by
  have hnil' := Lib.hid hnil
  clear hnil
  have hone : ∀ k, k < n * 2 → (prs a b k).oneCell' = true := fun _ _ => rfl
  by_cases h0 : 0 ≤ t
  case' pos => by_cases h1 : t < n
  all_goals
    go_enter Try.func23, Try.ntmps23
    go_wp2_with (at_builtin; go_loud (refine wpList_appendAll2 _ rfl _ _ 23 rfl w.heap.size 59 (.agg #[.int .i64 0, .int .i64 0]) 16 infoPair rfl Try.underlying23 _ w (World.ownsRow_made w #[] 0 (Nat.le_refl _) (by unfold maxLen; omega) rfl) ((Below.refl _ _).alloc (Nat.le_refl _) _) rfl w.heap.size A n c _ rfl hnil'.out (h.below ((Below.refl _ _).alloc (Nat.le_refl _) _)) hone (by simp) (by unfold maxLen; omega) (by omega) ?_))
    intro v w1 ho1 hb1
  · obtain ⟨T, rfl⟩ := Int.eq_ofNat_of_zero_le h0
    have hT : T < n := by omega
    obtain ⟨g, c1, rfl, hg⟩ := ho1.at_ (by omega)
    have v0 := ho1.cells (k := T * 2) (by omega)
    have v1 := ho1.cells (k := T * 2 + 1) (by omega)
    rw [prs_even] at v0
    rw [prs_odd] at v1
    have u0 := ho1.frozen (T * 2)
    have u1 := ho1.frozen (T * 2 + 1)
    have hsT := hs T
    have r0 : IntKind.i64.wrap (-a T) = -a T := IntWalk.i64_in _ (by omega)
    have r1 : IntKind.i64.wrap (-b T) = -b T := IntWalk.i64_in _ (by omega)
    have ho2 := ho1.set_ (V' := prs (turned (T : Int) a) (turned (T : Int) b)) T (.int .i64 (-a T)) (.int .i64 (-b T)) (by rw [prs_even]; simp [turned]) (by rw [prs_odd]; simp [turned]) (fun i _ h0 h1 => by
      have : ¬ ((i / 2 : Nat) : Int) = (T : Int) := by omega
      exact prs_alike (by simp only [turned]; rw [if_neg this]) (by simp only [turned]; rw [if_neg this]))
    have hb2 := ((hb1.setCell (p := ⟨g, T * 2, none⟩) hg (.int .i64 (-a T))).setCell (p := ⟨g, T * 2 + 1, none⟩) hg (.int .i64 (-b T))).drew
    have d0 : decide ((0 : Int) ≤ (T : Int)) = true := by simp
    have d1 : decide (T < n) = true := by simp; omega
    have d2 : (T : Int) < n := by omega
    clear ho1 hb1 hsT h0 h1
    go_wp2_with fail
    go_still_tail 16, (by kernel_rfl)
    go_wp2
    go_ret
    exact ⟨_, rfl, ho2, hb2⟩
  · obtain ⟨A1, c1, rfl, -⟩ := ho1.form
    have d0 : decide (0 ≤ t) = true := by simp; omega
    have d1 : decide (t < (n : Int)) = false := by simp; omega
    have ho2 := ho1.alike (V' := prs (turned t a) (turned t b)) (fun i hi => by
      have : ¬ ((i / 2 : Nat) : Int) = t := by omega
      exact prs_alike (by simp only [turned]; rw [if_neg this]) (by simp only [turned]; rw [if_neg this]))
    clear ho1
    go_wp2
    go_ret
    exact ⟨_, rfl, ho2, hb1⟩
  · obtain ⟨A1, c1, rfl, -⟩ := ho1.form
    have d0 : decide (0 ≤ t) = false := by simp; omega
    have ho2 := ho1.alike (V' := prs (turned t a) (turned t b)) (fun i hi => by
      have : ¬ ((i / 2 : Nat) : Int) = t := by omega
      exact prs_alike (by simp only [turned]; rw [if_neg this]) (by simp only [turned]; rw [if_neg this]))
    clear ho1
    go_wp2
    go_ret
    exact ⟨_, rfl, ho2, hb1⟩
end Go.Proofs.Ytbjojpcgigoenaa
