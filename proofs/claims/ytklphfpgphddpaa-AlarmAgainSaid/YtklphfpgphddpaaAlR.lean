/- Rules in memory: seen, and the call's own; their clone. No condition. -/
import Derived.Test.YtklphfpgphddpaaAlM
namespace Go.Proofs.Ytklphfpgphddpaa
open Go.RowKit

instance : Inhabited R4 := ⟨⟨0, 0, 0, 0⟩⟩
/-- The cells of a rule. -/
def rc (r : R4) : List Value := [.int .i64 r.n, .int .i64 r.lo, .int .i64 r.hi, .int .i64 r.st]
/-- What lies at a rule's four places. -/
structure AtRl (w : World) (b off : Nat) (d : R4) : Prop where
  c0 : w.cell? ⟨b, off, none⟩ = some (.int .i64 d.n)
  c1 : w.cell? ⟨b, off + 1, none⟩ = some (.int .i64 d.lo)
  c2 : w.cell? ⟨b, off + 2, none⟩ = some (.int .i64 d.hi)
  c3 : w.cell? ⟨b, off + 3, none⟩ = some (.int .i64 d.st)
def SeesRq (w : World) (B : Nat) (A : Option Addr) (l : List R4) : Prop :=
  0 < l.length → ∃ b off, A = some ⟨b, off, none⟩ ∧ b < B ∧ ∀ k, k < l.length → AtRl w b (off + k * 4) (l.getD k default)
/-- A slice of these rules, nil told. -/
structure SeesRs (w : World) (B : Nat) (v : Value) (l : List R4) : Prop where
  at_ : ∃ A c, v = .slice A l.length c ∧ l.length ≤ c ∧ c ≤ maxLen ∧ SeesRq w B A l ∧ (A = none → l.length = 0 ∧ c = 0)
def OwnsRl (w : World) (base : Nat) (v : Value) (l : List R4) : Prop := w.ownsRow base 23 4 v l.length (l.flatMap rc)

section
variable {w w' : World} {B B' Bs : Nat} {A : Option Addr} {v : Value} {l m : List R4}
theorem AtRl.keep {b off : Nat} {d : R4} (h : AtRl w b off d) (hk : ∀ o, w'.cell? ⟨b, o, none⟩ = w.cell? ⟨b, o, none⟩) : AtRl w' b off d :=
  ⟨(hk _).trans h.c0, (hk _).trans h.c1, (hk _).trans h.c2, (hk _).trans h.c3⟩
theorem SeesRq.keep (h : SeesRq w B A l) (hk : ∀ b o, b < B → w'.cell? ⟨b, o, none⟩ = w.cell? ⟨b, o, none⟩) : SeesRq w' B A l := fun h0 => by
  obtain ⟨b, off, e, hb, hc⟩ := h h0
  exact ⟨b, off, e, hb, fun k hlt => (hc k hlt).keep fun o => hk b o hb⟩
theorem SeesRq.below (h : SeesRq w B A l) (hb : Below B w w') : SeesRq w' B A l := h.keep fun b o hp => hb.cell (p := ⟨b, o, none⟩) hp
theorem SeesRq.more (h : SeesRq w B A l) (hB : B ≤ B') : SeesRq w B' A l := fun h0 => by
  obtain ⟨b, off, e, hb, hc⟩ := h h0
  exact ⟨b, off, e, by omega, hc⟩
theorem SeesRq.drew (h : SeesRq w B A l) : SeesRq w.drew B A l := h.keep fun _ _ _ => rfl
theorem SeesRq.nil : SeesRq w B A [] := fun h => absurd h (by simp)
theorem SeesRs.below (h : SeesRs w B v l) (hb : Below B w w') : SeesRs w' B v l := ⟨by
  obtain ⟨A, c, rfl, h1, h2, h3, h4⟩ := h.at_
  exact ⟨A, c, rfl, h1, h2, h3.below hb, h4⟩⟩
theorem SeesRs.more (h : SeesRs w B v l) (hB : B ≤ B') : SeesRs w B' v l := ⟨by
  obtain ⟨A, c, rfl, h1, h2, h3, h4⟩ := h.at_
  exact ⟨A, c, rfl, h1, h2, h3.more hB, h4⟩⟩
theorem SeesRs.drew (h : SeesRs w B v l) : SeesRs w.drew B v l := ⟨by
  obtain ⟨A, c, rfl, h1, h2, h3, h4⟩ := h.at_
  exact ⟨A, c, rfl, h1, h2, h3.drew, h4⟩⟩
theorem SeesRs.nil : SeesRs w B (.slice none 0 0) [] := ⟨none, 0, rfl, Nat.le_refl _, Nat.zero_le _, SeesRq.nil, fun _ => ⟨rfl, rfl⟩⟩
theorem rcs_getD (l : List R4) (k : Nat) (hk : k < l.length) (j : Nat) (hj : j < 4) : (l.flatMap rc)[k * 4 + j]? = (rc (l.getD k default))[j]? := by
  induction l generalizing k with
  | nil => simp at hk
  | cons d l ih =>
    have h4 : (rc d).length = 4 := rfl
    rw [List.flatMap_cons]
    cases k with
    | zero => rw [List.getElem?_append_left (by omega)]; simp
    | succ k =>
      rw [List.getElem?_append_right (by omega), h4, show (k + 1) * 4 + j - 4 = k * 4 + j by omega, ih k (by simpa using hk)]
      simp
theorem rcs_length (l : List R4) : (l.flatMap rc).length = l.length * 4 := by
  induction l with
  | nil => rfl
  | cons d l ih => rw [List.flatMap_cons, List.length_append, ih]; simp [rc]; omega
theorem OwnsRl.atD {g n c : Nat} (h : OwnsRl w Bs (.slice (some ⟨g, 0, none⟩) n c) l) (hn : n = l.length) (k : Nat) (hk : k < l.length) : AtRl w g (k * 4) (l.getD k default) := by
  subst hn
  have e := fun j (hj : j < 4) => (World.ownsRow.cellAt h (k * 4 + j) (by omega)).trans (rcs_getD l k hk j hj)
  exact ⟨by have := e 0 (by omega); rw [Nat.add_zero] at this; exact this, e 1 (by omega), e 2 (by omega), e 3 (by omega)⟩
theorem OwnsRl.form (h : OwnsRl w Bs v l) : (v = .slice none 0 0 ∧ l.length = 0) ∨ ∃ g c, v = .slice (some ⟨g, 0, none⟩) l.length c ∧ Bs ≤ g ∧ g < w.heap.size ∧ l.length ≤ c ∧ c ≤ maxLen := by
  rcases h.2 with h1 | ⟨g, cap, cur, h1, h2, h3, h4, h5, -⟩
  · exact .inl h1
  · exact .inr ⟨g, cap, h1, h2, (Array.getElem?_eq_some_iff.1 h3).1, h4, h5⟩
theorem OwnsRl.sees (h : OwnsRl w Bs v l) : SeesRs w w.heap.size v l := ⟨by
  rcases h.form with ⟨rfl, h0⟩ | ⟨g, c, rfl, h1, h2, h3, h4⟩
  · exact ⟨none, 0, by rw [h0], by omega, by unfold maxLen; omega, fun h => absurd h (by omega), fun _ => ⟨h0, rfl⟩⟩
  · exact ⟨_, c, rfl, h3, h4, fun _ => ⟨g, 0, rfl, h2, fun k hk => by rw [Nat.zero_add]; exact OwnsRl.atD h rfl k hk⟩, fun h => by cases h⟩⟩
theorem OwnsRl.drew (h : OwnsRl w Bs v l) : OwnsRl w.drew Bs v l := h
theorem OwnsRl.nil : OwnsRl w Bs (.slice none 0 0) [] := World.ownsRow_nil _ _ _ _
theorem OwnsRl.base (h : OwnsRl w Bs v l) (hB : B ≤ Bs) : OwnsRl w B v l := by
  refine ⟨h.1, ?_⟩
  rcases h.2 with h | ⟨g, cap, cur, h1, h2, h3⟩
  · exact .inl h
  · exact .inr ⟨g, cap, cur, h1, by omega, h3⟩
theorem OwnsRl.below (h : OwnsRl w Bs v l) (hb : Below B' w w') (hB : w.heap.size ≤ B') : OwnsRl w' Bs v l :=
  World.ownsRow.kept (row := none) h ⟨hb.os, hb.tape, hb.output, hb.size, fun k hk _ => hb.block k (by omega)⟩ (by
    rcases h.2 with ⟨rfl, _⟩ | ⟨g, cap, cur, rfl, _⟩
    · exact .inl rfl
    · exact .inr (by simp [Value.ownBlock]))
theorem OwnsRl.alloc (h : OwnsRl w Bs v l) (o : Obj) : OwnsRl (w.alloc o) Bs v l := World.ownsRow.alloc h o
end

theorem info_rule : (Try.prog.info? 23).map (fun i => (i.zero, i.size, i.bytes)) = some (some (.agg #[.int .i64 0, .int .i64 0, .int .i64 0, .int .i64 0]), 4, 32) := by kernel_rfl
theorem SeesRs.src {w : World} {B : Nat} {u : Value} {m : List R4} (h : SeesRs w B u m) : Src w u 4 m.length (m.flatMap rc) := by
  obtain ⟨A, c, rfl, -, -, h3, h4⟩ := h.at_
  cases A with
  | none =>
    obtain ⟨h5, h6⟩ := h4 rfl
    subst h6
    have := List.length_eq_zero_iff.1 h5
    subst this
    exact .inl ⟨rfl, rfl, rfl⟩
  | some ad =>
    refine .inr ⟨ad, c, rfl, rcs_length m, fun j x hj => ?_, fun x hx => ?_⟩
    · by_cases hjm : j < m.length * 4
      · obtain ⟨b, off, he, _, hc⟩ := h3 (by omega)
        simp only [Option.some.injEq] at he
        subst he
        have h6 := hc (j / 4) (by omega)
        have e1 := rcs_getD m (j / 4) (by omega) (j % 4) (by omega)
        rw [show j / 4 * 4 + j % 4 = j by omega, hj] at e1
        have e2 : w.cell? ⟨b, off + j, none⟩ = (rc (m.getD (j / 4) default))[j % 4]? := by
          rcases (by omega : j % 4 = 0 ∨ j % 4 = 1 ∨ j % 4 = 2 ∨ j % 4 = 3) with h | h | h | h <;> rw [h]
          · rw [show off + j = off + j / 4 * 4 by omega]; exact h6.c0
          · rw [show off + j = off + j / 4 * 4 + 1 by omega]; exact h6.c1
          · rw [show off + j = off + j / 4 * 4 + 2 by omega]; exact h6.c2
          · rw [show off + j = off + j / 4 * 4 + 3 by omega]; exact h6.c3
        rw [← e1] at e2
        by_cases h1 : j = 0
        · subst h1; simpa [Addr.add] using e2
        · simpa [Addr.add, h1] using e2
      · rw [List.getElem?_eq_none (by rw [rcs_length]; omega)] at hj
        cases hj
    · obtain ⟨r, -, hr⟩ := List.mem_flatMap.1 hx
      simp only [rc, List.mem_cons, List.not_mem_nil, or_false] at hr
      rcases hr with rfl | rfl | rfl | rfl <;> rfl
theorem owns_emptyr (w : World) (e : TypeId) (he : e = 23) (B g : Nat) (hB : B ≤ w.heap.size) (hg : g = w.heap.size) : OwnsRl (w.alloc (.cells #[] e)) B (.slice (some ⟨g, 0, none⟩) 0 0) [] := by
  subst he hg
  exact World.ownsRow_made w #[] 0 hB (by unfold maxLen; omega) rfl
theorem OwnsRl.joined {w : World} {B : Nat} {v : Value} {l m : List R4} (h : w.ownsRow B 23 4 v (l.length + m.length) (l.flatMap rc ++ m.flatMap rc)) : OwnsRl w B v (l ++ m) := by
  unfold OwnsRl
  rw [List.length_append, List.flatMap_append]
  exact h
theorem SeesRs.alloc {w : World} {B : Nat} {v : Value} {l : List R4} (h : SeesRs w B v l) (o : Obj) : SeesRs (w.alloc o) B v l := ⟨by
  obtain ⟨A, c, rfl, h1, h2, h3, h4⟩ := h.at_
  refine ⟨A, c, rfl, h1, h2, fun h0 => ?_, h4⟩
  obtain ⟨b, off, e, hb, hc⟩ := h3 h0
  exact ⟨b, off, e, hb, fun k hk => ⟨Lib.cell?_alloc_some o (hc k hk).c0, Lib.cell?_alloc_some o (hc k hk).c1, Lib.cell?_alloc_some o (hc k hk).c2, Lib.cell?_alloc_some o (hc k hk).c3⟩⟩⟩
theorem rules_room {n m : Nat} (h : n + m ≤ 100000) : n + m ≤ maxLen ∧ (n + m) * 32 ≤ 140737488355328 := ⟨by unfold maxLen; omega, by omega⟩
set_option maxRecDepth 100000 in
set_option maxHeartbeats 4000000 in
/-- slices.Clone of rules. -/
theorem clone_rl (l : List R4) (v : Value) (w : World) (B : Nat) (hv : SeesRs w B v l) (h4 : l.length ≤ 1000) :
    Calls Try.prog 21 #[v] w fun e w' => ∃ v', e = .returned v' ∧ OwnsRl w' w.heap.size v' l ∧ Below w.heap.size w w' := by
  obtain ⟨A, c, rfl, h1, h2, h3, h4'⟩ := hv.at_
  cases A with
  | none =>
    obtain ⟨hl, rfl⟩ := h4' rfl
    have hl' := List.length_eq_zero_iff.1 hl
    subst hl'
    clear h1 h2 h3 h4 h4' hl hv
    have hq := Lib.run_eql_slice_nil (P := Try.prog) w 34 23 none 0 0 0 0 Try.underlying34
    go_enter Try.func21, Try.ntmps21
    go_wp2
    go_ret
    exact ⟨_, rfl, OwnsRl.nil, Below.refl _ _⟩
  | some a =>
    have H := Lib.hid (owns_emptyr w 23 rfl w.heap.size w.heap.size (Nat.le_refl _) rfl)
    have hs := Lib.hid ((hv.alloc (.cells #[] 23)))
    have q0 := Lib.run_eql_slice_nil (P := Try.prog) w 34 23 (some a) l.length c 0 0 Try.underlying34
    have hR := rules_room (n := 0) (m := l.length) (by omega)
    clear hv h3 h4'
    go_enter Try.func21, Try.ntmps21
    go_wp2_with (at_builtin; go_loud (refine wpList_pushC _ rfl (.tmp 5) (.tmp 6) 34 rfl w.heap.size 23 _ 4 32 info_rule rfl (by omega) Try.underlying34 _ 0 _ H.out rfl _ l.length _ rfl hs.out.src (by simp) hR.1 hR.2 ?_))
    intro v' w' ho he
    have ho : OwnsRl w' w.heap.size v' l := by
      unfold OwnsRl
      simpa using ho
    have hb := ((Below.refl w.heap.size w).alloc (Nat.le_refl _) (.cells #[] 23)).trans (he.toBelow (by simp) (fun j hj => by simp [Value.ownBlock] at hj; omega))
    go_wp2
    go_ret
    exact ⟨_, rfl, ho, hb⟩
end Go.Proofs.Ytklphfpgphddpaa
