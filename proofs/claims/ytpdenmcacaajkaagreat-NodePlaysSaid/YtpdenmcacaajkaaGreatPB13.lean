/- Texts AlR, AlW, AlC in one. For what each says in front of its theorems. -/
import Derived.BigQuiet
import Derived.Recover
import Derived.BigRegion
import Derived.Deep.RegionWith
import Derived.Deep.RegionLaw
import Derived.Lib.LazyBuf
import Derived.Test.YtpdenmcacaajkaaGreatPB12
/-! ### AlR -/
namespace Go.Proofs.YtpdenmcacaajkaaGreat
open Go.RowKit

instance : Inhabited R4 := ⟨⟨0, 0, 0, 0⟩⟩
/-- The cells of a rule. -/
def rc (r : R4) : List Value := [.int .i64 r.n, .int .i64 r.lo, .int .i64 r.hi, .int .i64 r.st]
/-- What lies at a rule's four places. -/
structure AtRl (w : World) (b off : Nat) (d : R4) : Prop where
  c0 : w.cell? ⟨b, off, none⟩ = some (.int .i64 d.n)
  c1 : w.cell? ⟨b, off + 1, none⟩ = some (.int .i64 d.lo)
  c2 : w.cell? ⟨b, off + 2, none⟩ = some (.int .i64 d.hi)
  c3 : w.cell? ⟨b, off + 3, none⟩ = some (.int .i64 d.st)
def SeesRq (w : World) (B : Nat) (A : Option Addr) (l : List R4) : Prop :=
  0 < l.length → ∃ b off, A = some ⟨b, off, none⟩ ∧ b < B ∧ ∀ k, k < l.length → AtRl w b (off + k * 4) (l.getD k default)
/-- A slice of these rules, nil told. -/
structure SeesRs (w : World) (B : Nat) (v : Value) (l : List R4) : Prop where
  at_ : ∃ A c, v = .slice A l.length c ∧ l.length ≤ c ∧ c ≤ maxLen ∧ SeesRq w B A l ∧ (A = none → l.length = 0 ∧ c = 0)
def OwnsRl (w : World) (base : Nat) (v : Value) (l : List R4) : Prop := w.ownsRow base 80 4 v l.length (l.flatMap rc)

section
variable {w w' : World} {B B' Bs : Nat} {A : Option Addr} {v : Value} {l m : List R4}
theorem AtRl.keep {b off : Nat} {d : R4} (h : AtRl w b off d) (hk : ∀ o, w'.cell? ⟨b, o, none⟩ = w.cell? ⟨b, o, none⟩) : AtRl w' b off d :=
  ⟨(hk _).trans h.c0, (hk _).trans h.c1, (hk _).trans h.c2, (hk _).trans h.c3⟩
theorem SeesRq.keep (h : SeesRq w B A l) (hk : ∀ b o, b < B → w'.cell? ⟨b, o, none⟩ = w.cell? ⟨b, o, none⟩) : SeesRq w' B A l := fun h0 => by
  obtain ⟨b, off, e, hb, hc⟩ := h h0
  exact ⟨b, off, e, hb, fun k hlt => (hc k hlt).keep fun o => hk b o hb⟩
theorem SeesRq.below (h : SeesRq w B A l) (hb : Below B w w') : SeesRq w' B A l := h.keep fun b o hp => hb.cell (p := ⟨b, o, none⟩) hp
theorem SeesRq.more (h : SeesRq w B A l) (hB : B ≤ B') : SeesRq w B' A l := fun h0 => by
  obtain ⟨b, off, e, hb, hc⟩ := h h0
  exact ⟨b, off, e, by omega, hc⟩
theorem SeesRq.drew (h : SeesRq w B A l) : SeesRq w.drew B A l := h.keep fun _ _ _ => rfl
theorem SeesRq.nil : SeesRq w B A [] := fun h => absurd h (by simp)
theorem SeesRs.below (h : SeesRs w B v l) (hb : Below B w w') : SeesRs w' B v l := ⟨by
  obtain ⟨A, c, rfl, h1, h2, h3, h4⟩ := h.at_
  exact ⟨A, c, rfl, h1, h2, h3.below hb, h4⟩⟩
theorem SeesRs.more (h : SeesRs w B v l) (hB : B ≤ B') : SeesRs w B' v l := ⟨by
  obtain ⟨A, c, rfl, h1, h2, h3, h4⟩ := h.at_
  exact ⟨A, c, rfl, h1, h2, h3.more hB, h4⟩⟩
theorem SeesRs.drew (h : SeesRs w B v l) : SeesRs w.drew B v l := ⟨by
  obtain ⟨A, c, rfl, h1, h2, h3, h4⟩ := h.at_
  exact ⟨A, c, rfl, h1, h2, h3.drew, h4⟩⟩
theorem SeesRs.nil : SeesRs w B (.slice none 0 0) [] := ⟨none, 0, rfl, Nat.le_refl _, Nat.zero_le _, SeesRq.nil, fun _ => ⟨rfl, rfl⟩⟩
theorem rcs_getD (l : List R4) (k : Nat) (hk : k < l.length) (j : Nat) (hj : j < 4) : (l.flatMap rc)[k * 4 + j]? = (rc (l.getD k default))[j]? := by
  induction l generalizing k with
  | nil => simp at hk
  | cons d l ih =>
    have h4 : (rc d).length = 4 := rfl
    rw [List.flatMap_cons]
    cases k with
    | zero => rw [List.getElem?_append_left (by omega)]; simp
    | succ k =>
      rw [List.getElem?_append_right (by omega), h4, show (k + 1) * 4 + j - 4 = k * 4 + j by omega, ih k (by simpa using hk)]
      simp
theorem rcs_length (l : List R4) : (l.flatMap rc).length = l.length * 4 := by
  induction l with
  | nil => rfl
  | cons d l ih => rw [List.flatMap_cons, List.length_append, ih]; simp [rc]; omega
theorem OwnsRl.atD {g n c : Nat} (h : OwnsRl w Bs (.slice (some ⟨g, 0, none⟩) n c) l) (hn : n = l.length) (k : Nat) (hk : k < l.length) : AtRl w g (k * 4) (l.getD k default) := by
  subst hn
  have e := fun j (hj : j < 4) => (World.ownsRow.cellAt h (k * 4 + j) (by omega)).trans (rcs_getD l k hk j hj)
  exact ⟨by have := e 0 (by omega); rw [Nat.add_zero] at this; exact this, e 1 (by omega), e 2 (by omega), e 3 (by omega)⟩
theorem OwnsRl.form (h : OwnsRl w Bs v l) : (v = .slice none 0 0 ∧ l.length = 0) ∨ ∃ g c, v = .slice (some ⟨g, 0, none⟩) l.length c ∧ Bs ≤ g ∧ g < w.heap.size ∧ l.length ≤ c ∧ c ≤ maxLen := by
  rcases h.2 with h1 | ⟨g, cap, cur, h1, h2, h3, h4, h5, -⟩
  · exact .inl h1
  · exact .inr ⟨g, cap, h1, h2, (Array.getElem?_eq_some_iff.1 h3).1, h4, h5⟩
theorem OwnsRl.sees (h : OwnsRl w Bs v l) : SeesRs w w.heap.size v l := ⟨by
  rcases h.form with ⟨rfl, h0⟩ | ⟨g, c, rfl, h1, h2, h3, h4⟩
  · exact ⟨none, 0, by rw [h0], by omega, by unfold maxLen; omega, fun h => absurd h (by omega), fun _ => ⟨h0, rfl⟩⟩
  · exact ⟨_, c, rfl, h3, h4, fun _ => ⟨g, 0, rfl, h2, fun k hk => by rw [Nat.zero_add]; exact OwnsRl.atD h rfl k hk⟩, fun h => by cases h⟩⟩
theorem OwnsRl.drew (h : OwnsRl w Bs v l) : OwnsRl w.drew Bs v l := h
theorem OwnsRl.nil : OwnsRl w Bs (.slice none 0 0) [] := World.ownsRow_nil _ _ _ _
theorem OwnsRl.base (h : OwnsRl w Bs v l) (hB : B ≤ Bs) : OwnsRl w B v l := by
  refine ⟨h.1, ?_⟩
  rcases h.2 with h | ⟨g, cap, cur, h1, h2, h3⟩
  · exact .inl h
  · exact .inr ⟨g, cap, cur, h1, by omega, h3⟩
theorem OwnsRl.below (h : OwnsRl w Bs v l) (hb : Below B' w w') (hB : w.heap.size ≤ B') : OwnsRl w' Bs v l :=
  World.ownsRow.kept (row := none) h ⟨hb.os, hb.tape, hb.output, hb.size, fun k hk _ => hb.block k (by omega)⟩ (by
    rcases h.2 with ⟨rfl, _⟩ | ⟨g, cap, cur, rfl, _⟩
    · exact .inl rfl
    · exact .inr (by simp [Value.ownBlock]))
theorem OwnsRl.alloc (h : OwnsRl w Bs v l) (o : Obj) : OwnsRl (w.alloc o) Bs v l := World.ownsRow.alloc h o
end

theorem info_rule : (Tryz.prog.info? 80).map (fun i => (i.zero, i.size, i.bytes)) = some (some (.agg #[.int .i64 0, .int .i64 0, .int .i64 0, .int .i64 0]), 4, 32) := by kernel_rfl
theorem SeesRs.src {w : World} {B : Nat} {u : Value} {m : List R4} (h : SeesRs w B u m) : Src w u 4 m.length (m.flatMap rc) := by
  obtain ⟨A, c, rfl, -, -, h3, h4⟩ := h.at_
  cases A with
  | none =>
    obtain ⟨h5, h6⟩ := h4 rfl
    subst h6
    have := List.length_eq_zero_iff.1 h5
    subst this
    exact .inl ⟨rfl, rfl, rfl⟩
  | some ad =>
    refine .inr ⟨ad, c, rfl, rcs_length m, fun j x hj => ?_, fun x hx => ?_⟩
    · by_cases hjm : j < m.length * 4
      · obtain ⟨b, off, he, _, hc⟩ := h3 (by omega)
        simp only [Option.some.injEq] at he
        subst he
        have h6 := hc (j / 4) (by omega)
        have e1 := rcs_getD m (j / 4) (by omega) (j % 4) (by omega)
        rw [show j / 4 * 4 + j % 4 = j by omega, hj] at e1
        have e2 : w.cell? ⟨b, off + j, none⟩ = (rc (m.getD (j / 4) default))[j % 4]? := by
          rcases (by omega : j % 4 = 0 ∨ j % 4 = 1 ∨ j % 4 = 2 ∨ j % 4 = 3) with h | h | h | h <;> rw [h]
          · rw [show off + j = off + j / 4 * 4 by omega]; exact h6.c0
          · rw [show off + j = off + j / 4 * 4 + 1 by omega]; exact h6.c1
          · rw [show off + j = off + j / 4 * 4 + 2 by omega]; exact h6.c2
          · rw [show off + j = off + j / 4 * 4 + 3 by omega]; exact h6.c3
        rw [← e1] at e2
        by_cases h1 : j = 0
        · subst h1; simpa [Addr.add] using e2
        · simpa [Addr.add, h1] using e2
      · rw [List.getElem?_eq_none (by rw [rcs_length]; omega)] at hj
        cases hj
    · obtain ⟨r, -, hr⟩ := List.mem_flatMap.1 hx
      simp only [rc, List.mem_cons, List.not_mem_nil, or_false] at hr
      rcases hr with rfl | rfl | rfl | rfl <;> rfl
theorem owns_emptyr (w : World) (e : TypeId) (he : e = 80) (B g : Nat) (hB : B ≤ w.heap.size) (hg : g = w.heap.size) : OwnsRl (w.alloc (.cells #[] e)) B (.slice (some ⟨g, 0, none⟩) 0 0) [] := by
  subst he hg
  exact World.ownsRow_made w #[] 0 hB (by unfold maxLen; omega) rfl
theorem OwnsRl.joined {w : World} {B : Nat} {v : Value} {l m : List R4} (h : w.ownsRow B 80 4 v (l.length + m.length) (l.flatMap rc ++ m.flatMap rc)) : OwnsRl w B v (l ++ m) := by
  unfold OwnsRl
  rw [List.length_append, List.flatMap_append]
  exact h
theorem SeesRs.alloc {w : World} {B : Nat} {v : Value} {l : List R4} (h : SeesRs w B v l) (o : Obj) : SeesRs (w.alloc o) B v l := ⟨by
  obtain ⟨A, c, rfl, h1, h2, h3, h4⟩ := h.at_
  refine ⟨A, c, rfl, h1, h2, fun h0 => ?_, h4⟩
  obtain ⟨b, off, e, hb, hc⟩ := h3 h0
  exact ⟨b, off, e, hb, fun k hk => ⟨Lib.cell?_alloc_some o (hc k hk).c0, Lib.cell?_alloc_some o (hc k hk).c1, Lib.cell?_alloc_some o (hc k hk).c2, Lib.cell?_alloc_some o (hc k hk).c3⟩⟩⟩
theorem rules_room {n m : Nat} (h : n + m ≤ 100000) : n + m ≤ maxLen ∧ (n + m) * 32 ≤ 140737488355328 := ⟨by unfold maxLen; omega, by omega⟩
set_option maxRecDepth 100000 in
set_option maxHeartbeats 4000000 in
/-- slices.Clone of rules. -/
theorem clone_rl (l : List R4) (v : Value) (w : World) (B : Nat) (hv : SeesRs w B v l) (h4 : l.length ≤ 1000) :
    Calls Tryz.prog 54 #[v] w fun e w' => ∃ v', e = .returned v' ∧ OwnsRl w' w.heap.size v' l ∧ Below w.heap.size w w' := by
  obtain ⟨A, c, rfl, h1, h2, h3, h4'⟩ := hv.at_
  cases A with
  | none =>
    obtain ⟨hl, rfl⟩ := h4' rfl
    have hl' := List.length_eq_zero_iff.1 hl
    subst hl'
    clear h1 h2 h3 h4 h4' hl hv
    have hq := Lib.run_eql_slice_nil (P := Tryz.prog) w 31 80 none 0 0 0 0 Tryz.underlying31
    go_enter Tryz.func54, Tryz.ntmps54
    go_wp2
    go_ret
    exact ⟨_, rfl, OwnsRl.nil, Below.refl _ _⟩
  | some a =>
    have H := Lib.hid (owns_emptyr w 80 rfl w.heap.size w.heap.size (Nat.le_refl _) rfl)
    have hs := Lib.hid ((hv.alloc (.cells #[] 80)))
    have q0 := Lib.run_eql_slice_nil (P := Tryz.prog) w 31 80 (some a) l.length c 0 0 Tryz.underlying31
    have hR := rules_room (n := 0) (m := l.length) (by omega)
    clear hv h3 h4'
    go_enter Tryz.func54, Tryz.ntmps54
    go_wp2_with (at_builtin; go_loud (refine wpList_pushC _ rfl (.tmp 5) (.tmp 6) 31 rfl w.heap.size 80 _ 4 32 info_rule rfl (by omega) Tryz.underlying31 _ 0 _ H.out rfl _ l.length _ rfl hs.out.src (by simp) hR.1 hR.2 ?_))
    intro v' w' ho he
    have ho : OwnsRl w' w.heap.size v' l := by
      unfold OwnsRl
      simpa using ho
    have hb := ((Below.refl w.heap.size w).alloc (Nat.le_refl _) (.cells #[] 80)).trans (he.toBelow (by simp) (fun j hj => by simp [Value.ownBlock] at hj; omega))
    go_wp2
    go_ret
    exact ⟨_, rfl, ho, hb⟩
end Go.Proofs.YtpdenmcacaajkaaGreat

/-! ### AlW -/
namespace Go.Proofs.YtpdenmcacaajkaaGreat
open Go.RowKit

set_option maxRecDepth 100000 in
set_option maxHeartbeats 4000000 in
theorem why_al (r : R4) (v : Value) (l : List Int) (a : Int) (b : Bool) (B : Nat) (w : World) (hv : SeesL w B v l) (hl : bytesL l) :
    Calls Tryz.prog 171 #[r.v, .agg #[v, .int .i64 a, .bool b]] w fun e w' => e = .returned (.int .i64 (whyM r l a b : Nat)) ∧ Below w.heap.size w w' := by
  obtain ⟨n, lo, hi, st⟩ := r
  have hb := fun W (h : Below w.heap.size w W) => (h : Below w.heap.size w W)
  obtain ⟨A, c, rfl, v1, v2, v3, -⟩ := hv.at_
  unfold maxLen at v2
  unfold R4.v
  have o1 : bits BinOp.or IntKind.i64 0 1 = 1 := by decide
  have o2 : bits BinOp.or IntKind.i64 0 2 = 2 := by decide
  have o3 : bits BinOp.or IntKind.i64 1 2 = 3 := by decide
  have o4 : bits BinOp.or IntKind.i64 0 4 = 4 := by decide
  have o5 : bits BinOp.or IntKind.i64 1 4 = 5 := by decide
  have o6 : bits BinOp.or IntKind.i64 2 4 = 6 := by decide
  have o7 : bits BinOp.or IntKind.i64 3 4 = 7 := by decide
  have p0 : bits BinOp.or IntKind.i64 0 8 = 8 := by decide
  have p1 : bits BinOp.or IntKind.i64 1 8 = 9 := by decide
  have p2 : bits BinOp.or IntKind.i64 2 8 = 10 := by decide
  have p3 : bits BinOp.or IntKind.i64 3 8 = 11 := by decide
  have p4 : bits BinOp.or IntKind.i64 4 8 = 12 := by decide
  have p5 : bits BinOp.or IntKind.i64 5 8 = 13 := by decide
  have p6 : bits BinOp.or IntKind.i64 6 8 = 14 := by decide
  have p7 : bits BinOp.or IntKind.i64 7 8 = 15 := by decide
  have hbel : ∀ M1 M2, Below w.heap.size w ((w.alloc M1).alloc M2) := fun M1 M2 => ((Below.refl w.heap.size w).alloc (Nat.le_refl _) M1).alloc (by simp) M2
  by_cases h0 : l = []
  · subst h0
    have q0 : decide ((0 : Int) < (([] : List Int).length : Nat)) = false := by decide
    simp only [List.length_nil] at *
    go_enter Tryz.func171, Tryz.ntmps171
    go_wp2_with fail
    all_goals
      go_ret
      refine ⟨?_, (by first | exact hbel _ _ | exact below_drewN (hbel _ _) _ | exact below_drewN (below_drewN (hbel _ _) _) _)⟩
      simp_all [whyM]
    all_goals ((repeat' split) <;> omega)
  · have h1 : 0 < l.length := List.length_pos_iff.2 h0
    have q0 : decide ((0 : Int) < ((l.length : Nat) : Int)) = true := decide_eq_true (by omega)
    obtain ⟨b0, off, rfl, hb0, hc⟩ := v3 h1
    have c0 := hc 0 h1
    obtain ⟨x1, x2⟩ := hl.getD 0
    unfold bv at c0
    have hx : whyM ⟨n, lo, hi, st⟩ l a b = (if l.getD 0 0 < lo then 1 else 0) + (if hi < l.getD 0 0 then 2 else 0) + (if st < a ∨ a = -1 then 4 else 0) + (if b then 0 else 8) := by
      unfold whyM
      simp [h0]
    rw [hx]
    clear hx hc v3 hv hl
    generalize l.getD 0 0 = x0 at *
    have wx : IntKind.i64.wrap x0 = x0 := IntWalk.i64_in _ (by omega)
    have r0 : (0 : Int) < ((l.length : Nat) : Int) := by omega
    rw [Nat.add_zero] at c0
    have c1 := Lib.cell?_alloc_some (.cells #[.slice (some ⟨b0, off, none⟩) l.length c, .int .i64 a, .bool b] 72) (Lib.cell?_alloc_some (.cells #[.int .i64 n, .int .i64 lo, .int .i64 hi, .int .i64 st] 80) c0)
    generalize l.length = N at *
    go_enter Tryz.func171, Tryz.ntmps171
    go_wp2_with fail
    all_goals
      go_ret
      refine ⟨?_, (by first | exact hbel _ _ | exact below_drewN (hbel _ _) _ | exact below_drewN (below_drewN (hbel _ _) _) _)⟩
      simp_all
    all_goals ((repeat' split) <;> omega)
set_option maxRecDepth 100000 in
set_option maxHeartbeats 4000000 in
theorem why_rf (r : R4) (v : Value) (l : List Int) (a : Int) (b : Bool) (B : Nat) (w : World) (hv : SeesL w B v l) (hl : bytesL l) :
    Calls Tryz.prog 153 #[r.v, .agg #[v, .int .i64 a, .bool b]] w fun e w' => e = .returned (.int .i64 (whyM r l a b : Nat)) ∧ Below w.heap.size w w' := by
  obtain ⟨n, lo, hi, st⟩ := r
  have hb := fun W (h : Below w.heap.size w W) => (h : Below w.heap.size w W)
  obtain ⟨A, c, rfl, v1, v2, v3, -⟩ := hv.at_
  unfold maxLen at v2
  unfold R4.v
  have o1 : bits BinOp.or IntKind.i64 0 1 = 1 := by decide
  have o2 : bits BinOp.or IntKind.i64 0 2 = 2 := by decide
  have o3 : bits BinOp.or IntKind.i64 1 2 = 3 := by decide
  have o4 : bits BinOp.or IntKind.i64 0 4 = 4 := by decide
  have o5 : bits BinOp.or IntKind.i64 1 4 = 5 := by decide
  have o6 : bits BinOp.or IntKind.i64 2 4 = 6 := by decide
  have o7 : bits BinOp.or IntKind.i64 3 4 = 7 := by decide
  have p0 : bits BinOp.or IntKind.i64 0 8 = 8 := by decide
  have p1 : bits BinOp.or IntKind.i64 1 8 = 9 := by decide
  have p2 : bits BinOp.or IntKind.i64 2 8 = 10 := by decide
  have p3 : bits BinOp.or IntKind.i64 3 8 = 11 := by decide
  have p4 : bits BinOp.or IntKind.i64 4 8 = 12 := by decide
  have p5 : bits BinOp.or IntKind.i64 5 8 = 13 := by decide
  have p6 : bits BinOp.or IntKind.i64 6 8 = 14 := by decide
  have p7 : bits BinOp.or IntKind.i64 7 8 = 15 := by decide
  have hbel : ∀ M1 M2, Below w.heap.size w ((w.alloc M1).alloc M2) := fun M1 M2 => ((Below.refl w.heap.size w).alloc (Nat.le_refl _) M1).alloc (by simp) M2
  by_cases h0 : l = []
  · subst h0
    have q0 : decide ((0 : Int) < (([] : List Int).length : Nat)) = false := by decide
    simp only [List.length_nil] at *
    go_enter Tryz.func153, Tryz.ntmps153
    go_wp2_with fail
    go_quiet (fail)
    go_wp2_with fail
    all_goals
      go_quiet (fail)
      go_wp2_with fail
    all_goals
      go_ret
      refine ⟨?_, (by first | exact hbel _ _ | exact below_drewN (hbel _ _) _ | exact below_drewN (below_drewN (hbel _ _) _) _)⟩
      simp_all [whyM]
    all_goals ((repeat' split) <;> omega)
  · have h1 : 0 < l.length := List.length_pos_iff.2 h0
    have q0 : decide ((0 : Int) < ((l.length : Nat) : Int)) = true := decide_eq_true (by omega)
    obtain ⟨b0, off, rfl, hb0, hc⟩ := v3 h1
    have c0 := hc 0 h1
    obtain ⟨x1, x2⟩ := hl.getD 0
    unfold bv at c0
    have hx : whyM ⟨n, lo, hi, st⟩ l a b = (if l.getD 0 0 < lo then 1 else 0) + (if hi < l.getD 0 0 then 2 else 0) + (if st < a ∨ a = -1 then 4 else 0) + (if b then 0 else 8) := by
      unfold whyM
      simp [h0]
    rw [hx]
    clear hx hc v3 hv hl
    generalize l.getD 0 0 = x0 at *
    have wx : IntKind.i64.wrap x0 = x0 := IntWalk.i64_in _ (by omega)
    have r0 : (0 : Int) < ((l.length : Nat) : Int) := by omega
    rw [Nat.add_zero] at c0
    have c1 := Lib.cell?_alloc_some (.cells #[.slice (some ⟨b0, off, none⟩) l.length c, .int .i64 a, .bool b] 72) (Lib.cell?_alloc_some (.cells #[.int .i64 n, .int .i64 lo, .int .i64 hi, .int .i64 st] 80) c0)
    generalize l.length = N at *
    go_enter Tryz.func153, Tryz.ntmps153
    go_wp2_with fail
    go_quiet (fail)
    go_wp2_with fail
    all_goals
      go_quiet (fail)
      go_wp2_with fail
    all_goals
      go_ret
      refine ⟨?_, (by first | exact hbel _ _ | exact below_drewN (hbel _ _) _ | exact below_drewN (below_drewN (hbel _ _) _) _)⟩
      simp_all
    all_goals ((repeat' split) <;> omega)
end Go.Proofs.YtpdenmcacaajkaaGreat

/-! ### AlC -/
namespace Go.Proofs.YtpdenmcacaajkaaGreat
open Go.RowKit

def c8 (f : Nat → Nat) : Array Value := #[.int .i64 (f 0 : Nat), .int .i64 (f 1 : Nat), .int .i64 (f 2 : Nat), .int .i64 (f 3 : Nat), .int .i64 (f 4 : Nat), .int .i64 (f 5 : Nat), .int .i64 (f 6 : Nat), .int .i64 (f 7 : Nat)]
def alc (V : Value) (n r : Nat → Nat) : Array Value := #[V, .int .i64 (n 0 : Nat), .int .i64 (n 1 : Nat), .int .i64 (n 2 : Nat), .int .i64 (n 3 : Nat), .int .i64 (n 4 : Nat), .int .i64 (n 5 : Nat), .int .i64 (n 6 : Nat), .int .i64 (n 7 : Nat), .int .i64 (r 0 : Nat), .int .i64 (r 1 : Nat), .int .i64 (r 2 : Nat), .int .i64 (r 3 : Nat), .int .i64 (r 4 : Nat), .int .i64 (r 5 : Nat), .int .i64 (r 6 : Nat), .int .i64 (r 7 : Nat)]
section
variable (V : Value) (f n r : Nat → Nat) {i : Nat} (hi : i < 8)
include hi
theorem c8_at : (c8 f)[i]? = some (.int .i64 (f i : Nat)) := under8 (p := fun i => (c8 f)[i]? = some (.int .i64 (f i : Nat))) hi rfl rfl rfl rfl rfl rfl rfl rfl
theorem c8_set (x : Nat) : (c8 f).setIfInBounds i (.int .i64 x) = c8 (upd f i x) := under8 (p := fun i => (c8 f).setIfInBounds i (.int .i64 x) = c8 (upd f i x)) hi rfl rfl rfl rfl rfl rfl rfl rfl
theorem alc_n : (alc V n r)[1 + i]? = some (.int .i64 (n i : Nat)) := under8 (p := fun i => (alc V n r)[1 + i]? = some (.int .i64 (n i : Nat))) hi rfl rfl rfl rfl rfl rfl rfl rfl
theorem alc_r : (alc V n r)[9 + i]? = some (.int .i64 (r i : Nat)) := under8 (p := fun i => (alc V n r)[9 + i]? = some (.int .i64 (r i : Nat))) hi rfl rfl rfl rfl rfl rfl rfl rfl
theorem set_n (x : Nat) : (alc V n r).setIfInBounds (1 + i) (.int .i64 x) = alc V (upd n i x) r := under8 (p := fun i => (alc V n r).setIfInBounds (1 + i) (.int .i64 x) = alc V (upd n i x) r) hi rfl rfl rfl rfl rfl rfl rfl rfl
theorem set_r (x : Nat) : (alc V n r).setIfInBounds (9 + i) (.int .i64 x) = alc V n (upd r i x) := under8 (p := fun i => (alc V n r).setIfInBounds (9 + i) (.int .i64 x) = alc V n (upd r i x)) hi rfl rfl rfl rfl rfl rfl rfl rfl
end
/-- An Alarms in memory: its rules lie in no block of F. -/
structure AAt (F : List Nat) (W : World) (g : Nat) (l : List R4) (n r : Nat → Nat) : Prop where
  ex : ∃ V, Blk W g (alc V n r) 68 ∧ SeesRs W W.heap.size V l ∧ ∀ f, f ∈ F → l ≠ [] → V.ownBlock ≠ some f
  len : l.length ≤ 8
  n16 : ∀ i, i < 8 → n i < 16
  r16 : ∀ i, i < 8 → r i < 16
section
variable {F : List Nat} {W W' : World} {g g' : Nat} {l : List R4} {n r : Nat → Nat}
theorem SeesRs.keepF {V : Value} (h : SeesRs W W.heap.size V l) (hF : ∀ f, f ∈ F → l ≠ [] → V.ownBlock ≠ some f) (k : Kp F W W') : SeesRs W' W'.heap.size V l := ⟨by
  obtain ⟨A, c, rfl, h1, h2, h3, h4⟩ := h.at_
  refine ⟨A, c, rfl, h1, h2, fun h0 => ?_, h4⟩
  obtain ⟨b, off, rfl, hb, hc⟩ := h3 h0
  have hn : b ∉ F := fun hm => hF b hm (List.length_pos_iff.1 h0) rfl
  exact ⟨b, off, rfl, Nat.lt_of_lt_of_le hb k.size, fun j hj => (hc j hj).keep fun o => by simp only [World.cell?, k.block b hb hn]⟩⟩
theorem AAt.lt (h : AAt F W g l n r) : g < W.heap.size := by
  obtain ⟨V, hB, -⟩ := h.ex
  exact hB.lt
theorem AAt.keep (h : AAt F W g l n r) (k : Kp F W W') (hb : W'.heap[g]? = W.heap[g]?) : AAt F W' g l n r := by
  obtain ⟨V, hB, hS, hF⟩ := h.ex
  exact ⟨⟨V, hb.trans hB, hS.keepF hF k, hF⟩, h.len, h.n16, h.r16⟩
theorem AAt.below (h : AAt F W g l n r) (k : Below W.heap.size W W') : AAt F W' g l n r := h.keep (kp_below k) (k.block g h.lt)
theorem AAt.only (h : AAt F W g l n r) (k : Only g' W W') (hne : g ≠ g') (hF : g' ∈ F) : AAt F W' g l n r := h.keep (k.kp hF) (k.block g h.lt (by intro e; cases e; exact hne rfl))
theorem AAt.more (h : AAt F W g l n r) (k : Below W.heap.size W W') {f : Nat} (hf : W.heap.size ≤ f) : AAt (f :: F) W' g l n r := by
  obtain ⟨V, hB, hS, hF⟩ := h.ex
  have h' := h.below k
  obtain ⟨V', hB', hS', hF'⟩ := h'.ex
  refine ⟨⟨V', hB', hS', fun x hx hl => ?_⟩, h.len, h.n16, h.r16⟩
  rcases List.mem_cons.1 hx with rfl | hx
  · have e : V' = V := by
      have e1 := (hB.below k hB.lt).symm.trans hB'
      simp only [Option.some.injEq, Obj.cells.injEq] at e1
      have := congrArg (fun a => a[0]?) e1.1
      simpa [alc] using this.symm
    subst e
    obtain ⟨A, c, rfl, -, -, h3, -⟩ := hS.at_
    obtain ⟨b, off, rfl, hb, -⟩ := h3 (List.length_pos_iff.2 hl)
    simp only [Value.ownBlock]
    intro e
    cases e
    all_goals (first | omega | exact H.elim)
  · exact hF' x hx hl
theorem AAt.frozen (h : AAt F W g l n r) (o : Nat) : W.frozen? ⟨g, o, none⟩ = false := by
  obtain ⟨V, hB, -⟩ := h.ex
  exact hB.frozen _
theorem AAt.cs (h : AAt F W g l n r) : ∃ A c, W.cell? ⟨g, 0, none⟩ = some (.slice A l.length c) ∧ SeesRs W W.heap.size (.slice A l.length c) l := by
  obtain ⟨V, hB, hS, -⟩ := h.ex
  obtain ⟨A, c, rfl, -⟩ := hS.at_
  exact ⟨A, c, hB.cell 0 rfl, hS⟩
theorem AAt.cn (h : AAt F W g l n r) {i : Nat} (hi : i < 8) : W.cell? ⟨g, 1 + i, none⟩ = some (.int .i64 (n i : Nat)) := by
  obtain ⟨V, hB, -⟩ := h.ex
  exact hB.cell _ (alc_n _ _ _ hi)
theorem AAt.cr (h : AAt F W g l n r) {i : Nat} (hi : i < 8) : W.cell? ⟨g, 9 + i, none⟩ = some (.int .i64 (r i : Nat)) := by
  obtain ⟨V, hB, -⟩ := h.ex
  exact hB.cell _ (alc_r _ _ _ hi)
theorem AAt.setr (h : AAt F W g l n r) (hg : g ∈ F) {i x : Nat} (hi : i < 8) (hx : x < 16) : AAt F (W.setCell ⟨g, 9 + i, none⟩ (.int .i64 x)) g l n (upd r i x) := by
  obtain ⟨V, hB, hS, hF⟩ := h.ex
  have hkp : Kp F W (W.setCell ⟨g, 9 + i, none⟩ (.int .i64 x)) := ((Only.refl g W).set _ _).kp hg
  refine ⟨⟨V, (hB.set _ _).eq (set_r _ _ _ hi _), hS.keepF hF hkp, hF⟩, h.len, h.n16, fun j hj => ?_⟩
  simp only [upd]
  split
  · exact hx
  · exact h.r16 j hj
theorem AAt.setn (h : AAt F W g l n r) (hg : g ∈ F) {i x : Nat} (hi : i < 8) (hx : x < 16) : AAt F (W.setCell ⟨g, 1 + i, none⟩ (.int .i64 x)) g l (upd n i x) r := by
  obtain ⟨V, hB, hS, hF⟩ := h.ex
  have hkp : Kp F W (W.setCell ⟨g, 1 + i, none⟩ (.int .i64 x)) := ((Only.refl g W).set _ _).kp hg
  refine ⟨⟨V, (hB.set _ _).eq (set_n _ _ _ hi _), hS.keepF hF hkp, hF⟩, h.len, fun j hj => ?_, h.r16⟩
  simp only [upd]
  split
  · exact hx
  · exact h.n16 j hj
theorem AAt.drew (h : AAt F W g l n r) : AAt F W.drew g l n r := h.below (Below.refl _ W).drew
theorem AAt.alike {n' r' : Nat → Nat} (h : AAt F W g l n r) (hn : ∀ i, i < 8 → n i = n' i) (hr : ∀ i, i < 8 → r i = r' i) : AAt F W g l n' r' := by
  obtain ⟨V, hB, hS, hF⟩ := h.ex
  refine ⟨⟨V, hB.eq ?_, hS, hF⟩, h.len, fun i hi => hn i hi ▸ h.n16 i hi, fun i hi => hr i hi ▸ h.r16 i hi⟩
  unfold alc
  rw [hn 0 (by omega), hn 1 (by omega), hn 2 (by omega), hn 3 (by omega), hn 4 (by omega), hn 5 (by omega), hn 6 (by omega), hn 7 (by omega), hr 0 (by omega), hr 1 (by omega), hr 2 (by omega), hr 3 (by omega), hr 4 (by omega), hr 5 (by omega), hr 6 (by omega), hr 7 (by omega)]
end
/-- Is there such a rule? -/
def isR (l : List R4) (i : Int) : Prop := 0 ≤ i ∧ i < l.length
instance (l : List R4) (i : Int) : Decidable (isR l i) := inferInstanceAs (Decidable (_ ∧ _))
set_option maxRecDepth 100000 in
set_option maxHeartbeats 2000000 in
theorem mayBe_al (r : R4) (w : World) :
    Calls Tryz.prog 53 #[r.v] w fun e w' => e = .returned (.bool (decide r.may)) ∧ Below w.heap.size w w' := by
  obtain ⟨n, lo, hi, st⟩ := r
  have hbel : ∀ M1, Below w.heap.size w (w.alloc M1) := fun M1 => (Below.refl w.heap.size w).alloc (Nat.le_refl _) M1
  unfold R4.v
  go_enter Tryz.func53, Tryz.ntmps53
  go_wp2
  all_goals
    go_ret
    refine ⟨congrArg (fun b => Ending.returned (Value.bool b)) (Bool.eq_iff_iff.2 ?_), hbel _⟩
    rw [decide_eq_true_iff]
    simp only [decide_eq_true_eq, Bool.false_eq_true]
    unfold R4.may
    dsimp only
    constructor <;> intro H
    all_goals (first | omega | exact H.elim)
set_option maxRecDepth 100000 in
set_option maxHeartbeats 2000000 in
theorem has_al (F : List Nat) (g : Nat) (l : List R4) (n r : Nat → Nat) (i : Int) (w : World) (h : AAt F w g l n r) :
    Calls Tryz.prog 105 #[.pointer (some ⟨g, 0, none⟩), .int .i64 i] w fun e w' => e = .returned (.bool (decide (isR l i))) ∧ w' = w := by
  have h8 := h.len
  obtain ⟨A, c, c0, -⟩ := h.cs
  clear h
  go_enter Tryz.func105, Tryz.ntmps105
  go_wp2
  all_goals
    go_ret
    refine ⟨congrArg (fun b => Ending.returned (Value.bool b)) (Bool.eq_iff_iff.2 ?_), rfl⟩
    rw [decide_eq_true_iff]
    simp only [decide_eq_true_eq, Bool.false_eq_true]
    unfold isR
    constructor <;> intro H
    all_goals (first | omega | exact H.elim)
set_option maxRecDepth 100000 in
set_option maxHeartbeats 2000000 in
theorem rings_al (F : List Nat) (g : Nat) (l : List R4) (n r : Nat → Nat) (i : Int) (w : World) (h : AAt F w g l n r) :
    Calls Tryz.prog 97 #[.pointer (some ⟨g, 0, none⟩), .int .i64 i] w fun e w' => e = .returned (.int .i64 ((if isR l i then r i.toNat else 0 : Nat) : Int)) ∧ w' = w := by
  have HN := Lib.hid (has_al F g l n r i w h)
  by_cases hn : isR l i
  · rw [decide_eq_true hn] at HN
    rw [if_pos hn]
    have h8 := h.len
    unfold isR at hn
    obtain ⟨i, rfl⟩ : ∃ k : Nat, i = k := ⟨i.toNat, by omega⟩
    have hi : i < 8 := by omega
    have c1 := h.cr hi
    rw [Int.toNat_natCast]
    clear h
    go_enter Tryz.func97, Tryz.ntmps97
    go_wp2_with fail
    refine HN.out.mono ?_
    rintro _ _ ⟨rfl, rfl⟩
    go_wp2
    go_ret
    exact ⟨rfl, rfl⟩
  · rw [decide_eq_false hn] at HN
    rw [if_neg hn]
    go_enter Tryz.func97, Tryz.ntmps97
    go_wp2_with fail
    refine HN.out.mono ?_
    rintro _ _ ⟨rfl, rfl⟩
    go_wp2
    go_ret
    exact ⟨rfl, rfl⟩
end Go.Proofs.YtpdenmcacaajkaaGreat
