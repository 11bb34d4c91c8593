/- Texts TbL, Ints, ClMath, ClA, ClB in one. For what each says in front of its theorems. -/
import Derived.Laws.AppendOwnNone
import Derived.SizedLaws
import Derived.ProofKit
import Derived.OpenShut
import Derived.ShutString
import Derived.ChangeOld
import Derived.Deep.Slices
import Derived.Deep.Fields
import Derived.Deep.AppendLies
import Derived.Deep.CutBlock
import Derived.Maps.Range
import Derived.Deep.RegionHeld3
import Derived.Deep.RegionLaw
import Derived.RegionTactic
import Derived.BigRegion
import Derived.Lib.SmallJoins
import Derived.WalkKit
import Derived.IntWalk
import Derived.Test.YtpdenmcacaajkaaGreatXB1
import Derived.Test.YtpdenmcacaajkaaGreatXB5
/-! ### TbL -/
namespace Go.Proofs.YtpdenmcacaajkaaGreat
open Go.RowKit
open Tb (D T)

def csV (r s m : Int) : Value := .agg #[.int .i64 r, .int .i64 s, .int .i64 m]
/-- The next slot, and round. -/
def nxS (n s : Int) : Int := if s + 1 < n then s + 1 else 0
def nxR (n r s : Int) : Int := if s + 1 < n then r else if r < 65535 then r + 1 else 0

set_option maxHeartbeats 4000000 in
theorem next_tb (A : Option Addr) (n c : Nat) (dr wi lm r s m : Int) (w : World) (hn : 1 ≤ n ∧ n ≤ 8) (hs : 0 ≤ s ∧ s < n) (hr : 0 ≤ r ∧ r ≤ 65535) :
    Calls Tryz.prog 122 #[.agg #[.slice A n c, .int .i64 dr, .int .i64 wi, .int .i64 lm], csV r s m] w fun e w' => e = .returned (csV (nxR n r s) (nxS n s) m) ∧ Below w.heap.size w w' := by
  unfold csV nxR nxS
  have hcase : s + 1 < n ∨ (¬ s + 1 < n ∧ r < 65535) ∨ (¬ s + 1 < n ∧ ¬ r < 65535) := by omega
  rcases hcase with c1 | ⟨c1, c2⟩ | ⟨c1, c2⟩
  · rw [if_pos c1, if_pos c1]
    have q1 : s < (n : Int) - 1 := by omega
    go_enter Tryz.func122, Tryz.ntmps122
    go_wp2
    refine bodyPost_ret (v := .agg #[.int .i64 r, .int .i64 (s + 1), .int .i64 m]) ?_ rfl ⟨rfl, ?_⟩
    · rw [results_cell rfl]
      go_simp
    · (repeat' (first | (with_reducible exact Below.refl _ _) | (with_reducible refine Below.setCell ?_ ?_ _) | (with_reducible refine Below.alloc ?_ ?_ _) | exact Nat.le_refl _ | (simp; done) | (simp; omega)))
  · rw [if_neg c1, if_neg c1, if_pos c2]
    have q1 : ¬ s < (n : Int) - 1 := by omega
    go_enter Tryz.func122, Tryz.ntmps122
    go_wp2
    refine bodyPost_ret (v := .agg #[.int .i64 (r + 1), .int .i64 0, .int .i64 m]) ?_ rfl ⟨rfl, ?_⟩
    · rw [results_cell rfl]
      go_simp
    · (repeat' (first | (with_reducible exact Below.refl _ _) | (with_reducible refine Below.setCell ?_ ?_ _) | (with_reducible refine Below.alloc ?_ ?_ _) | exact Nat.le_refl _ | (simp; done) | (simp; omega)))
  · rw [if_neg c1, if_neg c1, if_neg c2]
    have q1 : ¬ s < (n : Int) - 1 := by omega
    go_enter Tryz.func122, Tryz.ntmps122
    go_wp2
    refine bodyPost_ret (v := .agg #[.int .i64 0, .int .i64 0, .int .i64 m]) ?_ rfl ⟨rfl, ?_⟩
    · rw [results_cell rfl]
      go_simp
    · (repeat' (first | (with_reducible exact Below.refl _ _) | (with_reducible refine Below.setCell ?_ ?_ _) | (with_reducible refine Below.alloc ?_ ?_ _) | exact Nat.le_refl _ | (simp; done) | (simp; omega)))
end Go.Proofs.YtpdenmcacaajkaaGreat

/-! ### Ints -/
namespace Go.Proofs.YtpdenmcacaajkaaGreat
open Go.ChangeShapes Go.WideShapes Go.ChangeAt Go.RowKit







theorem infoInt : (Tryz.prog.info? 3).map (fun i => (i.zero, i.size, i.bytes)) = some (some (.int .i64 0), 1, 8) := by kernel_rfl

/-- The cells of a list of bytes. -/
def iv (l : List Int) (k : Nat) : Value := .int .i64 (l.getD k 0)

/-- What the call made: a slice of these bytes. -/
def OwnsI (w : World) (base : Nat) (v : Value) (l : List Int) : Prop := Owns w base 3 v l.length (iv l)
/-- A slice of these bytes, nil told. -/
structure SeesI (w : World) (B : Nat) (v : Value) (l : List Int) : Prop where
  at_ : ∃ A c, v = .slice A l.length c ∧ l.length ≤ c ∧ c ≤ maxLen ∧ Sees w B A l.length (iv l) ∧ (A = none → l.length = 0 ∧ c = 0)

section
variable {w w' : World} {B B' Bs : Nat} {v : Value} {l m : List Int}
theorem OwnsI.sees (h : OwnsI w Bs v l) : SeesI w w.heap.size v l := ⟨by
  obtain ⟨A, c, rfl, h1, h2, h3, h4⟩ := Owns.formN h
  exact ⟨A, c, rfl, h1, h2, h3, h4⟩⟩
theorem SeesI.below (h : SeesI w B v l) (hb : Below B w w') : SeesI w' B v l := ⟨by
  obtain ⟨A, c, rfl, h1, h2, h3, h4⟩ := h.at_
  exact ⟨A, c, rfl, h1, h2, h3.below hb, h4⟩⟩
theorem SeesI.more (h : SeesI w B v l) (hB : B ≤ B') : SeesI w B' v l := ⟨by
  obtain ⟨A, c, rfl, h1, h2, h3, h4⟩ := h.at_
  exact ⟨A, c, rfl, h1, h2, h3.more hB, h4⟩⟩
theorem SeesI.drew (h : SeesI w B v l) : SeesI w.drew B v l := ⟨by
  obtain ⟨A, c, rfl, h1, h2, h3, h4⟩ := h.at_
  exact ⟨A, c, rfl, h1, h2, h3, h4⟩⟩
theorem OwnsI.drew (h : OwnsI w Bs v l) : OwnsI w.drew Bs v l := h
theorem SeesI.nil : SeesI w B (.slice none 0 0) [] := ⟨none, 0, rfl, Nat.le_refl _, Nat.zero_le _, Sees.none_, fun _ => ⟨rfl, rfl⟩⟩
theorem OwnsI.nil : OwnsI w Bs (.slice none 0 0) [] := World.ownsRow_nil _ _ _ _
theorem OwnsI.base (h : OwnsI w Bs v l) (hB : B ≤ Bs) : OwnsI w B v l := by
  refine ⟨h.1, ?_⟩
  rcases h.2 with h | ⟨g, cap, cur, h1, h2, h3⟩
  · exact .inl h
  · exact .inr ⟨g, cap, cur, h1, by omega, h3⟩
theorem OwnsI.below (h : OwnsI w Bs v l) (hb : Below B' w w') (hB : w.heap.size ≤ B') : OwnsI w' Bs v l := Owns.belowN h hb hB
theorem OwnsI.alloc (h : OwnsI w Bs v l) (o : Obj) : OwnsI (w.alloc o) Bs v l := World.ownsRow.alloc h o
theorem iv_append (l m : List Int) (k : Nat) : (if k < l.length then iv l k else iv m (k - l.length)) = iv (l ++ m) k := by
  unfold iv
  simp only [List.getD_eq_getElem?_getD, List.getElem?_append]
  split <;> rfl
end


/-- A new block of bytes, written out. -/
theorem sees_liti (w : World) (e : TypeId) (cs : Array Value) (l : List Int) (hl : cs = (l.map (Value.int .i64)).toArray) (B : Nat) (hB : w.heap.size < B) (hm : l.length ≤ maxLen) (g n c : Nat) (hg : g = w.heap.size) (hn : n = l.length) (hc : c = l.length) :
    SeesI (w.alloc (.cells cs e)) B (.slice (some ⟨g, 0, none⟩) n c) l := ⟨some ⟨g, 0, none⟩, c, by rw [hn], by omega, by omega, fun _ => ⟨g, 0, rfl, by omega, fun k hk => by
    rw [Nat.zero_add, World.cell?_alloc_at _ _ _ _ hg, hl]
    unfold iv
    simp [List.getD_eq_getElem?_getD, hk]⟩, fun h => by cases h⟩
section
variable {w w1 w2 : World} {v v1 v2 : Value} {B B' : Nat}
end


theorem OwnsI.lt {w : World} {B : Nat} {v : Value} {l : List Int} (h : OwnsI w B v l) : ∀ j, v.ownBlock = some j → B ≤ j ∧ j < w.heap.size := World.ownsRow.lt h


section
variable {P : Program} (w : World) {ops : Array Oper} {rest : List Oper} {o : Oper} {a : Act} {K : Act → World → Prop} {Q : Exit → Act → World → Prop}


theorem SeesI.src {w : World} {B : Nat} {u : Value} {m : List Int} (h : SeesI w B u m) : Src w u 1 m.length ((List.range m.length).map (iv m)) := by
  obtain ⟨A, c, rfl, -, -, h3, h4⟩ := h.at_
  cases A with
  | none =>
    obtain ⟨h5, h6⟩ := h4 rfl
    subst h6
    exact .inl ⟨by rw [h5], h5, by rw [h5]; rfl⟩
  | some ad =>
    refine .inr ⟨ad, c, rfl, by simp, fun j x hj => ?_, fun x hx => ?_⟩
    · rw [List.getElem?_map] at hj
      by_cases hjm : j < m.length
      · rw [List.getElem?_range hjm] at hj
        simp at hj
        subst hj
        obtain ⟨b, off, he, _, hc⟩ := h3 (by omega)
        simp only [Option.some.injEq] at he
        subst he
        have := hc j hjm
        by_cases h1 : j = 0
        · subst h1; simpa [Addr.add] using this
        · simpa [Addr.add, h1] using this
      · rw [List.getElem?_eq_none (by simpa using hjm)] at hj
        cases hj
    · obtain ⟨k, hk, rfl⟩ := List.mem_map.1 hx
      rfl
theorem OwnsI.joined {w : World} {B : Nat} {v : Value} {l m : List Int} (h : w.ownsRow B 3 1 v (l.length + m.length) ((List.range l.length).map (iv l) ++ (List.range m.length).map (iv m))) : OwnsI w B v (l ++ m) := by
  unfold OwnsI Owns
  rw [List.length_append]
  have e : (List.range (l.length + m.length)).map (iv (l ++ m)) = (List.range l.length).map (iv l) ++ (List.range m.length).map (iv m) := by
    rw [← range_join]
    exact List.map_congr_left fun k _ => (iv_append l m k).symm
  rw [e]
  exact h

theorem wp_pushI (s x : Operand) (t : TypeId) (ho : o.op = .call { callee := .builtin .append, args := #[s, x], argTypes := #[t, t] })
    (B : Nat) (hinf : (P.info? 3).map (fun i => (i.zero, i.size, i.bytes)) = some (some (.int .i64 0), 1, 8)) (ht : P.underlying t = some (.slice 3))
    (v : Value) (l : List Int) (hown : OwnsI w B v l) (hs : a.eval s = v) (Bs : Nat) (u : Value) (m : List Int) (hx : a.eval x = u) (hsee : SeesI w Bs u m)
    (hB : B ≤ w.heap.size) (hroom : (l.length + m.length) * 8 ≤ 140737488355328)
    (h : ∀ v' w', OwnsI w' B v' (l ++ m) → Ext w w' v v' → K (a.put o.dst v') w') : o.wp P a w K Q :=
  wp_push w s x t ho B 3 (.int .i64 0) 1 8 hinf rfl (by omega) ht v l.length _ hown hs u m.length _ hx hsee.src hB (by unfold maxLen; omega) (by omega) fun v' w' h1 h2 => h v' w' (OwnsI.joined h1) h2
/-- 'append' of bytes, in a plain region. -/
theorem wpList_pushI (hgd : o.guard = none) (s x : Operand) (t : TypeId) (ho : o.op = .call { callee := .builtin .append, args := #[s, x], argTypes := #[t, t] })
    (B : Nat) (hinf : (P.info? 3).map (fun i => (i.zero, i.size, i.bytes)) = some (some (.int .i64 0), 1, 8)) (ht : P.underlying t = some (.slice 3))
    (v : Value) (l : List Int) (hown : OwnsI w B v l) (hs : a.eval s = v) (Bs : Nat) (u : Value) (m : List Int) (hx : a.eval x = u) (hsee : SeesI w Bs u m)
    (hB : B ≤ w.heap.size) (hroom : (l.length + m.length) * 8 ≤ 140737488355328)
    (h : ∀ v' w', OwnsI w' B v' (l ++ m) → Ext w w' v v' → wpList P ops Q rest (a.put o.dst v') w') : wpList P ops Q (o :: rest) a w :=
  wpList_plain hgd fun _ hK => wp_pushI w s x t ho B hinf ht v l hown hs Bs u m hx hsee hB hroom fun v' w' h1 h2 => hK _ _ (h v' w' h1 h2)
end

section
variable {P : Program} (w : World) {ops : Array Oper} {rest : List Oper} {o : Oper} {a : Act} {K : Act → World → Prop} {Q : Exit → Act → World → Prop}
end

theorem SeesI.alloc {w : World} {B : Nat} {v : Value} {l : List Int} (h : SeesI w B v l) (o : Obj) : SeesI (w.alloc o) B v l := ⟨by
  obtain ⟨A, c, rfl, h1, h2, h3, h4⟩ := h.at_
  refine ⟨A, c, rfl, h1, h2, fun h0 => ?_, h4⟩
  obtain ⟨b, off, e, hb, hc⟩ := h3 h0
  exact ⟨b, off, e, hb, fun k hk => Lib.cell?_alloc_some o (hc k hk)⟩⟩
theorem owns_emptyi (w : World) (e : TypeId) (he : e = 3) (B g : Nat) (hB : B ≤ w.heap.size) (hg : g = w.heap.size) : OwnsI (w.alloc (.cells #[] e)) B (.slice (some ⟨g, 0, none⟩) 0 0) [] := by
  subst he hg
  exact World.ownsRow_made w #[] 0 hB (by unfold maxLen; omega) rfl

section
variable {W W' : World} {g : Nat} {cs : Array Value} {t : TypeId}
end


theorem OwnsI.cell {w : World} {B g n c : Nat} {l : List Int} (h : OwnsI w B (.slice (some ⟨g, 0, none⟩) n c) l) (hn : n = l.length) {i : Nat} (hi : i < l.length) : w.cell? ⟨g, i, none⟩ = some (.int .i64 (l.getD i 0)) := by
  subst hn
  exact Owns.cell h hi
theorem OwnsI.frozen {w : World} {B g n c : Nat} {l : List Int} (h : OwnsI w B (.slice (some ⟨g, 0, none⟩) n c) l) (hn : n = l.length) (i : Nat) : w.frozen? ⟨g, i, none⟩ = false := by
  subst hn
  exact Owns.frozen h i
theorem OwnsI.set {w : World} {B g n c : Nat} {l : List Int} (h : OwnsI w B (.slice (some ⟨g, 0, none⟩) n c) l) (hn : n = l.length) (i : Nat) (x : Int) (hi : i < l.length) : OwnsI (w.setCell ⟨g, i, none⟩ (.int .i64 x)) B (.slice (some ⟨g, 0, none⟩) n c) (l.set i x) := by
  subst hn
  have := Owns.set_ h i (.int .i64 x) (V' := iv (l.set i x)) (by simp [iv, List.getD_eq_getElem?_getD, hi]) (fun j _ hj => by simp [iv, List.getD_eq_getElem?_getD, List.getElem?_set_ne (Ne.symm hj)])
  unfold OwnsI
  rw [List.length_set]
  exact this


end Go.Proofs.YtpdenmcacaajkaaGreat

/-! ### ClMath -/
namespace Go.Proofs.YtpdenmcacaajkaaGreat
namespace Clk

def sumL : List Int → Int
  | [] => 0
  | x :: l => x + sumL l
def minL : List Int → Int
  | [] => 0
  | x :: l => l.foldl min x
def maxL : List Int → Int
  | [] => 0
  | x :: l => l.foldl max x
/-- Without the least and the greatest, rounded down. -/
def avg (l : List Int) : Int :=
  if l.length = 0 then 0 else if l.length < 3 then sumL l / (l.length : Int) else (sumL l - minL l - maxL l) / ((l.length : Int) - 2)
def sorted (l : List Int) : Prop := ∀ p q, p < q → q < l.length → l.getD p 0 ≤ l.getD q 0

theorem sumL_append (l m : List Int) : sumL (l ++ m) = sumL l + sumL m := by
  induction l with
  | nil => simp [sumL]
  | cons x l ih => simp [sumL, ih]; omega
theorem sumL_perm {l m : List Int} (h : l.Perm m) : sumL l = sumL m := by
  induction h with
  | nil => rfl
  | cons x _ ih => simp [sumL, ih]
  | swap x y l => simp [sumL]; omega
  | trans _ _ h1 h2 => exact h1.trans h2
theorem foldl_min_le (l : List Int) (a : Int) : l.foldl min a ≤ a ∧ ∀ x ∈ l, l.foldl min a ≤ x := by
  induction l generalizing a with
  | nil => simp
  | cons y l ih =>
    obtain ⟨h1, h2⟩ := ih (min a y)
    refine ⟨by simp only [List.foldl_cons]; omega, fun x hx => ?_⟩
    simp only [List.foldl_cons]
    rcases List.mem_cons.1 hx with rfl | hx
    · omega
    · exact h2 x hx
theorem foldl_min_mem (l : List Int) (a : Int) : l.foldl min a = a ∨ l.foldl min a ∈ l := by
  induction l generalizing a with
  | nil => simp
  | cons y l ih =>
    simp only [List.foldl_cons, List.mem_cons]
    rcases ih (min a y) with h | h
    · rw [h]; omega
    · exact .inr (.inr h)
theorem foldl_max_le (l : List Int) (a : Int) : a ≤ l.foldl max a ∧ ∀ x ∈ l, x ≤ l.foldl max a := by
  induction l generalizing a with
  | nil => simp
  | cons y l ih =>
    obtain ⟨h1, h2⟩ := ih (max a y)
    refine ⟨by simp only [List.foldl_cons]; omega, fun x hx => ?_⟩
    simp only [List.foldl_cons]
    rcases List.mem_cons.1 hx with rfl | hx
    · omega
    · exact h2 x hx
theorem foldl_max_mem (l : List Int) (a : Int) : l.foldl max a = a ∨ l.foldl max a ∈ l := by
  induction l generalizing a with
  | nil => simp
  | cons y l ih =>
    simp only [List.foldl_cons, List.mem_cons]
    rcases ih (max a y) with h | h
    · rw [h]; omega
    · exact .inr (.inr h)
theorem minL_spec {l : List Int} (h : l ≠ []) : minL l ∈ l ∧ ∀ x ∈ l, minL l ≤ x := by
  cases l with
  | nil => exact absurd rfl h
  | cons y l =>
    obtain ⟨h1, h2⟩ := foldl_min_le l y
    refine ⟨?_, fun x hx => ?_⟩
    · rcases foldl_min_mem l y with h | h
      · show l.foldl min y ∈ y :: l; rw [h]; simp
      · exact List.mem_cons_of_mem _ h
    · rcases List.mem_cons.1 hx with rfl | hx
      · exact h1
      · exact h2 x hx
theorem maxL_spec {l : List Int} (h : l ≠ []) : maxL l ∈ l ∧ ∀ x ∈ l, x ≤ maxL l := by
  cases l with
  | nil => exact absurd rfl h
  | cons y l =>
    obtain ⟨h1, h2⟩ := foldl_max_le l y
    refine ⟨?_, fun x hx => ?_⟩
    · rcases foldl_max_mem l y with h | h
      · show l.foldl max y ∈ y :: l; rw [h]; simp
      · exact List.mem_cons_of_mem _ h
    · rcases List.mem_cons.1 hx with rfl | hx
      · exact h1
      · exact h2 x hx
theorem minL_perm {l m : List Int} (h : l.Perm m) : minL l = minL m := by
  by_cases h0 : l = []
  · subst h0; rw [h.symm.eq_nil]
  have h1 : m ≠ [] := fun e => h0 (by subst e; exact h.eq_nil)
  obtain ⟨a, b⟩ := minL_spec h0
  obtain ⟨c, d⟩ := minL_spec h1
  have := b _ (h.symm.mem_iff.1 c)
  have := d _ (h.mem_iff.1 a)
  omega
theorem maxL_perm {l m : List Int} (h : l.Perm m) : maxL l = maxL m := by
  by_cases h0 : l = []
  · subst h0; rw [h.symm.eq_nil]
  have h1 : m ≠ [] := fun e => h0 (by subst e; exact h.eq_nil)
  obtain ⟨a, b⟩ := maxL_spec h0
  obtain ⟨c, d⟩ := maxL_spec h1
  have := b _ (h.symm.mem_iff.1 c)
  have := d _ (h.mem_iff.1 a)
  omega
theorem avg_perm {l m : List Int} (h : l.Perm m) : avg l = avg m := by
  unfold avg
  rw [sumL_perm h, minL_perm h, maxL_perm h, h.length_eq]

/-- One step of insertion: two neighbours change places. -/
def swp (l : List Int) (j : Nat) : List Int := (l.set j (l.getD (j - 1) 0)).set (j - 1) (l.getD j 0)
theorem swp_getD (l : List Int) (j k : Nat) (h0 : 0 < j) (hj : j < l.length) : (swp l j).getD k 0 = if k = j - 1 then l.getD j 0 else if k = j then l.getD (j - 1) 0 else l.getD k 0 := by
  unfold swp
  simp only [List.getD_eq_getElem?_getD, List.getElem?_set, List.length_set]
  by_cases h1 : k = j - 1
  · subst h1; simp [show j - 1 < l.length by omega]
  · rw [if_neg (fun h => h1 h.symm), if_neg h1]
    by_cases h2 : k = j
    · subst h2; simp [hj]
    · rw [if_neg (fun h => h2 h.symm), if_neg h2]
theorem swp_perm (l : List Int) (j : Nat) (h0 : 0 < j) (hj : j < l.length) : (swp l j).Perm l := by
  obtain ⟨i, rfl⟩ : ∃ i, j = i + 1 := ⟨j - 1, by omega⟩
  unfold swp
  simp only [Nat.add_sub_cancel]
  induction l generalizing i with
  | nil => simp at hj
  | cons x l ih =>
    cases i with
    | zero =>
      cases l with
      | nil => simp at hj
      | cons y l => simpa using List.Perm.swap x y l
    | succ i =>
      simp only [List.length_cons, Nat.add_lt_add_iff_right] at hj
      have := ih i (by omega) hj
      simpa using List.Perm.cons x this

/-- What insertion sort keeps: the first i are sorted but for the one at j. -/
def ins (l : List Int) (i j : Nat) : Prop := ∀ p q, p < q → q ≤ i → q ≠ j → l.getD p 0 ≤ l.getD q 0
theorem ins_start {l : List Int} {i : Nat} (h : ∀ p q, p < q → q < i → l.getD p 0 ≤ l.getD q 0) : ins l i i := fun p q h1 h2 h3 => h p q h1 (by omega)
theorem ins_end {l : List Int} {i j : Nat} (h : ins l i j) (hj : j = 0 ∨ l.getD (j - 1) 0 ≤ l.getD j 0) : ∀ p q, p < q → q < i + 1 → l.getD p 0 ≤ l.getD q 0 := fun p q h1 h2 => by
  by_cases hq : q = j
  · subst hq
    rcases hj with hj | hj
    · omega
    · by_cases hp : p = q - 1
      · subst hp; exact hj
      · exact Int.le_trans (h p (q - 1) (by omega) (by omega) (by omega)) hj
  · exact h p q h1 (by omega) hq
theorem ins_step {l : List Int} {i j : Nat} (h : ins l i j) (h0 : 0 < j) (hji : j ≤ i) (hi : i < l.length) (hlt : l.getD j 0 < l.getD (j - 1) 0) : ins (swp l j) i (j - 1) := fun p q h1 h2 h3 => by
  rw [swp_getD l j p h0 (by omega), swp_getD l j q h0 (by omega), if_neg h3]
  by_cases hq : q = j
  · rw [if_pos hq]
    by_cases hp : p = j - 1
    · rw [if_pos hp]; omega
    · rw [if_neg hp, if_neg (by omega)]
      exact h p (j - 1) (by omega) (by omega) (by omega)
  · rw [if_neg hq]
    by_cases hp : p = j - 1
    · rw [if_pos hp]; exact h j q (by omega) h2 hq
    · rw [if_neg hp]
      by_cases hp2 : p = j
      · rw [if_pos hp2]; exact h (j - 1) q (by omega) h2 hq
      · rw [if_neg hp2]; exact h p q h1 h2 hq

/-- Of three or four that are sorted the middle ones are left. -/
theorem avg_mid {l : List Int} (hs : sorted l) (h3 : 3 ≤ l.length) (h4 : l.length ≤ 4) : avg l = sumL ((l.drop 1).take (l.length - 2)) / (((l.drop 1).take (l.length - 2)).length : Int) := by
  match l, hs, h3, h4 with
  | [a, b, c], hs, _, _ =>
    have h1 := hs 0 1 (by omega) (by simp)
    have h2 := hs 1 2 (by omega) (by simp)
    simp at h1 h2
    simp [avg, sumL, minL, maxL]
    omega
  | [a, b, c, d], hs, _, _ =>
    have h1 := hs 0 1 (by omega) (by simp)
    have h2 := hs 1 2 (by omega) (by simp)
    have h3 := hs 2 3 (by omega) (by simp)
    simp at h1 h2 h3
    simp [avg, sumL, minL, maxL]
    omega
theorem avg_small {l : List Int} (h0 : 0 < l.length) (h : l.length < 3) : avg l = sumL l / (l.length : Int) := by
  unfold avg; rw [if_neg (by omega), if_pos h]

theorem td2 (x : Int) : x = 2 * x.tdiv 2 + x.tmod 2 ∧ (0 ≤ x → 0 ≤ x.tmod 2 ∧ x.tmod 2 ≤ 1) ∧ (x < 0 → -1 ≤ x.tmod 2 ∧ x.tmod 2 ≤ 0) := by
  refine ⟨by have := Int.mul_tdiv_add_tmod x 2; omega, fun h => ?_, fun h => ?_⟩
  · have := Int.tmod_eq_emod_of_nonneg (b := 2) h; omega
  · have e : x.tmod 2 = -((-x).tmod 2) := by rw [Int.neg_tmod, Int.neg_neg]
    have := Int.tmod_eq_emod_of_nonneg (a := -x) (b := 2) (by omega)
    omega

end Clk
end Go.Proofs.YtpdenmcacaajkaaGreat

/-! ### ClA -/
namespace Go.Proofs.YtpdenmcacaajkaaGreat
open Go.RowKit

theorem ret_int {k : IntKind} {a b : Int} (h : a = b) : Ending.returned (.int k a) = .returned (.int k b) := by rw [h]
theorem ret_bool {a b : Bool} (h : a = b) : Ending.returned (.bool a) = .returned (.bool b) := by rw [h]
/-- Numbers that may be. -/
def small (l : List Int) : Prop := ∀ x ∈ l, -1099511627776 ≤ x ∧ x ≤ 1099511627776
theorem small.getD {l : List Int} (h : small l) (k : Nat) : -1099511627776 ≤ l.getD k 0 ∧ l.getD k 0 ≤ 1099511627776 := by
  by_cases hk : k < l.length
  · rw [List.getD_eq_getElem?_getD, List.getElem?_eq_getElem hk, Option.getD_some]
    exact h _ (List.getElem_mem _)
  · rw [List.getD_eq_getElem?_getD, List.getElem?_eq_none (by omega)]
    exact ⟨by decide, by decide⟩
theorem SeesI.cell {w : World} {B : Nat} {A : Option Addr} {n c : Nat} {l : List Int} (h : SeesI w B (.slice A n c) l) (k : Nat) (hk : k < l.length) : ∃ b off, A = some ⟨b, off, none⟩ ∧ b < B ∧ w.cell? ⟨b, off + k, none⟩ = some (.int .i64 (l.getD k 0)) := by
  obtain ⟨A', c', e, -, -, h3, -⟩ := h.at_
  simp only [Value.slice.injEq] at e
  obtain ⟨rfl, rfl, rfl⟩ := e
  obtain ⟨b, off, hA, hb, hc⟩ := h3 (by omega)
  exact ⟨b, off, hA, hb, hc k hk⟩

/-- Whether a turn may be. -/
def wiB (m n : Int) : Bool := decide (-m ≤ n ∧ n ≤ m)
set_option maxHeartbeats 1000000 in
theorem reaches_cl (m n : Int) (w : World) (h : 0 ≤ m ∧ m ≤ 9223372036854775807) :
    Calls Tryz.prog 169 #[.int .i64 m, .int .i64 n] w fun e w' => e = .returned (.bool (wiB m n)) ∧ w' = w := by
  obtain ⟨h1, h2⟩ := h
  go_enter Tryz.func169, Tryz.ntmps169
  go_wp2
  · rename_i h
    go_ret
    exact ⟨ret_bool (by unfold wiB; simp [h]), rfl⟩
  · rename_i h
    go_ret
    exact ⟨ret_bool (by unfold wiB; simp; omega), rfl⟩
set_option maxHeartbeats 1000000 in
theorem less_cm (a b : Int) (w : World) :
    Calls Tryz.prog 209 #[.int .i64 a, .int .i64 b] w fun e w' => e = .returned (.bool (decide (a < b))) ∧ w' = w := by
  go_enter Tryz.func209, Tryz.ntmps209
  go_wp2
  go_ret
  exact ⟨rfl, rfl⟩
set_option maxRecDepth 100000 in
set_option maxHeartbeats 1000000 in
theorem len64_bt (x : Int) (w : World) (h : 0 ≤ x ∧ x < 256) :
    Calls Tryz.prog 213 #[.int .u64 x] w fun e w' => ∃ n : Int, e = .returned (.int .i64 n) ∧ w' = w := by
  obtain ⟨h1, h2⟩ := h
  have d1 : decide (4294967296 ≤ x) = false := by simp; omega
  go_enter Tryz.func213, Tryz.ntmps213
  go_wp2
  go_ret
  exact ⟨_, rfl, rfl⟩
set_option maxRecDepth 100000 in
set_option maxHeartbeats 1000000 in
theorem len_bt (x : Int) (w : World) (h : 0 ≤ x ∧ x < 256) :
    Calls Tryz.prog 196 #[.int .u64 x] w fun e w' => ∃ n : Int, e = .returned (.int .i64 n) ∧ w' = w := by
  go_enter Tryz.func196, Tryz.ntmps196
  go_wp2_with (go_at_call 213; refine (len64_bt x _ h).mono ?_; rintro e w' ⟨n, rfl, rfl⟩)
  go_ret
  exact ⟨_, rfl, rfl⟩
end Go.Proofs.YtpdenmcacaajkaaGreat

/-! ### ClB -/
namespace Go.Proofs.YtpdenmcacaajkaaGreat
open Go.RowKit
open Clk (ins swp)

/-- What sorting leaves. -/
def Srt (w : World) (B : Nat) (v : Value) (l : List Int) (w' : World) : Prop := ∃ l' : List Int, l'.Perm l ∧ Clk.sorted l' ∧ OwnsI w' B v l' ∧ Below B w w'

set_option maxRecDepth 100000 in
set_option maxHeartbeats 4000000 in
theorem isort_sl (l : List Int) (g n c : Nat) (w : World) (B : Nat) (how : OwnsI w B (.slice (some ⟨g, 0, none⟩) n c) l) (hn : n = l.length) (h0 : 0 < n) (h12 : n ≤ 12) :
    Calls Tryz.prog 203 #[.slice (some ⟨g, 0, none⟩) n c, .int .i64 0, .int .i64 n] w fun e w' => e = .returned (.tuple #[]) ∧ Srt w B (.slice (some ⟨g, 0, none⟩) n c) l w' := by
  have HN := Lib.hid hn
  clear hn
  have hBg := how.lt g rfl
  go_enter Tryz.func203, Tryz.ntmps203
  go_wp2
  go_loopw [6] (fun i wr => ∃ (k : Nat) (m : List Int), 1 ≤ k ∧ k ≤ n ∧ i = .int .i64 k ∧ m.Perm l ∧ (∀ p q, p < q → q < k → m.getD p 0 ≤ m.getD q 0) ∧ OwnsI wr B (.slice (some ⟨g, 0, none⟩) n c) m ∧ Below B w wr) (fun i _ => n - (intOf i).toNat)
  case atStart => exact ⟨1, l, by omega, by omega, rfl, List.Perm.refl _, fun p q _ _ => by omega, how, Below.refl _ _⟩
  case round =>
    obtain ⟨k, m, hk1, hk, rfl, hp, hs, ho, hb⟩ := hrel
    have hm := Lib.hid hp.length_eq
    by_cases hlt : k < n
    · have q1 : decide ((k : Int) < (n : Nat)) = true := by simp; omega
      go_wp2
      go_loopw [7] (fun j wi => ∃ (t : Nat) (m' : List Int), t ≤ k ∧ j = .int .i64 t ∧ m'.Perm l ∧ ins m' k t ∧ OwnsI wi B (.slice (some ⟨g, 0, none⟩) n c) m' ∧ Below B w wi) (fun j _ => (intOf j).toNat)
      case atStart => exact ⟨k, m, by omega, rfl, hp, Clk.ins_start hs, ho, hb⟩
      case round =>
        obtain ⟨t, m', ht, rfl, hp', hi, ho', hb'⟩ := hrel
        have hm' := Lib.hid hp'.length_eq
        by_cases h00 : 0 < t
        · have c1 := ho'.cell (i := t) (by have := HN.out; have := hm'.out; omega) (by have := HN.out; have := hm'.out; omega)
          have c2 := ho'.cell (i := t - 1) (by have := HN.out; have := hm'.out; omega) (by have := HN.out; have := hm'.out; omega)
          have f1 := ho'.frozen (by have := HN.out; have := hm'.out; omega) t
          have f2 := ho'.frozen (by have := HN.out; have := hm'.out; omega) (t - 1)
          have q2 : decide ((0 : Int) < (t : Nat)) = true := by simp; omega
          have hdn := fun nq => Lib.hid (ho'.below (below_drewN (Below.refl wr.heap.size wr) nq) (Nat.le_refl _))
          have hbn := fun nq => Lib.hid (hb'.trans (below_drewN (Below.refl B wr) nq))
          by_cases hless : m'.getD t 0 < m'.getD (t - 1) 0
          · have hstep := Lib.hid (Clk.ins_step hi h00 ht (by have := HN.out; have := hm'.out; omega) hless)
            have hset : ∀ W, OwnsI W B (.slice (some ⟨g, 0, none⟩) n c) m' → OwnsI ((W.setCell ⟨g, t, none⟩ (.int .i64 (m'.getD (t - 1) 0))).setCell ⟨g, t - 1, none⟩ (.int .i64 (m'.getD t 0))) B (.slice (some ⟨g, 0, none⟩) n c) (swp m' t) := fun W hW => (hW.set (by have := HN.out; have := hm'.out; omega) t (m'.getD (t - 1) 0) (by have := HN.out; have := hm'.out; omega)).set (by simp; have := HN.out; have := hm'.out; omega) (t - 1) (m'.getD t 0) (by simp; have := HN.out; have := hm'.out; omega)
            have hset := Lib.hid hset
            obtain ⟨s, rfl⟩ : ∃ s, t = s + 1 := ⟨t - 1, by omega⟩
            simp only [Nat.add_sub_cancel] at c2 f2 hless hset
            generalize m'.getD (s + 1) 0 = x at *
            generalize m'.getD s 0 = y at *
            have q3 : decide (x < y) = true := by simp; omega
            go_wp2
            go_quiet ((go_at_call 209; exact Calls.quiet_of_same (less_cm _ _ _)))
            go_wp2
            go_region
            go_wp2
            go_roundw
            case rel => exact ⟨s, swp m' (s + 1), by omega, rfl, (Clk.swp_perm m' (s + 1) h00 (by have := HN.out; have := hm'.out; omega)).trans hp', hstep.out, hset.out _ (hdn _).out, ((hbn _).out.setCell (p := ⟨g, s + 1, none⟩) hBg.1 _).setCell (p := ⟨g, s, none⟩) hBg.1 _⟩
            case measure => simp [intOf]
          · have hend := Lib.hid (Clk.ins_end hi (.inr (by omega)))
            generalize m'.getD t 0 = x at *
            generalize m'.getD (t - 1) 0 = y at *
            have q3 : decide (x < y) = false := decide_eq_false (by omega)
            go_wp2
            go_quiet ((go_at_call 209; exact Calls.quiet_of_same (less_cm _ _ _)))
            go_wp2
            go_roundw
            case rel => exact ⟨k + 1, m', by omega, by omega, by go_num, hp', hend.out, (hdn _).out, (hbn _).out⟩
            case measure => simp [intOf]; omega
        · have hend := Lib.hid (Clk.ins_end hi (.inl (by omega)))
          have hdn := fun nq => Lib.hid (ho'.below (below_drewN (Below.refl wr.heap.size wr) nq) (Nat.le_refl _))
          have hbn := fun nq => Lib.hid (hb'.trans (below_drewN (Below.refl B wr) nq))
          have q2 : decide ((0 : Int) < (t : Nat)) = false := decide_eq_false (by omega)
          go_wp2
          go_quiet (fail)
          go_wp2
          go_roundw
          case rel => exact ⟨k + 1, m', by omega, by omega, by go_num, hp', hend.out, (hdn _).out, (hbn _).out⟩
          case measure => simp [intOf]; omega
    · have q1 : decide ((k : Int) < (n : Nat)) = false := by simp; omega
      have hkn : k = n := by omega
      have hfin : Clk.sorted m := fun p q h1 h2 => hs p q h1 (by have := HN.out; have := hm.out; omega)
      have hfin := Lib.hid hfin
      clear hkn hs
      go_wp2
      exact bodyPost_end (results_none (by rfl) _ _ _) rfl ⟨rfl, m, hp, hfin.out, ho, hb⟩

set_option maxRecDepth 100000 in
set_option maxHeartbeats 4000000 in
theorem pdq_sl (l : List Int) (g n c : Nat) (k : Int) (w : World) (B : Nat) (how : OwnsI w B (.slice (some ⟨g, 0, none⟩) n c) l) (hn : n = l.length) (h0 : 0 < n) (h12 : n ≤ 12) :
    Calls Tryz.prog 195 #[.slice (some ⟨g, 0, none⟩) n c, .int .i64 0, .int .i64 n, .int .i64 k] w fun e w' => e = .returned (.tuple #[]) ∧ Srt w B (.slice (some ⟨g, 0, none⟩) n c) l w' := by
  have H := Lib.hid (isort_sl l g n c w B how hn h0 h12)
  clear how hn
  have q1 : decide ((n : Int) ≤ 12) = true := by simp; omega
  go_enter Tryz.func195, Tryz.ntmps195
  go_wp2_with fail
  refine wp_loop_once ?_
  go_wp2_with fail
  refine H.out.mono ?_
  rintro e w' ⟨rfl, hs⟩
  go_wp2
  exact bodyPost_ret (results_none (by rfl) _ _ _) rfl ⟨rfl, hs⟩
set_option maxRecDepth 100000 in
set_option maxHeartbeats 4000000 in
/-- slices.Sort of a short list that the call owns. -/
theorem sort_sl (l : List Int) (g n c : Nat) (w : World) (B : Nat) (how : OwnsI w B (.slice (some ⟨g, 0, none⟩) n c) l) (hn : n = l.length) (h0 : 0 < n) (h12 : n ≤ 12) :
    Calls Tryz.prog 185 #[.slice (some ⟨g, 0, none⟩) n c] w fun e w' => e = .returned (.tuple #[]) ∧ Srt w B (.slice (some ⟨g, 0, none⟩) n c) l w' := by
  have H := fun k => Lib.hid (pdq_sl l g n c k w B how hn h0 h12)
  have K := Lib.hid (len_bt (n : Int) w (by omega))
  clear how hn
  go_enter Tryz.func185, Tryz.ntmps185
  go_wp2_with fail
  refine K.out.mono ?_
  rintro e w' ⟨k, rfl, rfl⟩
  go_wp2_with fail
  refine (H k).out.mono ?_
  rintro e w' ⟨rfl, hs⟩
  go_wp2
  exact bodyPost_end (results_none (by rfl) _ _ _) rfl ⟨rfl, hs⟩
set_option maxRecDepth 100000 in
set_option maxHeartbeats 4000000 in
/-- slices.Clone of a list that is not nil. -/
theorem clone_sl (l : List Int) (v : Value) (w : World) (B : Nat) (hv : SeesI w B v l) (h0 : 0 < l.length) (h4 : l.length ≤ 1000) :
    Calls Tryz.prog 184 #[v] w fun e w' => ∃ v', e = .returned v' ∧ OwnsI w' w.heap.size v' l ∧ Below w.heap.size w w' := by
  obtain ⟨A, c, rfl, h1, h2, h3, h4'⟩ := hv.at_
  obtain ⟨b, off, rfl, hb, hc⟩ := h3 h0
  have H := Lib.hid (owns_emptyi w 3 rfl w.heap.size w.heap.size (Nat.le_refl _) rfl)
  have hs := Lib.hid ((hv.alloc (.cells #[] 3)))
  have q0 := Lib.run_eql_slice_nil (P := Tryz.prog) w 46 3 (some ⟨b, off, none⟩) l.length c 0 0 Tryz.underlying46
  clear hv h3 h4' hc
  go_enter Tryz.func184, Tryz.ntmps184
  go_wp2_with (at_builtin; go_loud (refine wpList_pushI _ rfl (.tmp 5) (.tmp 6) 46 rfl w.heap.size infoInt Tryz.underlying46 _ [] H.out rfl _ _ l rfl hs.out (by simp) (by simp; omega) ?_))
  intro v' w' ho he
  go_wp2
  go_ret
  exact ⟨_, rfl, by simpa using ho, ((Below.refl _ _).alloc (Nat.le_refl _) _).trans (he.toBelow (by simp) (fun j hj => by simp [Value.ownBlock] at hj; omega))⟩
end Go.Proofs.YtpdenmcacaajkaaGreat
