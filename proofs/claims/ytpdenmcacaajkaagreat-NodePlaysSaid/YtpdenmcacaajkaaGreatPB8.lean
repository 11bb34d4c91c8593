/- Texts Ints, ClMath, ClA in one. For what each says in front of its theorems. -/
import Derived.Laws.AppendOwnNone
import Derived.SizedLaws
import Derived.ProofKit
import Derived.OpenShut
import Derived.ShutString
import Derived.ChangeOld
import Derived.Deep.Slices
import Derived.Deep.Fields
import Derived.Deep.AppendLies
import Derived.Deep.CutBlock
import Derived.Maps.Range
import Derived.Deep.RegionHeld3
import Derived.Deep.RegionLaw
import Derived.RegionTactic
import Derived.BigRegion
import Derived.Lib.SmallJoins
import Derived.WalkKit
import Derived.IntWalk
import Derived.Test.YtpdenmcacaajkaaGreatPB1
import Derived.Test.YtpdenmcacaajkaaGreatPB7
/-! ### Ints -/
namespace Go.Proofs.YtpdenmcacaajkaaGreat
open Go.ChangeShapes Go.WideShapes Go.ChangeAt Go.RowKit







theorem infoInt : (Tryz.prog.info? 3).map (fun i => (i.zero, i.size, i.bytes)) = some (some (.int .i64 0), 1, 8) := by kernel_rfl

/-- The cells of a list of bytes. -/
def iv (l : List Int) (k : Nat) : Value := .int .i64 (l.getD k 0)

/-- What the call made: a slice of these bytes. -/
def OwnsI (w : World) (base : Nat) (v : Value) (l : List Int) : Prop := Owns w base 3 v l.length (iv l)
/-- A slice of these bytes, nil told. -/
structure SeesI (w : World) (B : Nat) (v : Value) (l : List Int) : Prop where
  at_ : ∃ A c, v = .slice A l.length c ∧ l.length ≤ c ∧ c ≤ maxLen ∧ Sees w B A l.length (iv l) ∧ (A = none → l.length = 0 ∧ c = 0)

section
variable {w w' : World} {B B' Bs : Nat} {v : Value} {l m : List Int}
theorem OwnsI.sees (h : OwnsI w Bs v l) : SeesI w w.heap.size v l := ⟨by
  obtain ⟨A, c, rfl, h1, h2, h3, h4⟩ := Owns.formN h
  exact ⟨A, c, rfl, h1, h2, h3, h4⟩⟩
theorem SeesI.below (h : SeesI w B v l) (hb : Below B w w') : SeesI w' B v l := ⟨by
  obtain ⟨A, c, rfl, h1, h2, h3, h4⟩ := h.at_
  exact ⟨A, c, rfl, h1, h2, h3.below hb, h4⟩⟩
theorem SeesI.more (h : SeesI w B v l) (hB : B ≤ B') : SeesI w B' v l := ⟨by
  obtain ⟨A, c, rfl, h1, h2, h3, h4⟩ := h.at_
  exact ⟨A, c, rfl, h1, h2, h3.more hB, h4⟩⟩
theorem SeesI.drew (h : SeesI w B v l) : SeesI w.drew B v l := ⟨by
  obtain ⟨A, c, rfl, h1, h2, h3, h4⟩ := h.at_
  exact ⟨A, c, rfl, h1, h2, h3, h4⟩⟩
theorem OwnsI.drew (h : OwnsI w Bs v l) : OwnsI w.drew Bs v l := h
theorem SeesI.nil : SeesI w B (.slice none 0 0) [] := ⟨none, 0, rfl, Nat.le_refl _, Nat.zero_le _, Sees.none_, fun _ => ⟨rfl, rfl⟩⟩
theorem OwnsI.nil : OwnsI w Bs (.slice none 0 0) [] := World.ownsRow_nil _ _ _ _
theorem OwnsI.base (h : OwnsI w Bs v l) (hB : B ≤ Bs) : OwnsI w B v l := by
  refine ⟨h.1, ?_⟩
  rcases h.2 with h | ⟨g, cap, cur, h1, h2, h3⟩
  · exact .inl h
  · exact .inr ⟨g, cap, cur, h1, by omega, h3⟩
theorem OwnsI.below (h : OwnsI w Bs v l) (hb : Below B' w w') (hB : w.heap.size ≤ B') : OwnsI w' Bs v l := Owns.belowN h hb hB
theorem OwnsI.alloc (h : OwnsI w Bs v l) (o : Obj) : OwnsI (w.alloc o) Bs v l := World.ownsRow.alloc h o
theorem iv_append (l m : List Int) (k : Nat) : (if k < l.length then iv l k else iv m (k - l.length)) = iv (l ++ m) k := by
  unfold iv
  simp only [List.getD_eq_getElem?_getD, List.getElem?_append]
  split <;> rfl
end


/-- A new block of bytes, written out. -/
theorem sees_liti (w : World) (e : TypeId) (cs : Array Value) (l : List Int) (hl : cs = (l.map (Value.int .i64)).toArray) (B : Nat) (hB : w.heap.size < B) (hm : l.length ≤ maxLen) (g n c : Nat) (hg : g = w.heap.size) (hn : n = l.length) (hc : c = l.length) :
    SeesI (w.alloc (.cells cs e)) B (.slice (some ⟨g, 0, none⟩) n c) l := ⟨some ⟨g, 0, none⟩, c, by rw [hn], by omega, by omega, fun _ => ⟨g, 0, rfl, by omega, fun k hk => by
    rw [Nat.zero_add, World.cell?_alloc_at _ _ _ _ hg, hl]
    unfold iv
    simp [List.getD_eq_getElem?_getD, hk]⟩, fun h => by cases h⟩
theorem owns_liti (w : World) (e : TypeId) (he : e = 3) (cs : Array Value) (l : List Int) (hl : cs = (l.map (Value.int .i64)).toArray) (B : Nat) (hB : B ≤ w.heap.size) (hm : l.length ≤ maxLen) (g n c : Nat) (hg : g = w.heap.size) (hn : n = l.length) (hc : c = l.length) :
    OwnsI (w.alloc (.cells cs e)) B (.slice (some ⟨g, 0, none⟩) n c) l := by
  subst he hn hc hg
  have := World.ownsRow_lit (base := B) (e := 3) (size := 1) w cs l.length hB hm (by rw [hl]; simp)
  unfold OwnsI Owns
  have e : (List.range l.length).map (iv l) = cs.toList := by
    rw [hl]
    apply List.ext_getElem?
    intro i
    by_cases hi : i < l.length
    · simp [hi, iv, List.getD_eq_getElem?_getD]
    · rw [List.getElem?_eq_none (by simp; omega), List.getElem?_eq_none (by simp; omega)]
  rw [e]
  exact this


section
variable {w w1 w2 : World} {v v1 v2 : Value} {B B' : Nat}
/-- What was seen in another block is seen still. -/
theorem Ext.seesI {l : List Int} {u : Value} (h : Ext w w1 v v1) (hs : SeesI w B u l) (hne : u.ownBlock = none ∨ v.ownBlock ≠ u.ownBlock) : SeesI w1 B u l := ⟨by
  obtain ⟨A, c, rfl, h1, h2, h3, h4⟩ := hs.at_
  refine ⟨A, c, rfl, h1, h2, fun h0 => ?_, h4⟩
  obtain ⟨b, off, rfl, hb, hc⟩ := h3 h0
  refine ⟨b, off, rfl, hb, fun k hk => h.cell (hc k hk) ?_⟩
  rcases hne with hn | hn
  · simp [Value.ownBlock] at hn
  · simpa [Value.ownBlock] using hn⟩
end


theorem OwnsI.lt {w : World} {B : Nat} {v : Value} {l : List Int} (h : OwnsI w B v l) : ∀ j, v.ownBlock = some j → B ≤ j ∧ j < w.heap.size := World.ownsRow.lt h


section
variable {P : Program} (w : World) {ops : Array Oper} {rest : List Oper} {o : Oper} {a : Act} {K : Act → World → Prop} {Q : Exit → Act → World → Prop}


theorem SeesI.src {w : World} {B : Nat} {u : Value} {m : List Int} (h : SeesI w B u m) : Src w u 1 m.length ((List.range m.length).map (iv m)) := by
  obtain ⟨A, c, rfl, -, -, h3, h4⟩ := h.at_
  cases A with
  | none =>
    obtain ⟨h5, h6⟩ := h4 rfl
    subst h6
    exact .inl ⟨by rw [h5], h5, by rw [h5]; rfl⟩
  | some ad =>
    refine .inr ⟨ad, c, rfl, by simp, fun j x hj => ?_, fun x hx => ?_⟩
    · rw [List.getElem?_map] at hj
      by_cases hjm : j < m.length
      · rw [List.getElem?_range hjm] at hj
        simp at hj
        subst hj
        obtain ⟨b, off, he, _, hc⟩ := h3 (by omega)
        simp only [Option.some.injEq] at he
        subst he
        have := hc j hjm
        by_cases h1 : j = 0
        · subst h1; simpa [Addr.add] using this
        · simpa [Addr.add, h1] using this
      · rw [List.getElem?_eq_none (by simpa using hjm)] at hj
        cases hj
    · obtain ⟨k, hk, rfl⟩ := List.mem_map.1 hx
      rfl
theorem OwnsI.joined {w : World} {B : Nat} {v : Value} {l m : List Int} (h : w.ownsRow B 3 1 v (l.length + m.length) ((List.range l.length).map (iv l) ++ (List.range m.length).map (iv m))) : OwnsI w B v (l ++ m) := by
  unfold OwnsI Owns
  rw [List.length_append]
  have e : (List.range (l.length + m.length)).map (iv (l ++ m)) = (List.range l.length).map (iv l) ++ (List.range m.length).map (iv m) := by
    rw [← range_join]
    exact List.map_congr_left fun k _ => (iv_append l m k).symm
  rw [e]
  exact h

theorem wp_pushI (s x : Operand) (t : TypeId) (ho : o.op = .call { callee := .builtin .append, args := #[s, x], argTypes := #[t, t] })
    (B : Nat) (hinf : (P.info? 3).map (fun i => (i.zero, i.size, i.bytes)) = some (some (.int .i64 0), 1, 8)) (ht : P.underlying t = some (.slice 3))
    (v : Value) (l : List Int) (hown : OwnsI w B v l) (hs : a.eval s = v) (Bs : Nat) (u : Value) (m : List Int) (hx : a.eval x = u) (hsee : SeesI w Bs u m)
    (hB : B ≤ w.heap.size) (hroom : (l.length + m.length) * 8 ≤ 140737488355328)
    (h : ∀ v' w', OwnsI w' B v' (l ++ m) → Ext w w' v v' → K (a.put o.dst v') w') : o.wp P a w K Q :=
  wp_push w s x t ho B 3 (.int .i64 0) 1 8 hinf rfl (by omega) ht v l.length _ hown hs u m.length _ hx hsee.src hB (by unfold maxLen; omega) (by omega) fun v' w' h1 h2 => h v' w' (OwnsI.joined h1) h2
/-- 'append' of bytes, in a plain region. -/
theorem wpList_pushI (hgd : o.guard = none) (s x : Operand) (t : TypeId) (ho : o.op = .call { callee := .builtin .append, args := #[s, x], argTypes := #[t, t] })
    (B : Nat) (hinf : (P.info? 3).map (fun i => (i.zero, i.size, i.bytes)) = some (some (.int .i64 0), 1, 8)) (ht : P.underlying t = some (.slice 3))
    (v : Value) (l : List Int) (hown : OwnsI w B v l) (hs : a.eval s = v) (Bs : Nat) (u : Value) (m : List Int) (hx : a.eval x = u) (hsee : SeesI w Bs u m)
    (hB : B ≤ w.heap.size) (hroom : (l.length + m.length) * 8 ≤ 140737488355328)
    (h : ∀ v' w', OwnsI w' B v' (l ++ m) → Ext w w' v v' → wpList P ops Q rest (a.put o.dst v') w') : wpList P ops Q (o :: rest) a w :=
  wpList_plain hgd fun _ hK => wp_pushI w s x t ho B hinf ht v l hown hs Bs u m hx hsee hB hroom fun v' w' h1 h2 => hK _ _ (h v' w' h1 h2)
/-- As one step of a region that draws its order. -/
theorem step_pushI {E : Prop} (hgd : o.guard = none) (s x : Operand) (t : TypeId) (ho : o.op = .call { callee := .builtin .append, args := #[s, x], argTypes := #[t, t] })
    (B : Nat) (hinf : (P.info? 3).map (fun i => (i.zero, i.size, i.bytes)) = some (some (.int .i64 0), 1, 8)) (ht : P.underlying t = some (.slice 3))
    (v : Value) (l : List Int) (hown : OwnsI w B v l) (hs : a.eval s = v) (Bs : Nat) (u : Value) (m : List Int) (hx : a.eval x = u) (hsee : SeesI w Bs u m)
    (hB : B ≤ w.heap.size) (hroom : (l.length + m.length) * 8 ≤ 140737488355328)
    (h : ∀ v' w', OwnsI w' B v' (l ++ m) → Ext w w' v v' → K (a.put o.dst v') w') : if Region.wanted o (yielded ops a.tmps) = true then Oper.wp P o a w K Q else E := by
  have hw : Region.wanted o (yielded ops a.tmps) = true := by simp [Region.wanted, hgd]
  rw [if_pos hw]
  exact wp_pushI w s x t ho B hinf ht v l hown hs Bs u m hx hsee hB hroom h
end

section
variable {P : Program} (w : World) {ops : Array Oper} {rest : List Oper} {o : Oper} {a : Act} {K : Act → World → Prop} {Q : Exit → Act → World → Prop}
/-- 'append' behind a list without room, whose block may bear a mark: the list lies in a new block. -/
theorem wp_growI (s x : Operand) (t : TypeId) (ho : o.op = .call { callee := .builtin .append, args := #[s, x], argTypes := #[t, t] })
    (B : Nat) (hinf : (P.info? 3).map (fun i => (i.zero, i.size, i.bytes)) = some (some (.int .i64 0), 1, 8)) (ht : P.underlying t = some (.slice 3))
    (b n c : Nat) (l : List Int) (Bv : Nat) (hn : n = l.length) (hv : SeesI w Bv (.slice (some ⟨b, 0, none⟩) n c) l) (hs : a.eval s = .slice (some ⟨b, 0, none⟩) n c) (Bs : Nat) (u : Value) (m : List Int) (hx : a.eval x = u) (hsee : SeesI w Bs u m)
    (hm : 0 < m.length) (hcap : c < n + m.length) (hB : B ≤ w.heap.size) (hroom : (l.length + m.length) * 8 ≤ 140737488355328)
    (h : ∀ v' w', OwnsI w' B v' (l ++ m) → Below w.heap.size w w' → K (a.put o.dst v') w') : o.wp P a w K Q := by
  subst hn
  obtain ⟨i, hi, hz0, hz1, hz2⟩ := info_parts hinf
  rcases hsee.src with ⟨-, h0, -⟩ | ⟨ad, c', rfl, hl, hnw, h1⟩
  · omega
  rcases hv.src with ⟨h0, -, -⟩ | ⟨ad2, c2, h0, hl2, hn2, -⟩
  · cases h0
  simp only [Value.slice.injEq, Option.some.injEq] at h0
  obtain ⟨rfl, -, rfl⟩ := h0
  have hr := run_append_grow (P := P) w t o.type 3 i (.int .i64 0) ht hi hz0 ⟨b, 0, none⟩ l.length c ((List.range l.length).map (iv l)) (by rw [hz1]; exact hl2) hn2 ad m.length c' ((List.range m.length).map (iv m)) (by rw [hz1]; exact hl) hnw hcap (by omega) (by rw [hz2]; exact growslice_fits hcap (by omega))
  unfold Oper.wp execOp
  simp only [ho, resolve, invoke, builtin, Sem.run_bind, Sem.run_pure, Result.andThen_ok, List.map_toArray, List.map_cons, List.map_nil, hs, hx, hr]
  refine h _ _ (OwnsI.joined ⟨by simp, .inr ⟨w.heap.size, _, _, rfl, hB, heap_alloc_new w.drew _, grownCap_ge _ _ _ _, grownCap_le_maxLen _ _ _ _ (by unfold maxLen; omega), ?_, ?_⟩⟩) ⟨rfl, rfl, rfl, by simp, fun k hk => Below.heap_alloc _ _ k hk⟩
  · have := grownCap_ge w (l.length + m.length) c 3
    simp only [Array.size_append, List.size_toArray, size_zeroCells, List.length_map, List.length_range, Value.cells]
    simp
    omega
  · simp only [Array.toList_append, List.append_assoc]
    rw [← List.append_assoc]
    exact List.take_left' (by simp)
theorem wpList_growI (hgd : o.guard = none) (s x : Operand) (t : TypeId) (ho : o.op = .call { callee := .builtin .append, args := #[s, x], argTypes := #[t, t] })
    (B : Nat) (hinf : (P.info? 3).map (fun i => (i.zero, i.size, i.bytes)) = some (some (.int .i64 0), 1, 8)) (ht : P.underlying t = some (.slice 3))
    (b n c : Nat) (l : List Int) (Bv : Nat) (hn : n = l.length) (hv : SeesI w Bv (.slice (some ⟨b, 0, none⟩) n c) l) (hs : a.eval s = .slice (some ⟨b, 0, none⟩) n c) (Bs : Nat) (u : Value) (m : List Int) (hx : a.eval x = u) (hsee : SeesI w Bs u m)
    (hm : 0 < m.length) (hcap : c < n + m.length) (hB : B ≤ w.heap.size) (hroom : (l.length + m.length) * 8 ≤ 140737488355328)
    (h : ∀ v' w', OwnsI w' B v' (l ++ m) → Below w.heap.size w w' → wpList P ops Q rest (a.put o.dst v') w') : wpList P ops Q (o :: rest) a w :=
  wpList_plain hgd fun _ hK => wp_growI w s x t ho B hinf ht b n c l Bv hn hv hs Bs u m hx hsee hm hcap hB hroom fun v' w' h1 h2 => hK _ _ (h v' w' h1 h2)
end

theorem SeesI.alloc {w : World} {B : Nat} {v : Value} {l : List Int} (h : SeesI w B v l) (o : Obj) : SeesI (w.alloc o) B v l := ⟨by
  obtain ⟨A, c, rfl, h1, h2, h3, h4⟩ := h.at_
  refine ⟨A, c, rfl, h1, h2, fun h0 => ?_, h4⟩
  obtain ⟨b, off, e, hb, hc⟩ := h3 h0
  exact ⟨b, off, e, hb, fun k hk => Lib.cell?_alloc_some o (hc k hk)⟩⟩
theorem owns_emptyi (w : World) (e : TypeId) (he : e = 3) (B g : Nat) (hB : B ≤ w.heap.size) (hg : g = w.heap.size) : OwnsI (w.alloc (.cells #[] e)) B (.slice (some ⟨g, 0, none⟩) 0 0) [] := by
  subst he hg
  exact World.ownsRow_made w #[] 0 hB (by unfold maxLen; omega) rfl

section
variable {W W' : World} {g : Nat} {cs : Array Value} {t : TypeId}
end


theorem OwnsI.cell {w : World} {B g n c : Nat} {l : List Int} (h : OwnsI w B (.slice (some ⟨g, 0, none⟩) n c) l) (hn : n = l.length) {i : Nat} (hi : i < l.length) : w.cell? ⟨g, i, none⟩ = some (.int .i64 (l.getD i 0)) := by
  subst hn
  exact Owns.cell h hi
theorem OwnsI.frozen {w : World} {B g n c : Nat} {l : List Int} (h : OwnsI w B (.slice (some ⟨g, 0, none⟩) n c) l) (hn : n = l.length) (i : Nat) : w.frozen? ⟨g, i, none⟩ = false := by
  subst hn
  exact Owns.frozen h i
theorem OwnsI.set {w : World} {B g n c : Nat} {l : List Int} (h : OwnsI w B (.slice (some ⟨g, 0, none⟩) n c) l) (hn : n = l.length) (i : Nat) (x : Int) (hi : i < l.length) : OwnsI (w.setCell ⟨g, i, none⟩ (.int .i64 x)) B (.slice (some ⟨g, 0, none⟩) n c) (l.set i x) := by
  subst hn
  have := Owns.set_ h i (.int .i64 x) (V' := iv (l.set i x)) (by simp [iv, List.getD_eq_getElem?_getD, hi]) (fun j _ hj => by simp [iv, List.getD_eq_getElem?_getD, List.getElem?_set_ne (Ne.symm hj)])
  unfold OwnsI
  rw [List.length_set]
  exact this


end Go.Proofs.YtpdenmcacaajkaaGreat

/-! ### ClMath -/
namespace Go.Proofs.YtpdenmcacaajkaaGreat
namespace Clk

def sumL : List Int → Int
  | [] => 0
  | x :: l => x + sumL l
def minL : List Int → Int
  | [] => 0
  | x :: l => l.foldl min x
def maxL : List Int → Int
  | [] => 0
  | x :: l => l.foldl max x
/-- Without the least and the greatest, rounded down. -/
def avg (l : List Int) : Int :=
  if l.length = 0 then 0 else if l.length < 3 then sumL l / (l.length : Int) else (sumL l - minL l - maxL l) / ((l.length : Int) - 2)
def sorted (l : List Int) : Prop := ∀ p q, p < q → q < l.length → l.getD p 0 ≤ l.getD q 0

theorem sumL_append (l m : List Int) : sumL (l ++ m) = sumL l + sumL m := by
  induction l with
  | nil => simp [sumL]
  | cons x l ih => simp [sumL, ih]; omega
theorem sumL_perm {l m : List Int} (h : l.Perm m) : sumL l = sumL m := by
  induction h with
  | nil => rfl
  | cons x _ ih => simp [sumL, ih]
  | swap x y l => simp [sumL]; omega
  | trans _ _ h1 h2 => exact h1.trans h2
theorem foldl_min_le (l : List Int) (a : Int) : l.foldl min a ≤ a ∧ ∀ x ∈ l, l.foldl min a ≤ x := by
  induction l generalizing a with
  | nil => simp
  | cons y l ih =>
    obtain ⟨h1, h2⟩ := ih (min a y)
    refine ⟨by simp only [List.foldl_cons]; omega, fun x hx => ?_⟩
    simp only [List.foldl_cons]
    rcases List.mem_cons.1 hx with rfl | hx
    · omega
    · exact h2 x hx
theorem foldl_min_mem (l : List Int) (a : Int) : l.foldl min a = a ∨ l.foldl min a ∈ l := by
  induction l generalizing a with
  | nil => simp
  | cons y l ih =>
    simp only [List.foldl_cons, List.mem_cons]
    rcases ih (min a y) with h | h
    · rw [h]; omega
    · exact .inr (.inr h)
theorem foldl_max_le (l : List Int) (a : Int) : a ≤ l.foldl max a ∧ ∀ x ∈ l, x ≤ l.foldl max a := by
  induction l generalizing a with
  | nil => simp
  | cons y l ih =>
    obtain ⟨h1, h2⟩ := ih (max a y)
    refine ⟨by simp only [List.foldl_cons]; omega, fun x hx => ?_⟩
    simp only [List.foldl_cons]
    rcases List.mem_cons.1 hx with rfl | hx
    · omega
    · exact h2 x hx
theorem foldl_max_mem (l : List Int) (a : Int) : l.foldl max a = a ∨ l.foldl max a ∈ l := by
  induction l generalizing a with
  | nil => simp
  | cons y l ih =>
    simp only [List.foldl_cons, List.mem_cons]
    rcases ih (max a y) with h | h
    · rw [h]; omega
    · exact .inr (.inr h)
theorem minL_spec {l : List Int} (h : l ≠ []) : minL l ∈ l ∧ ∀ x ∈ l, minL l ≤ x := by
  cases l with
  | nil => exact absurd rfl h
  | cons y l =>
    obtain ⟨h1, h2⟩ := foldl_min_le l y
    refine ⟨?_, fun x hx => ?_⟩
    · rcases foldl_min_mem l y with h | h
      · show l.foldl min y ∈ y :: l; rw [h]; simp
      · exact List.mem_cons_of_mem _ h
    · rcases List.mem_cons.1 hx with rfl | hx
      · exact h1
      · exact h2 x hx
theorem maxL_spec {l : List Int} (h : l ≠ []) : maxL l ∈ l ∧ ∀ x ∈ l, x ≤ maxL l := by
  cases l with
  | nil => exact absurd rfl h
  | cons y l =>
    obtain ⟨h1, h2⟩ := foldl_max_le l y
    refine ⟨?_, fun x hx => ?_⟩
    · rcases foldl_max_mem l y with h | h
      · show l.foldl max y ∈ y :: l; rw [h]; simp
      · exact List.mem_cons_of_mem _ h
    · rcases List.mem_cons.1 hx with rfl | hx
      · exact h1
      · exact h2 x hx
theorem minL_perm {l m : List Int} (h : l.Perm m) : minL l = minL m := by
  by_cases h0 : l = []
  · subst h0; rw [h.symm.eq_nil]
  have h1 : m ≠ [] := fun e => h0 (by subst e; exact h.eq_nil)
  obtain ⟨a, b⟩ := minL_spec h0
  obtain ⟨c, d⟩ := minL_spec h1
  have := b _ (h.symm.mem_iff.1 c)
  have := d _ (h.mem_iff.1 a)
  omega
theorem maxL_perm {l m : List Int} (h : l.Perm m) : maxL l = maxL m := by
  by_cases h0 : l = []
  · subst h0; rw [h.symm.eq_nil]
  have h1 : m ≠ [] := fun e => h0 (by subst e; exact h.eq_nil)
  obtain ⟨a, b⟩ := maxL_spec h0
  obtain ⟨c, d⟩ := maxL_spec h1
  have := b _ (h.symm.mem_iff.1 c)
  have := d _ (h.mem_iff.1 a)
  omega
theorem avg_perm {l m : List Int} (h : l.Perm m) : avg l = avg m := by
  unfold avg
  rw [sumL_perm h, minL_perm h, maxL_perm h, h.length_eq]

/-- One step of insertion: two neighbours change places. -/
def swp (l : List Int) (j : Nat) : List Int := (l.set j (l.getD (j - 1) 0)).set (j - 1) (l.getD j 0)
theorem swp_length (l : List Int) (j : Nat) : (swp l j).length = l.length := by simp [swp]
theorem swp_getD (l : List Int) (j k : Nat) (h0 : 0 < j) (hj : j < l.length) : (swp l j).getD k 0 = if k = j - 1 then l.getD j 0 else if k = j then l.getD (j - 1) 0 else l.getD k 0 := by
  unfold swp
  simp only [List.getD_eq_getElem?_getD, List.getElem?_set, List.length_set]
  by_cases h1 : k = j - 1
  · subst h1; simp [show j - 1 < l.length by omega]
  · rw [if_neg (fun h => h1 h.symm), if_neg h1]
    by_cases h2 : k = j
    · subst h2; simp [hj]
    · rw [if_neg (fun h => h2 h.symm), if_neg h2]
theorem swp_perm (l : List Int) (j : Nat) (h0 : 0 < j) (hj : j < l.length) : (swp l j).Perm l := by
  obtain ⟨i, rfl⟩ : ∃ i, j = i + 1 := ⟨j - 1, by omega⟩
  unfold swp
  simp only [Nat.add_sub_cancel]
  induction l generalizing i with
  | nil => simp at hj
  | cons x l ih =>
    cases i with
    | zero =>
      cases l with
      | nil => simp at hj
      | cons y l => simpa using List.Perm.swap x y l
    | succ i =>
      simp only [List.length_cons, Nat.add_lt_add_iff_right] at hj
      have := ih i (by omega) hj
      simpa using List.Perm.cons x this

/-- What insertion sort keeps: the first i are sorted but for the one at j. -/
def ins (l : List Int) (i j : Nat) : Prop := ∀ p q, p < q → q ≤ i → q ≠ j → l.getD p 0 ≤ l.getD q 0
theorem ins_start {l : List Int} {i : Nat} (h : ∀ p q, p < q → q < i → l.getD p 0 ≤ l.getD q 0) : ins l i i := fun p q h1 h2 h3 => h p q h1 (by omega)
theorem ins_end {l : List Int} {i j : Nat} (h : ins l i j) (hj : j = 0 ∨ l.getD (j - 1) 0 ≤ l.getD j 0) : ∀ p q, p < q → q < i + 1 → l.getD p 0 ≤ l.getD q 0 := fun p q h1 h2 => by
  by_cases hq : q = j
  · subst hq
    rcases hj with hj | hj
    · omega
    · by_cases hp : p = q - 1
      · subst hp; exact hj
      · exact Int.le_trans (h p (q - 1) (by omega) (by omega) (by omega)) hj
  · exact h p q h1 (by omega) hq
theorem ins_step {l : List Int} {i j : Nat} (h : ins l i j) (h0 : 0 < j) (hji : j ≤ i) (hi : i < l.length) (hlt : l.getD j 0 < l.getD (j - 1) 0) : ins (swp l j) i (j - 1) := fun p q h1 h2 h3 => by
  rw [swp_getD l j p h0 (by omega), swp_getD l j q h0 (by omega), if_neg h3]
  by_cases hq : q = j
  · rw [if_pos hq]
    by_cases hp : p = j - 1
    · rw [if_pos hp]; omega
    · rw [if_neg hp, if_neg (by omega)]
      exact h p (j - 1) (by omega) (by omega) (by omega)
  · rw [if_neg hq]
    by_cases hp : p = j - 1
    · rw [if_pos hp]; exact h j q (by omega) h2 hq
    · rw [if_neg hp]
      by_cases hp2 : p = j
      · rw [if_pos hp2]; exact h (j - 1) q (by omega) h2 hq
      · rw [if_neg hp2]; exact h p q h1 h2 hq

/-- Of three or four that are sorted the middle ones are left. -/
theorem avg_mid {l : List Int} (hs : sorted l) (h3 : 3 ≤ l.length) (h4 : l.length ≤ 4) : avg l = sumL ((l.drop 1).take (l.length - 2)) / (((l.drop 1).take (l.length - 2)).length : Int) := by
  match l, hs, h3, h4 with
  | [a, b, c], hs, _, _ =>
    have h1 := hs 0 1 (by omega) (by simp)
    have h2 := hs 1 2 (by omega) (by simp)
    simp at h1 h2
    simp [avg, sumL, minL, maxL]
    omega
  | [a, b, c, d], hs, _, _ =>
    have h1 := hs 0 1 (by omega) (by simp)
    have h2 := hs 1 2 (by omega) (by simp)
    have h3 := hs 2 3 (by omega) (by simp)
    simp at h1 h2 h3
    simp [avg, sumL, minL, maxL]
    omega
theorem avg_small {l : List Int} (h0 : 0 < l.length) (h : l.length < 3) : avg l = sumL l / (l.length : Int) := by
  unfold avg; rw [if_neg (by omega), if_pos h]

/-- Division that goes towards nought, by one and two. -/
theorem td1 (x : Int) : x.tdiv 1 = x ∧ x.tmod 1 = 0 := by simp
theorem td2 (x : Int) : x = 2 * x.tdiv 2 + x.tmod 2 ∧ (0 ≤ x → 0 ≤ x.tmod 2 ∧ x.tmod 2 ≤ 1) ∧ (x < 0 → -1 ≤ x.tmod 2 ∧ x.tmod 2 ≤ 0) := by
  refine ⟨by have := Int.mul_tdiv_add_tmod x 2; omega, fun h => ?_, fun h => ?_⟩
  · have := Int.tmod_eq_emod_of_nonneg (b := 2) h; omega
  · have e : x.tmod 2 = -((-x).tmod 2) := by rw [Int.neg_tmod, Int.neg_neg]
    have := Int.tmod_eq_emod_of_nonneg (a := -x) (b := 2) (by omega)
    omega

theorem avg_map_sub (l : List Int) (d : Int) (h0 : 0 < l.length) (h4 : l.length ≤ 4) : avg (l.map (· - d)) = avg l - d := by
  match l, h0, h4 with
  | [a], _, _ => simp [avg, sumL]
  | [a, b], _, _ => simp [avg, sumL]; omega
  | [a, b, c], _, _ => simp [avg, sumL, minL, maxL]; omega
  | [a, b, c, d], _, _ => simp [avg, sumL, minL, maxL]; omega
theorem avg_bound {l : List Int} {B : Int} (hB : 0 ≤ B) (h : ∀ x ∈ l, -B ≤ x ∧ x ≤ B) (h4 : l.length ≤ 4) : -B ≤ avg l ∧ avg l ≤ B := by
  match l, h4 with
  | [], _ => simp [avg]; omega
  | [a], _ => simp at h; simp [avg, sumL]; omega
  | [a, b], _ => simp at h; simp [avg, sumL]; omega
  | [a, b, c], _ => simp at h; simp [avg, sumL, minL, maxL]; omega
  | [a, b, c, d], _ => simp at h; simp [avg, sumL, minL, maxL]; omega
/-- One wild number of four does not take it beyond the others. -/
theorem avg_wild (a b c w : Int) : min (min a b) c ≤ avg [a, b, c, w] ∧ avg [a, b, c, w] ≤ max (max a b) c ∧ min (min a b) c ≤ avg [a, b, c] ∧ avg [a, b, c] ≤ max (max a b) c := by
  simp [avg, sumL, minL, maxL]; omega
end Clk
end Go.Proofs.YtpdenmcacaajkaaGreat

/-! ### ClA -/
namespace Go.Proofs.YtpdenmcacaajkaaGreat
open Go.RowKit

theorem ret_int {k : IntKind} {a b : Int} (h : a = b) : Ending.returned (.int k a) = .returned (.int k b) := by rw [h]
theorem ret_bool {a b : Bool} (h : a = b) : Ending.returned (.bool a) = .returned (.bool b) := by rw [h]
/-- Numbers that may be. -/
def small (l : List Int) : Prop := ∀ x ∈ l, -1099511627776 ≤ x ∧ x ≤ 1099511627776
theorem small.getD {l : List Int} (h : small l) (k : Nat) : -1099511627776 ≤ l.getD k 0 ∧ l.getD k 0 ≤ 1099511627776 := by
  by_cases hk : k < l.length
  · rw [List.getD_eq_getElem?_getD, List.getElem?_eq_getElem hk, Option.getD_some]
    exact h _ (List.getElem_mem _)
  · rw [List.getD_eq_getElem?_getD, List.getElem?_eq_none (by omega)]
    exact ⟨by decide, by decide⟩
theorem SeesI.cell {w : World} {B : Nat} {A : Option Addr} {n c : Nat} {l : List Int} (h : SeesI w B (.slice A n c) l) (k : Nat) (hk : k < l.length) : ∃ b off, A = some ⟨b, off, none⟩ ∧ b < B ∧ w.cell? ⟨b, off + k, none⟩ = some (.int .i64 (l.getD k 0)) := by
  obtain ⟨A', c', e, -, -, h3, -⟩ := h.at_
  simp only [Value.slice.injEq] at e
  obtain ⟨rfl, rfl, rfl⟩ := e
  obtain ⟨b, off, hA, hb, hc⟩ := h3 (by omega)
  exact ⟨b, off, hA, hb, hc k hk⟩

set_option maxHeartbeats 1000000 in
theorem floor1_rf (a : Int) (w : World) (h : -17592186044416 ≤ a ∧ a ≤ 17592186044416) :
    Calls Tryz.prog 172 #[.int .i64 a, .int .i64 1] w fun e w' => e = .returned (.int .i64 a) ∧ w' = w := by
  obtain ⟨h1, h2⟩ := h
  obtain ⟨e1, e2⟩ := Clk.td1 a
  go_enter Tryz.func172, Tryz.ntmps172
  go_wp2
  go_ret
  exact ⟨rfl, rfl⟩
set_option maxHeartbeats 1000000 in
theorem floor2_rf (a : Int) (w : World) (h : -17592186044416 ≤ a ∧ a ≤ 17592186044416) :
    Calls Tryz.prog 172 #[.int .i64 a, .int .i64 2] w fun e w' => e = .returned (.int .i64 (a / 2)) ∧ w' = w := by
  obtain ⟨h1, h2⟩ := h
  have H := Lib.hid (Clk.td2 a)
  have b1 : -17592186044416 ≤ a.tdiv 2 ∧ a.tdiv 2 ≤ 17592186044416 := by have := H.out; omega
  obtain ⟨b1, b2⟩ := b1
  go_enter Tryz.func172, Tryz.ntmps172
  go_wp2
  · go_ret
    exact ⟨ret_int (by have := H.out; omega), rfl⟩
  · go_ret
    exact ⟨ret_int (by have := H.out; omega), rfl⟩
  · rename_i h h3
    go_ret
    refine ⟨ret_int ?_, rfl⟩
    have := H.out
    rcases h3 with h3 | h3
    · simp at h3; omega
    · omega

/-- Whether a turn may be. -/
def wiB (m n : Int) : Bool := decide (-m ≤ n ∧ n ≤ m)
set_option maxHeartbeats 1000000 in
theorem reaches_cl (m n : Int) (w : World) (h : 0 ≤ m ∧ m ≤ 9223372036854775807) :
    Calls Tryz.prog 169 #[.int .i64 m, .int .i64 n] w fun e w' => e = .returned (.bool (wiB m n)) ∧ w' = w := by
  obtain ⟨h1, h2⟩ := h
  go_enter Tryz.func169, Tryz.ntmps169
  go_wp2
  · rename_i h
    go_ret
    exact ⟨ret_bool (by unfold wiB; simp [h]), rfl⟩
  · rename_i h
    go_ret
    exact ⟨ret_bool (by unfold wiB; simp; omega), rfl⟩
set_option maxHeartbeats 1000000 in
theorem less_cm (a b : Int) (w : World) :
    Calls Tryz.prog 209 #[.int .i64 a, .int .i64 b] w fun e w' => e = .returned (.bool (decide (a < b))) ∧ w' = w := by
  go_enter Tryz.func209, Tryz.ntmps209
  go_wp2
  go_ret
  exact ⟨rfl, rfl⟩
set_option maxRecDepth 100000 in
set_option maxHeartbeats 1000000 in
theorem len64_bt (x : Int) (w : World) (h : 0 ≤ x ∧ x < 256) :
    Calls Tryz.prog 213 #[.int .u64 x] w fun e w' => ∃ n : Int, e = .returned (.int .i64 n) ∧ w' = w := by
  obtain ⟨h1, h2⟩ := h
  have d1 : decide (4294967296 ≤ x) = false := by simp; omega
  go_enter Tryz.func213, Tryz.ntmps213
  go_wp2
  go_ret
  exact ⟨_, rfl, rfl⟩
set_option maxRecDepth 100000 in
set_option maxHeartbeats 1000000 in
theorem len_bt (x : Int) (w : World) (h : 0 ≤ x ∧ x < 256) :
    Calls Tryz.prog 196 #[.int .u64 x] w fun e w' => ∃ n : Int, e = .returned (.int .i64 n) ∧ w' = w := by
  go_enter Tryz.func196, Tryz.ntmps196
  go_wp2_with (go_at_call 213; refine (len64_bt x _ h).mono ?_; rintro e w' ⟨n, rfl, rfl⟩)
  go_ret
  exact ⟨_, rfl, rfl⟩
end Go.Proofs.YtpdenmcacaajkaaGreat
