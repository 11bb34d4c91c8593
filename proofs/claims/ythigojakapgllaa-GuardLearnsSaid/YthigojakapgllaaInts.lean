/- Lists of ints in memory; what appends leave. No condition but sizes. -/
import Derived.Test.YthigojakapgllaaKit
import Derived.Test.YthigojakapgllaaBlkA
import Derived.Laws.AppendOwnNone
import Derived.SizedLaws
import Derived.ProofKit
import Derived.OpenShut
import Derived.ShutString
import Derived.ChangeOld
import Derived.Deep.Slices
import Derived.Deep.Fields
import Derived.Deep.AppendLies
import Derived.Deep.CutBlock
import Derived.Maps.Range
import Derived.Deep.RegionHeld3
import Derived.Deep.RegionLaw
import Derived.RegionTactic
import Derived.BigRegion
import Derived.Lib.SmallJoins
namespace Go.Proofs.Ythigojakapgllaa
open Go.ChangeShapes Go.WideShapes Go.ChangeAt Go.RowKit







theorem infoInt : (Try.prog.info? 3).map (fun i => (i.zero, i.size, i.bytes)) = some (some (.int .i64 0), 1, 8) := by kernel_rfl

/-- The cells of a list of bytes. -/
def iv (l : List Int) (k : Nat) : Value := .int .i64 (l.getD k 0)

/-- What the call made: a slice of these bytes. -/
def OwnsI (w : World) (base : Nat) (v : Value) (l : List Int) : Prop := Owns w base 3 v l.length (iv l)
/-- A slice of these bytes, nil told. -/
structure SeesI (w : World) (B : Nat) (v : Value) (l : List Int) : Prop where
  at_ : ∃ A c, v = .slice A l.length c ∧ l.length ≤ c ∧ c ≤ maxLen ∧ Sees w B A l.length (iv l) ∧ (A = none → l.length = 0 ∧ c = 0)

section
variable {w w' : World} {B B' Bs : Nat} {v : Value} {l m : List Int}
theorem OwnsI.sees (h : OwnsI w Bs v l) : SeesI w w.heap.size v l := ⟨by
  obtain ⟨A, c, rfl, h1, h2, h3, h4⟩ := Owns.formN h
  exact ⟨A, c, rfl, h1, h2, h3, h4⟩⟩
theorem SeesI.below (h : SeesI w B v l) (hb : Below B w w') : SeesI w' B v l := ⟨by
  obtain ⟨A, c, rfl, h1, h2, h3, h4⟩ := h.at_
  exact ⟨A, c, rfl, h1, h2, h3.below hb, h4⟩⟩
theorem SeesI.more (h : SeesI w B v l) (hB : B ≤ B') : SeesI w B' v l := ⟨by
  obtain ⟨A, c, rfl, h1, h2, h3, h4⟩ := h.at_
  exact ⟨A, c, rfl, h1, h2, h3.more hB, h4⟩⟩
theorem SeesI.drew (h : SeesI w B v l) : SeesI w.drew B v l := ⟨by
  obtain ⟨A, c, rfl, h1, h2, h3, h4⟩ := h.at_
  exact ⟨A, c, rfl, h1, h2, h3, h4⟩⟩
theorem OwnsI.drew (h : OwnsI w Bs v l) : OwnsI w.drew Bs v l := h
theorem SeesI.nil : SeesI w B (.slice none 0 0) [] := ⟨none, 0, rfl, Nat.le_refl _, Nat.zero_le _, Sees.none_, fun _ => ⟨rfl, rfl⟩⟩
theorem OwnsI.nil : OwnsI w Bs (.slice none 0 0) [] := World.ownsRow_nil _ _ _ _
theorem OwnsI.base (h : OwnsI w Bs v l) (hB : B ≤ Bs) : OwnsI w B v l := by
  refine ⟨h.1, ?_⟩
  rcases h.2 with h | ⟨g, cap, cur, h1, h2, h3⟩
  · exact .inl h
  · exact .inr ⟨g, cap, cur, h1, by omega, h3⟩
theorem OwnsI.below (h : OwnsI w Bs v l) (hb : Below B' w w') (hB : w.heap.size ≤ B') : OwnsI w' Bs v l := Owns.belowN h hb hB
theorem OwnsI.alloc (h : OwnsI w Bs v l) (o : Obj) : OwnsI (w.alloc o) Bs v l := World.ownsRow.alloc h o
theorem iv_append (l m : List Int) (k : Nat) : (if k < l.length then iv l k else iv m (k - l.length)) = iv (l ++ m) k := by
  unfold iv
  simp only [List.getD_eq_getElem?_getD, List.getElem?_append]
  split <;> rfl
end


/-- A new block of bytes, written out. -/
theorem sees_liti (w : World) (e : TypeId) (cs : Array Value) (l : List Int) (hl : cs = (l.map (Value.int .i64)).toArray) (B : Nat) (hB : w.heap.size < B) (hm : l.length ≤ maxLen) (g n c : Nat) (hg : g = w.heap.size) (hn : n = l.length) (hc : c = l.length) :
    SeesI (w.alloc (.cells cs e)) B (.slice (some ⟨g, 0, none⟩) n c) l := ⟨some ⟨g, 0, none⟩, c, by rw [hn], by omega, by omega, fun _ => ⟨g, 0, rfl, by omega, fun k hk => by
    rw [Nat.zero_add, World.cell?_alloc_at _ _ _ _ hg, hl]
    unfold iv
    simp [List.getD_eq_getElem?_getD, hk]⟩, fun h => by cases h⟩
theorem owns_liti (w : World) (e : TypeId) (he : e = 3) (cs : Array Value) (l : List Int) (hl : cs = (l.map (Value.int .i64)).toArray) (B : Nat) (hB : B ≤ w.heap.size) (hm : l.length ≤ maxLen) (g n c : Nat) (hg : g = w.heap.size) (hn : n = l.length) (hc : c = l.length) :
    OwnsI (w.alloc (.cells cs e)) B (.slice (some ⟨g, 0, none⟩) n c) l := by
  subst he hn hc hg
  have := World.ownsRow_lit (base := B) (e := 3) (size := 1) w cs l.length hB hm (by rw [hl]; simp)
  unfold OwnsI Owns
  have e : (List.range l.length).map (iv l) = cs.toList := by
    rw [hl]
    apply List.ext_getElem?
    intro i
    by_cases hi : i < l.length
    · simp [hi, iv, List.getD_eq_getElem?_getD]
    · rw [List.getElem?_eq_none (by simp; omega), List.getElem?_eq_none (by simp; omega)]
  rw [e]
  exact this


section
variable {w w1 w2 : World} {v v1 v2 : Value} {B B' : Nat}
/-- What was seen in another block is seen still. -/
theorem Ext.seesI {l : List Int} {u : Value} (h : Ext w w1 v v1) (hs : SeesI w B u l) (hne : u.ownBlock = none ∨ v.ownBlock ≠ u.ownBlock) : SeesI w1 B u l := ⟨by
  obtain ⟨A, c, rfl, h1, h2, h3, h4⟩ := hs.at_
  refine ⟨A, c, rfl, h1, h2, fun h0 => ?_, h4⟩
  obtain ⟨b, off, rfl, hb, hc⟩ := h3 h0
  refine ⟨b, off, rfl, hb, fun k hk => h.cell (hc k hk) ?_⟩
  rcases hne with hn | hn
  · simp [Value.ownBlock] at hn
  · simpa [Value.ownBlock] using hn⟩
end


theorem OwnsI.lt {w : World} {B : Nat} {v : Value} {l : List Int} (h : OwnsI w B v l) : ∀ j, v.ownBlock = some j → B ≤ j ∧ j < w.heap.size := World.ownsRow.lt h


section
variable {P : Program} (w : World) {ops : Array Oper} {rest : List Oper} {o : Oper} {a : Act} {K : Act → World → Prop} {Q : Exit → Act → World → Prop}


theorem SeesI.src {w : World} {B : Nat} {u : Value} {m : List Int} (h : SeesI w B u m) : Src w u 1 m.length ((List.range m.length).map (iv m)) := by
  obtain ⟨A, c, rfl, -, -, h3, h4⟩ := h.at_
  cases A with
  | none =>
    obtain ⟨h5, h6⟩ := h4 rfl
    subst h6
    exact .inl ⟨by rw [h5], h5, by rw [h5]; rfl⟩
  | some ad =>
    refine .inr ⟨ad, c, rfl, by simp, fun j x hj => ?_, fun x hx => ?_⟩
    · rw [List.getElem?_map] at hj
      by_cases hjm : j < m.length
      · rw [List.getElem?_range hjm] at hj
        simp at hj
        subst hj
        obtain ⟨b, off, he, _, hc⟩ := h3 (by omega)
        simp only [Option.some.injEq] at he
        subst he
        have := hc j hjm
        by_cases h1 : j = 0
        · subst h1; simpa [Addr.add] using this
        · simpa [Addr.add, h1] using this
      · rw [List.getElem?_eq_none (by simpa using hjm)] at hj
        cases hj
    · obtain ⟨k, hk, rfl⟩ := List.mem_map.1 hx
      rfl
theorem OwnsI.joined {w : World} {B : Nat} {v : Value} {l m : List Int} (h : w.ownsRow B 3 1 v (l.length + m.length) ((List.range l.length).map (iv l) ++ (List.range m.length).map (iv m))) : OwnsI w B v (l ++ m) := by
  unfold OwnsI Owns
  rw [List.length_append]
  have e : (List.range (l.length + m.length)).map (iv (l ++ m)) = (List.range l.length).map (iv l) ++ (List.range m.length).map (iv m) := by
    rw [← range_join]
    exact List.map_congr_left fun k _ => (iv_append l m k).symm
  rw [e]
  exact h

theorem wp_pushI (s x : Operand) (t : TypeId) (ho : o.op = .call { callee := .builtin .append, args := #[s, x], argTypes := #[t, t] })
    (B : Nat) (hinf : (P.info? 3).map (fun i => (i.zero, i.size, i.bytes)) = some (some (.int .i64 0), 1, 8)) (ht : P.underlying t = some (.slice 3))
    (v : Value) (l : List Int) (hown : OwnsI w B v l) (hs : a.eval s = v) (Bs : Nat) (u : Value) (m : List Int) (hx : a.eval x = u) (hsee : SeesI w Bs u m)
    (hB : B ≤ w.heap.size) (hroom : (l.length + m.length) * 8 ≤ 140737488355328)
    (h : ∀ v' w', OwnsI w' B v' (l ++ m) → Ext w w' v v' → K (a.put o.dst v') w') : o.wp P a w K Q :=
  wp_push w s x t ho B 3 (.int .i64 0) 1 8 hinf rfl (by omega) ht v l.length _ hown hs u m.length _ hx hsee.src hB (by unfold maxLen; omega) (by omega) fun v' w' h1 h2 => h v' w' (OwnsI.joined h1) h2
/-- 'append' of bytes, in a plain region. -/
theorem wpList_pushI (hgd : o.guard = none) (s x : Operand) (t : TypeId) (ho : o.op = .call { callee := .builtin .append, args := #[s, x], argTypes := #[t, t] })
    (B : Nat) (hinf : (P.info? 3).map (fun i => (i.zero, i.size, i.bytes)) = some (some (.int .i64 0), 1, 8)) (ht : P.underlying t = some (.slice 3))
    (v : Value) (l : List Int) (hown : OwnsI w B v l) (hs : a.eval s = v) (Bs : Nat) (u : Value) (m : List Int) (hx : a.eval x = u) (hsee : SeesI w Bs u m)
    (hB : B ≤ w.heap.size) (hroom : (l.length + m.length) * 8 ≤ 140737488355328)
    (h : ∀ v' w', OwnsI w' B v' (l ++ m) → Ext w w' v v' → wpList P ops Q rest (a.put o.dst v') w') : wpList P ops Q (o :: rest) a w :=
  wpList_plain hgd fun _ hK => wp_pushI w s x t ho B hinf ht v l hown hs Bs u m hx hsee hB hroom fun v' w' h1 h2 => hK _ _ (h v' w' h1 h2)
/-- As one step of a region that draws its order. -/
theorem step_pushI {E : Prop} (hgd : o.guard = none) (s x : Operand) (t : TypeId) (ho : o.op = .call { callee := .builtin .append, args := #[s, x], argTypes := #[t, t] })
    (B : Nat) (hinf : (P.info? 3).map (fun i => (i.zero, i.size, i.bytes)) = some (some (.int .i64 0), 1, 8)) (ht : P.underlying t = some (.slice 3))
    (v : Value) (l : List Int) (hown : OwnsI w B v l) (hs : a.eval s = v) (Bs : Nat) (u : Value) (m : List Int) (hx : a.eval x = u) (hsee : SeesI w Bs u m)
    (hB : B ≤ w.heap.size) (hroom : (l.length + m.length) * 8 ≤ 140737488355328)
    (h : ∀ v' w', OwnsI w' B v' (l ++ m) → Ext w w' v v' → K (a.put o.dst v') w') : if Region.wanted o (yielded ops a.tmps) = true then Oper.wp P o a w K Q else E := by
  have hw : Region.wanted o (yielded ops a.tmps) = true := by simp [Region.wanted, hgd]
  rw [if_pos hw]
  exact wp_pushI w s x t ho B hinf ht v l hown hs Bs u m hx hsee hB hroom h
end

section
variable {P : Program} (w : World) {ops : Array Oper} {rest : List Oper} {o : Oper} {a : Act} {K : Act → World → Prop} {Q : Exit → Act → World → Prop}
/-- 'append' behind a list without room, whose block may bear a mark: the list lies in a new block. -/
theorem wp_growI (s x : Operand) (t : TypeId) (ho : o.op = .call { callee := .builtin .append, args := #[s, x], argTypes := #[t, t] })
    (B : Nat) (hinf : (P.info? 3).map (fun i => (i.zero, i.size, i.bytes)) = some (some (.int .i64 0), 1, 8)) (ht : P.underlying t = some (.slice 3))
    (b n c : Nat) (l : List Int) (Bv : Nat) (hn : n = l.length) (hv : SeesI w Bv (.slice (some ⟨b, 0, none⟩) n c) l) (hs : a.eval s = .slice (some ⟨b, 0, none⟩) n c) (Bs : Nat) (u : Value) (m : List Int) (hx : a.eval x = u) (hsee : SeesI w Bs u m)
    (hm : 0 < m.length) (hcap : c < n + m.length) (hB : B ≤ w.heap.size) (hroom : (l.length + m.length) * 8 ≤ 140737488355328)
    (h : ∀ v' w', OwnsI w' B v' (l ++ m) → Below w.heap.size w w' → K (a.put o.dst v') w') : o.wp P a w K Q := by
  subst hn
  obtain ⟨i, hi, hz0, hz1, hz2⟩ := info_parts hinf
  rcases hsee.src with ⟨-, h0, -⟩ | ⟨ad, c', rfl, hl, hnw, h1⟩
  · omega
  rcases hv.src with ⟨h0, -, -⟩ | ⟨ad2, c2, h0, hl2, hn2, -⟩
  · cases h0
  simp only [Value.slice.injEq, Option.some.injEq] at h0
  obtain ⟨rfl, -, rfl⟩ := h0
  have hr := run_append_grow (P := P) w t o.type 3 i (.int .i64 0) ht hi hz0 ⟨b, 0, none⟩ l.length c ((List.range l.length).map (iv l)) (by rw [hz1]; exact hl2) hn2 ad m.length c' ((List.range m.length).map (iv m)) (by rw [hz1]; exact hl) hnw hcap (by omega) (by rw [hz2]; exact growslice_fits hcap (by omega))
  unfold Oper.wp execOp
  simp only [ho, resolve, invoke, builtin, Sem.run_bind, Sem.run_pure, Result.andThen_ok, List.map_toArray, List.map_cons, List.map_nil, hs, hx, hr]
  refine h _ _ (OwnsI.joined ⟨by simp, .inr ⟨w.heap.size, _, _, rfl, hB, heap_alloc_new w.drew _, grownCap_ge _ _ _ _, grownCap_le_maxLen _ _ _ _ (by unfold maxLen; omega), ?_, ?_⟩⟩) ⟨rfl, rfl, rfl, by simp, fun k hk => Below.heap_alloc _ _ k hk⟩
  · have := grownCap_ge w (l.length + m.length) c 3
    simp only [Array.size_append, List.size_toArray, size_zeroCells, List.length_map, List.length_range, Value.cells]
    simp
    omega
  · simp only [Array.toList_append, List.append_assoc]
    rw [← List.append_assoc]
    exact List.take_left' (by simp)
theorem wpList_growI (hgd : o.guard = none) (s x : Operand) (t : TypeId) (ho : o.op = .call { callee := .builtin .append, args := #[s, x], argTypes := #[t, t] })
    (B : Nat) (hinf : (P.info? 3).map (fun i => (i.zero, i.size, i.bytes)) = some (some (.int .i64 0), 1, 8)) (ht : P.underlying t = some (.slice 3))
    (b n c : Nat) (l : List Int) (Bv : Nat) (hn : n = l.length) (hv : SeesI w Bv (.slice (some ⟨b, 0, none⟩) n c) l) (hs : a.eval s = .slice (some ⟨b, 0, none⟩) n c) (Bs : Nat) (u : Value) (m : List Int) (hx : a.eval x = u) (hsee : SeesI w Bs u m)
    (hm : 0 < m.length) (hcap : c < n + m.length) (hB : B ≤ w.heap.size) (hroom : (l.length + m.length) * 8 ≤ 140737488355328)
    (h : ∀ v' w', OwnsI w' B v' (l ++ m) → Below w.heap.size w w' → wpList P ops Q rest (a.put o.dst v') w') : wpList P ops Q (o :: rest) a w :=
  wpList_plain hgd fun _ hK => wp_growI w s x t ho B hinf ht b n c l Bv hn hv hs Bs u m hx hsee hm hcap hB hroom fun v' w' h1 h2 => hK _ _ (h v' w' h1 h2)
end

theorem SeesI.alloc {w : World} {B : Nat} {v : Value} {l : List Int} (h : SeesI w B v l) (o : Obj) : SeesI (w.alloc o) B v l := ⟨by
  obtain ⟨A, c, rfl, h1, h2, h3, h4⟩ := h.at_
  refine ⟨A, c, rfl, h1, h2, fun h0 => ?_, h4⟩
  obtain ⟨b, off, e, hb, hc⟩ := h3 h0
  exact ⟨b, off, e, hb, fun k hk => Lib.cell?_alloc_some o (hc k hk)⟩⟩
theorem owns_emptyi (w : World) (e : TypeId) (he : e = 3) (B g : Nat) (hB : B ≤ w.heap.size) (hg : g = w.heap.size) : OwnsI (w.alloc (.cells #[] e)) B (.slice (some ⟨g, 0, none⟩) 0 0) [] := by
  subst he hg
  exact World.ownsRow_made w #[] 0 hB (by unfold maxLen; omega) rfl

section
variable {W W' : World} {g : Nat} {cs : Array Value} {t : TypeId}
end


theorem OwnsI.cell {w : World} {B g n c : Nat} {l : List Int} (h : OwnsI w B (.slice (some ⟨g, 0, none⟩) n c) l) (hn : n = l.length) {i : Nat} (hi : i < l.length) : w.cell? ⟨g, i, none⟩ = some (.int .i64 (l.getD i 0)) := by
  subst hn
  exact Owns.cell h hi
theorem OwnsI.frozen {w : World} {B g n c : Nat} {l : List Int} (h : OwnsI w B (.slice (some ⟨g, 0, none⟩) n c) l) (hn : n = l.length) (i : Nat) : w.frozen? ⟨g, i, none⟩ = false := by
  subst hn
  exact Owns.frozen h i
theorem OwnsI.set {w : World} {B g n c : Nat} {l : List Int} (h : OwnsI w B (.slice (some ⟨g, 0, none⟩) n c) l) (hn : n = l.length) (i : Nat) (x : Int) (hi : i < l.length) : OwnsI (w.setCell ⟨g, i, none⟩ (.int .i64 x)) B (.slice (some ⟨g, 0, none⟩) n c) (l.set i x) := by
  subst hn
  have := Owns.set_ h i (.int .i64 x) (V' := iv (l.set i x)) (by simp [iv, List.getD_eq_getElem?_getD, hi]) (fun j _ hj => by simp [iv, List.getD_eq_getElem?_getD, List.getElem?_set_ne (Ne.symm hj)])
  unfold OwnsI
  rw [List.length_set]
  exact this


end Go.Proofs.Ythigojakapgllaa
