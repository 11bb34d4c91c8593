/- Texts Acts4O, Ext, Mem in one. For what each says in front of its theorems. -/
import Derived.Lib.SmallJoins
import Derived.Deep.AppendLies
import Derived.Maps.Range
import Derived.Deep.RegionHeld3
import Derived.Deep.RegionLaw
import Derived.RegionTactic
import Derived.Lib.SlBytesConst
import Derived.Test.YtkaeikjfegjpjaaAB1
/-! ### Acts4O -/
namespace Go.Proofs.Ytkaeikjfegjpjaa
open Go.ChangeShapes Go.WideShapes Go.ChangeAt Go.RowKit Go.Joins Go.Deep

structure A4 where
  k : Int
  n : Int
  A : Option Addr
  c : Nat
  l : List Int
  q : Bool
  deriving Inhabited
/-- The cells of one, and its bytes. -/
structure A4At (w : World) (b off : Nat) (x : A4) : Prop where
  c0 : w.cell? ⟨b, off, none⟩ = some (.int .i64 x.k)
  c1 : w.cell? ⟨b, off + 1, none⟩ = some (.int .i64 x.n)
  c2 : w.cell? ⟨b, off + 2, none⟩ = some (.slice x.A x.l.length x.c)
  c3 : w.cell? ⟨b, off + 3, none⟩ = some (.bool x.q)
structure InA4 (w : World) (v : Value) (n : Nat) (f : Nat → A4) : Prop where
  at_ : ∃ A c, v = .slice A n c ∧ n ≤ c ∧ c ≤ maxLen ∧ (0 < n → ∃ b off, A = some ⟨b, off, none⟩ ∧ b < w.heap.size ∧ ∀ k, k < n → A4At w b (off + k * 4) (f k))
  sees : ∀ k, k < n → SeesL w w.heap.size (.slice (f k).A (f k).l.length (f k).c) (f k).l ∧ bytesL (f k).l
section
variable {H : Type} {enc : TypeId × Value → H} {P : Program} {w : World} {base : Nat} {spare : Nat → Bool} {held : Bool}
/-- A list of bytes that came in, of whatever length. -/
theorem sees_list {t e : TypeId} {fuel : Nat} {v : Value} {y : DataW H × List MemPlace} (ht : P.underlying t = some (.slice e)) (he : P.underlying e = some (.int .u8)) (hc : P.cellsOf e = 1)
    (h : DataW.trod enc P w base spare held fuel t [v] = some y) : ∃ A c l, v = .slice A l.length c ∧ SeesL w w.heap.size (.slice A l.length c) l ∧ bytesL l := by
  rcases open_ints ht he hc h with ⟨hcs, _⟩ | ⟨x, n, c, zs, hcs, _, hl, hm, hz, _, hcell, hwz⟩
  · obtain rfl : v = .slice none 0 0 := by simpa using hcs
    exact ⟨none, 0, [], rfl, SeesL.nil, fun x hx => by simp at hx⟩
  · obtain rfl : v = .slice (some x) n c := by simpa using hcs
    have hnz : n ≤ zs.length := by rw [hz]; split <;> omega
    have hlen : (zs.take n).length = n := by simp; omega
    refine ⟨some x, c, zs.take n, by rw [hlen], ⟨some x, c, rfl, by rw [hlen]; exact hl, hm, ?_, fun h => by cases h⟩, fun z hz' => ?_⟩
    · rw [hlen]
      intro h0
      obtain ⟨b, off, rfl, hb⟩ := addr_at (hcell 0 (by omega))
      refine ⟨b, off, rfl, hb, fun k hk => ?_⟩
      have e : bv (zs.take n) k = .int .u8 (zs.getD k 0) := by simp [bv, List.getD_eq_getElem?_getD, hk]
      rw [e]
      have := hcell k (by omega)
      by_cases h0 : k = 0
      · subst h0; simpa [Addr.add] using this
      · simpa [Addr.add, h0] using this
    · have := bounds_u8 (hwz z (List.mem_of_mem_take hz'))
      omega
theorem int_cella {t : TypeId} {n : Nat} {v : Value} {y : DataW H × List MemPlace} (hi : P.underlying t = some (.int .i64)) (h : DataW.trod enc P w base spare held n t [v] = some y) : ∃ z, v = .int .i64 z := by
  obtain ⟨z, hz, -⟩ := DataW.trod_int hi h
  exact ⟨z, by simpa using hz⟩
theorem bool_cella {t : TypeId} {n : Nat} {v : Value} {y : DataW H × List MemPlace} (hi : P.underlying t = some .bool) (h : DataW.trod enc P w base spare held n t [v] = some y) : ∃ z, v = .bool z := by
  obtain ⟨z, hz, -⟩ := DataW.trod_bool hi h
  exact ⟨z, by simpa using hz⟩
theorem sees_acts4 {t e ti tb ts te : TypeId} {f0 f1 f2 f3 : Field} {A : Option Addr} {n c : Nat} {d : DataW H} {ps : List MemPlace} (ht : P.underlying t = some (.slice e)) (he : P.underlying e = some (.struct #[f0, f1, f2, f3])) (ce : P.cellsOf e = 4) (t0 : f0.type = ti ∧ f0.offset = 0) (t1 : f1.type = ti ∧ f1.offset = 1) (t2 : f2.type = ts ∧ f2.offset = 2) (t3 : f3.type = tb ∧ f3.offset = 3)
    (hi : P.underlying ti = some (.int .i64)) (hb : P.underlying tb = some .bool) (hs : P.underlying ts = some (.slice te)) (hu : P.underlying te = some (.int .u8)) (hc : P.cellsOf ti = 1) (hcb : P.cellsOf tb = 1) (hcs : P.cellsOf ts = 1) (hce : P.cellsOf te = 1)
    (h : DataW.Trod enc P w base spare held t (.slice A n c) d ps) : ∃ f, InA4 w (.slice A n c) n f := by
  obtain ⟨fuel, h⟩ := h
  rcases open_slice ht h with ⟨hv, -⟩ | ⟨a, len, cap, m, k, Dt, Pl, hv, -, hl, hm, hmm, -, hx⟩
  · simp [Value.cells] at hv
    obtain ⟨rfl, rfl, rfl⟩ := hv
    exact ⟨fun _ => default, ⟨none, 0, rfl, Nat.le_refl _, Nat.zero_le _, fun h => absurd h (Nat.lt_irrefl _)⟩, fun k hk => absurd hk (by omega)⟩
  · simp [Value.cells] at hv
    obtain ⟨rfl, rfl, rfl⟩ := hv
    have hlm : n ≤ m := by rw [hmm]; split <;> omega
    have each : ∀ i, i < n → ∃ x : A4, (w.cell? (a.add (i * 4)) = some (.int .i64 x.k) ∧ w.cell? (a.add (i * 4 + 1)) = some (.int .i64 x.n) ∧ w.cell? (a.add (i * 4 + 2)) = some (.slice x.A x.l.length x.c) ∧ w.cell? (a.add (i * 4 + 3)) = some (.bool x.q)) ∧ SeesL w w.heap.size (.slice x.A x.l.length x.c) x.l ∧ bytesL x.l := by
      intro i hi'
      obtain ⟨cs', h1, h2⟩ := hx i (by omega)
      rw [ce] at h1
      obtain ⟨_, hlen, hcell⟩ := World.cells?_some h1
      match cs', hlen with
      | [v0, v1, v2, v3], _ =>
        obtain ⟨y0, y1, y2, y3, q, _, _, g0, g1, g2, g3⟩ := trod_struct4 he h2
        rw [t0.1, t0.2, hc] at g0
        rw [t1.1, t1.2, hc] at g1
        rw [t2.1, t2.2, hcs] at g2
        rw [t3.1, t3.2, hcb] at g3
        obtain ⟨z0, rfl⟩ := int_cella hi g0
        obtain ⟨z1, rfl⟩ := int_cella hi g1
        obtain ⟨A', c', l, rfl, hS, hB⟩ := sees_list hs hu hce g2
        obtain ⟨z3, rfl⟩ := bool_cella hb g3
        have e0 := hcell 0 (by omega)
        have e1 := hcell 1 (by omega)
        have e2 := hcell 2 (by omega)
        have e3 := hcell 3 (by omega)
        rw [add_add] at e0 e1 e2 e3
        exact ⟨⟨z0, z1, A', c', l, z3⟩, ⟨by simpa using e0, by simpa using e1, by simpa using e2, by simpa using e3⟩, hS, hB⟩
    obtain ⟨f, hf⟩ := choose_lt each
    refine ⟨f, ⟨some a, c, rfl, hl, hm, fun h0 => ?_⟩, fun k hk => (hf k hk).2⟩
    have h00 := (hf 0 h0).1.1
    obtain ⟨b, off, rfl, hbb⟩ := addr_at (v := .int .i64 (f 0).k) (by simpa using h00)
    have hadd : ∀ j, (⟨b, off, none⟩ : Addr).add j = ⟨b, off + j, none⟩ := fun j => by unfold Addr.add; split <;> simp_all
    simp only [hadd] at hf
    refine ⟨b, off, rfl, hbb, fun k hk => ?_⟩
    obtain ⟨⟨e0, e1, e2, e3⟩, -⟩ := hf k hk
    exact ⟨e0, by rw [Nat.add_assoc]; exact e1, by rw [Nat.add_assoc]; exact e2, by rw [Nat.add_assoc]; exact e3⟩
end
end Go.Proofs.Ytkaeikjfegjpjaa

/-! ### Ext -/
namespace Go.Proofs.Ytkaeikjfegjpjaa
open Go.RowKit

/-- From w to w' only v's own block may have turned, and v' lies there or in a new one. -/
structure Ext (w w' : World) (v v' : Value) : Prop where
  grown : w.grownBy w' v.ownBlock
  lies : ∀ j, v'.ownBlock = some j → w.heap.size ≤ j ∨ v.ownBlock = some j
section
variable {w w1 w2 : World} {v v1 v2 : Value} {B B' : Nat}
theorem Ext.refl (w : World) (v : Value) : Ext w w v v := ⟨World.grownBy.refl _ _, fun _ h => .inr h⟩
theorem Ext.trans (h : Ext w w1 v v1) (k : Ext w1 w2 v1 v2) : Ext w w2 v v2 :=
  ⟨h.grown.andThen k.grown h.lies, fun j hj => by
    rcases k.lies j hj with h1 | h1
    · exact .inl (Nat.le_trans h.grown.size h1)
    · exact h.lies j h1⟩
theorem Ext.below (h : Ext w w1 v v1) (k : Below w1.heap.size w1 w2) : Ext w w2 v v1 :=
  ⟨h.grown.andThen (row' := none) ⟨k.os, k.tape, k.output, k.size, fun i hi _ => k.block i hi⟩ (fun _ h => by cases h), h.lies⟩
theorem Ext.alloc (h : Ext w w1 v v1) (o : Obj) : Ext w (w1.alloc o) v v1 := h.below ((Below.refl _ _).alloc (Nat.le_refl _) o)
theorem Ext.drew (h : Ext w w1 v v1) : Ext w w1.drew v v1 := ⟨⟨h.grown.os, h.grown.tape, h.grown.output, h.grown.size, h.grown.block⟩, h.lies⟩
theorem Ext.toBelow (h : Ext w w1 v v1) (hB : B ≤ w.heap.size) (hv : ∀ j, v.ownBlock = some j → B ≤ j) : Below B w w1 :=
  ⟨h.grown.os, h.grown.tape, h.grown.output, h.grown.size, fun i hi => h.grown.block i (by omega) (fun e => by have := hv i e.symm; omega)⟩
theorem Ext.cell (h : Ext w w1 v v1) {p : Addr} {x : Value} (hx : w.cell? p = some x) (hne : v.ownBlock ≠ some p.block) : w1.cell? p = some x := h.grown.cell hx (fun e => hne e.symm)
theorem Ext.cell_ (h : Ext w w1 v v1) {p : Addr} (hlt : p.block < w.heap.size) (hne : v.ownBlock ≠ some p.block) : w1.cell? p = w.cell? p := h.grown.cell_far p hlt (fun e => hne e.symm)
theorem Ext.size (h : Ext w w1 v v1) : w.heap.size ≤ w1.heap.size := h.grown.size
/-- What was seen in another block is seen still. -/
theorem Ext.sees {l : List Int} {u : Value} (h : Ext w w1 v v1) (hs : SeesL w B u l) (hne : u.ownBlock = none ∨ v.ownBlock ≠ u.ownBlock) : SeesL w1 B u l := ⟨by
  obtain ⟨A, c, rfl, h1, h2, h3, h4⟩ := hs.at_
  refine ⟨A, c, rfl, h1, h2, fun h0 => ?_, h4⟩
  obtain ⟨b, off, rfl, hb, hc⟩ := h3 h0
  refine ⟨b, off, rfl, hb, fun k hk => h.cell (hc k hk) ?_⟩
  rcases hne with hn | hn
  · simp [Value.ownBlock] at hn
  · simpa [Value.ownBlock] using hn⟩
end

theorem OwnsL.lt {w : World} {B : Nat} {v : Value} {l : List Int} (h : OwnsL w B v l) : ∀ j, v.ownBlock = some j → B ≤ j ∧ j < w.heap.size := World.ownsRow.lt h

/-- Where the cells come from that are to be appended. -/
def Src (w : World) (u : Value) (size m : Nat) (news : List Value) : Prop :=
  (u = .slice none 0 0 ∧ m = 0 ∧ news = []) ∨ (∃ ad c, u = .slice (some ad) m c ∧ news.length = m * size ∧ (∀ j x, news[j]? = some x → w.cell? (ad.add j) = some x) ∧ ∀ x ∈ news, x.oneCell' = true)

section
variable {P : Program} (w : World) {ops : Array Oper} {rest : List Oper} {o : Oper} {a : Act} {K : Act → World → Prop} {Q : Exit → Act → World → Prop}
theorem wp_push (s x : Operand) (t : TypeId) (ho : o.op = .call { callee := .builtin .append, args := #[s, x], argTypes := #[t, t] })
    (B : Nat) (e : TypeId) (z : Value) (size bytes : Nat) (hinf : (P.info? e).map (fun i => (i.zero, i.size, i.bytes)) = some (some z, size, bytes)) (hzs : z.cells.size = size) (hsz : 0 < size) (ht : P.underlying t = some (.slice e))
    (v : Value) (n : Nat) (xs : List Value) (hown : w.ownsRow B e size v n xs) (hs : a.eval s = v)
    (u : Value) (m : Nat) (news : List Value) (hx : a.eval x = u) (hsrc : Src w u size m news)
    (hB : B ≤ w.heap.size) (h63 : n + m ≤ maxLen) (hroom : (n + m) * bytes ≤ 140737488355328)
    (h : ∀ v' w', w'.ownsRow B e size v' (n + m) (xs ++ news) → Ext w w' v v' → K (a.put o.dst v') w') : o.wp P a w K Q := by
  obtain ⟨i, hi, hz0, hz1, hz2⟩ := info_parts hinf
  rcases hsrc with ⟨rfl, rfl, rfl⟩ | ⟨ad, c, rfl, hl, hn, h1⟩
  · have hrun := run_append_owned_none (P := P) (w := w) B t o.type e i size ht hi v n _ hown
    unfold Oper.wp
    simp [execOp, ho, resolve, invoke, builtin, hs, hx, hrun, Result.andThen]
    refine h v w ?_ (Ext.refl _ _)
    simpa using hown
  · obtain ⟨v', w', hr, h2, h3, -, h5⟩ := run_append_own_at (P := P) w B t o.type e i z size bytes ht hi hz0 hz1 hz2 hzs hsz v n xs hown ad m c news hl hn h1 h63 hroom hB
    unfold Oper.wp execOp
    simp only [ho, resolve, invoke, builtin, Sem.run_bind, Sem.run_pure, Result.andThen_ok, List.map_toArray, List.map_cons, List.map_nil, hs, hx, hr]
    exact h v' w' h2 ⟨h3, fun j hj => by
      rcases h5 with h5 | h5
      · exact .inr (h5 ▸ hj)
      · rw [h5] at hj
        cases hj
        exact .inl (Nat.le_refl _)⟩

/-- 'append' of whatever cells, in a plain region. -/
theorem wpList_pushC (hgd : o.guard = none) (s x : Operand) (t : TypeId) (ho : o.op = .call { callee := .builtin .append, args := #[s, x], argTypes := #[t, t] })
    (B : Nat) (e : TypeId) (z : Value) (size bytes : Nat) (hinf : (P.info? e).map (fun i => (i.zero, i.size, i.bytes)) = some (some z, size, bytes)) (hzs : z.cells.size = size) (hsz : 0 < size) (ht : P.underlying t = some (.slice e))
    (v : Value) (n : Nat) (xs : List Value) (hown : w.ownsRow B e size v n xs) (hs : a.eval s = v)
    (u : Value) (m : Nat) (news : List Value) (hx : a.eval x = u) (hsrc : Src w u size m news)
    (hB : B ≤ w.heap.size) (h63 : n + m ≤ maxLen) (hroom : (n + m) * bytes ≤ 140737488355328)
    (h : ∀ v' w', w'.ownsRow B e size v' (n + m) (xs ++ news) → Ext w w' v v' → wpList P ops Q rest (a.put o.dst v') w') : wpList P ops Q (o :: rest) a w :=
  wpList_plain hgd fun _ hK => wp_push w s x t ho B e z size bytes hinf hzs hsz ht v n xs hown hs u m news hx hsrc hB h63 hroom fun v' w' h1 h2 => hK _ _ (h v' w' h1 h2)
/-- As one step of a region that draws its order. -/
theorem step_pushC {E : Prop} (hgd : o.guard = none) (s x : Operand) (t : TypeId) (ho : o.op = .call { callee := .builtin .append, args := #[s, x], argTypes := #[t, t] })
    (B : Nat) (e : TypeId) (z : Value) (size bytes : Nat) (hinf : (P.info? e).map (fun i => (i.zero, i.size, i.bytes)) = some (some z, size, bytes)) (hzs : z.cells.size = size) (hsz : 0 < size) (ht : P.underlying t = some (.slice e))
    (v : Value) (n : Nat) (xs : List Value) (hown : w.ownsRow B e size v n xs) (hs : a.eval s = v)
    (u : Value) (m : Nat) (news : List Value) (hx : a.eval x = u) (hsrc : Src w u size m news)
    (hB : B ≤ w.heap.size) (h63 : n + m ≤ maxLen) (hroom : (n + m) * bytes ≤ 140737488355328)
    (h : ∀ v' w', w'.ownsRow B e size v' (n + m) (xs ++ news) → Ext w w' v v' → K (a.put o.dst v') w') : if Region.wanted o (yielded ops a.tmps) = true then Oper.wp P o a w K Q else E := by
  have hw : Region.wanted o (yielded ops a.tmps) = true := by simp [Region.wanted, hgd]
  rw [if_pos hw]
  exact wp_push w s x t ho B e z size bytes hinf hzs hsz ht v n xs hown hs u m news hx hsrc hB h63 hroom h

theorem SeesL.src {w : World} {B : Nat} {u : Value} {m : List Int} (h : SeesL w B u m) : Src w u 1 m.length ((List.range m.length).map (bv m)) := by
  obtain ⟨A, c, rfl, -, -, h3, h4⟩ := h.at_
  cases A with
  | none =>
    obtain ⟨h5, h6⟩ := h4 rfl
    subst h6
    exact .inl ⟨by rw [h5], h5, by rw [h5]; rfl⟩
  | some ad =>
    refine .inr ⟨ad, c, rfl, by simp, fun j x hj => ?_, fun x hx => ?_⟩
    · rw [List.getElem?_map] at hj
      by_cases hjm : j < m.length
      · rw [List.getElem?_range hjm] at hj
        simp at hj
        subst hj
        obtain ⟨b, off, he, _, hc⟩ := h3 (by omega)
        simp only [Option.some.injEq] at he
        subst he
        have := hc j hjm
        by_cases h1 : j = 0
        · subst h1; simpa [Addr.add] using this
        · simpa [Addr.add, h1] using this
      · rw [List.getElem?_eq_none (by simpa using hjm)] at hj
        cases hj
    · obtain ⟨k, hk, rfl⟩ := List.mem_map.1 hx
      rfl
theorem OwnsL.joined {w : World} {B : Nat} {v : Value} {l m : List Int} (h : w.ownsRow B 5 1 v (l.length + m.length) ((List.range l.length).map (bv l) ++ (List.range m.length).map (bv m))) : OwnsL w B v (l ++ m) := by
  unfold OwnsL Owns
  rw [List.length_append]
  have e : (List.range (l.length + m.length)).map (bv (l ++ m)) = (List.range l.length).map (bv l) ++ (List.range m.length).map (bv m) := by
    rw [← range_join]
    exact List.map_congr_left fun k _ => (bv_append l m k).symm
  rw [e]
  exact h
theorem wp_pushL (s x : Operand) (t : TypeId) (ho : o.op = .call { callee := .builtin .append, args := #[s, x], argTypes := #[t, t] })
    (B : Nat) (hinf : (P.info? 5).map (fun i => (i.zero, i.size, i.bytes)) = some (some (.int .u8 0), 1, 1)) (ht : P.underlying t = some (.slice 5))
    (v : Value) (l : List Int) (hown : OwnsL w B v l) (hs : a.eval s = v) (Bs : Nat) (u : Value) (m : List Int) (hx : a.eval x = u) (hsee : SeesL w Bs u m)
    (hB : B ≤ w.heap.size) (hroom : l.length + m.length ≤ 140737488355328)
    (h : ∀ v' w', OwnsL w' B v' (l ++ m) → Ext w w' v v' → K (a.put o.dst v') w') : o.wp P a w K Q :=
  wp_push w s x t ho B 5 (.int .u8 0) 1 1 hinf rfl (by omega) ht v l.length _ hown hs u m.length _ hx hsee.src hB (by unfold maxLen; omega) (by omega) fun v' w' h1 h2 => h v' w' (OwnsL.joined h1) h2
/-- 'append' of bytes, in a plain region. -/
theorem wpList_pushL (hgd : o.guard = none) (s x : Operand) (t : TypeId) (ho : o.op = .call { callee := .builtin .append, args := #[s, x], argTypes := #[t, t] })
    (B : Nat) (hinf : (P.info? 5).map (fun i => (i.zero, i.size, i.bytes)) = some (some (.int .u8 0), 1, 1)) (ht : P.underlying t = some (.slice 5))
    (v : Value) (l : List Int) (hown : OwnsL w B v l) (hs : a.eval s = v) (Bs : Nat) (u : Value) (m : List Int) (hx : a.eval x = u) (hsee : SeesL w Bs u m)
    (hB : B ≤ w.heap.size) (hroom : l.length + m.length ≤ 140737488355328)
    (h : ∀ v' w', OwnsL w' B v' (l ++ m) → Ext w w' v v' → wpList P ops Q rest (a.put o.dst v') w') : wpList P ops Q (o :: rest) a w :=
  wpList_plain hgd fun _ hK => wp_pushL w s x t ho B hinf ht v l hown hs Bs u m hx hsee hB hroom fun v' w' h1 h2 => hK _ _ (h v' w' h1 h2)
/-- As one step of a region that draws its order. -/
theorem step_pushL {E : Prop} (hgd : o.guard = none) (s x : Operand) (t : TypeId) (ho : o.op = .call { callee := .builtin .append, args := #[s, x], argTypes := #[t, t] })
    (B : Nat) (hinf : (P.info? 5).map (fun i => (i.zero, i.size, i.bytes)) = some (some (.int .u8 0), 1, 1)) (ht : P.underlying t = some (.slice 5))
    (v : Value) (l : List Int) (hown : OwnsL w B v l) (hs : a.eval s = v) (Bs : Nat) (u : Value) (m : List Int) (hx : a.eval x = u) (hsee : SeesL w Bs u m)
    (hB : B ≤ w.heap.size) (hroom : l.length + m.length ≤ 140737488355328)
    (h : ∀ v' w', OwnsL w' B v' (l ++ m) → Ext w w' v v' → K (a.put o.dst v') w') : if Region.wanted o (yielded ops a.tmps) = true then Oper.wp P o a w K Q else E := by
  have hw : Region.wanted o (yielded ops a.tmps) = true := by simp [Region.wanted, hgd]
  rw [if_pos hw]
  exact wp_pushL w s x t ho B hinf ht v l hown hs Bs u m hx hsee hB hroom h
end

section
variable {P : Program} (w : World) {ops : Array Oper} {rest : List Oper} {o : Oper} {a : Act} {K : Act → World → Prop} {Q : Exit → Act → World → Prop}
/-- 'append' behind a list without room, whose block may bear a mark: the list lies in a new block. -/
theorem wp_growL (s x : Operand) (t : TypeId) (ho : o.op = .call { callee := .builtin .append, args := #[s, x], argTypes := #[t, t] })
    (B : Nat) (hinf : (P.info? 5).map (fun i => (i.zero, i.size, i.bytes)) = some (some (.int .u8 0), 1, 1)) (ht : P.underlying t = some (.slice 5))
    (b n c : Nat) (l : List Int) (Bv : Nat) (hn : n = l.length) (hv : SeesL w Bv (.slice (some ⟨b, 0, none⟩) n c) l) (hs : a.eval s = .slice (some ⟨b, 0, none⟩) n c) (Bs : Nat) (u : Value) (m : List Int) (hx : a.eval x = u) (hsee : SeesL w Bs u m)
    (hm : 0 < m.length) (hcap : c < n + m.length) (hB : B ≤ w.heap.size) (hroom : l.length + m.length ≤ 140737488355328)
    (h : ∀ v' w', OwnsL w' B v' (l ++ m) → Below w.heap.size w w' → K (a.put o.dst v') w') : o.wp P a w K Q := by
  subst hn
  obtain ⟨i, hi, hz0, hz1, hz2⟩ := info_parts hinf
  rcases hsee.src with ⟨-, h0, -⟩ | ⟨ad, c', rfl, hl, hnw, h1⟩
  · omega
  rcases hv.src with ⟨h0, -, -⟩ | ⟨ad2, c2, h0, hl2, hn2, -⟩
  · cases h0
  simp only [Value.slice.injEq, Option.some.injEq] at h0
  obtain ⟨rfl, -, rfl⟩ := h0
  have hr := run_append_grow (P := P) w t o.type 5 i (.int .u8 0) ht hi hz0 ⟨b, 0, none⟩ l.length c ((List.range l.length).map (bv l)) (by rw [hz1]; exact hl2) hn2 ad m.length c' ((List.range m.length).map (bv m)) (by rw [hz1]; exact hl) hnw hcap (by omega) (by rw [hz2]; exact growslice_fits hcap (by omega))
  unfold Oper.wp execOp
  simp only [ho, resolve, invoke, builtin, Sem.run_bind, Sem.run_pure, Result.andThen_ok, List.map_toArray, List.map_cons, List.map_nil, hs, hx, hr]
  refine h _ _ (OwnsL.joined ⟨by simp, .inr ⟨w.heap.size, _, _, rfl, hB, heap_alloc_new w.drew _, grownCap_ge _ _ _ _, grownCap_le_maxLen _ _ _ _ (by unfold maxLen; omega), ?_, ?_⟩⟩) ⟨rfl, rfl, rfl, by simp, fun k hk => Below.heap_alloc _ _ k hk⟩
  · have := grownCap_ge w (l.length + m.length) c 5
    simp only [Array.size_append, List.size_toArray, size_zeroCells, List.length_map, List.length_range, Value.cells]
    simp
    omega
  · simp only [Array.toList_append, List.append_assoc]
    rw [← List.append_assoc]
    exact List.take_left' (by simp)
theorem wpList_growL (hgd : o.guard = none) (s x : Operand) (t : TypeId) (ho : o.op = .call { callee := .builtin .append, args := #[s, x], argTypes := #[t, t] })
    (B : Nat) (hinf : (P.info? 5).map (fun i => (i.zero, i.size, i.bytes)) = some (some (.int .u8 0), 1, 1)) (ht : P.underlying t = some (.slice 5))
    (b n c : Nat) (l : List Int) (Bv : Nat) (hn : n = l.length) (hv : SeesL w Bv (.slice (some ⟨b, 0, none⟩) n c) l) (hs : a.eval s = .slice (some ⟨b, 0, none⟩) n c) (Bs : Nat) (u : Value) (m : List Int) (hx : a.eval x = u) (hsee : SeesL w Bs u m)
    (hm : 0 < m.length) (hcap : c < n + m.length) (hB : B ≤ w.heap.size) (hroom : l.length + m.length ≤ 140737488355328)
    (h : ∀ v' w', OwnsL w' B v' (l ++ m) → Below w.heap.size w w' → wpList P ops Q rest (a.put o.dst v') w') : wpList P ops Q (o :: rest) a w :=
  wpList_plain hgd fun _ hK => wp_growL w s x t ho B hinf ht b n c l Bv hn hv hs Bs u m hx hsee hm hcap hB hroom fun v' w' h1 h2 => hK _ _ (h v' w' h1 h2)
end
theorem sees_marked (w : World) (e : TypeId) (cs : Array Value) (fr : Nat × Nat) (l : List Int) (hl : cs = (l.map (Value.int .u8)).toArray) (B : Nat) (hB : w.heap.size < B) (hm : l.length ≤ maxLen) (g n c : Nat) (hg : g = w.heap.size) (hn : n = l.length) (hc : c = l.length) :
    SeesL (w.alloc (.cells cs e fr)) B (.slice (some ⟨g, 0, none⟩) n c) l := ⟨some ⟨g, 0, none⟩, c, by rw [hn], by omega, by omega, fun _ => ⟨g, 0, rfl, by omega, fun k hk => by
    rw [Nat.zero_add, hg, World.cell?_alloc_mark, hl]
    unfold bv
    simp [List.getD_eq_getElem?_getD, hk]⟩, fun h => by cases h⟩

theorem SeesL.alloc {w : World} {B : Nat} {v : Value} {l : List Int} (h : SeesL w B v l) (o : Obj) : SeesL (w.alloc o) B v l := ⟨by
  obtain ⟨A, c, rfl, h1, h2, h3, h4⟩ := h.at_
  refine ⟨A, c, rfl, h1, h2, fun h0 => ?_, h4⟩
  obtain ⟨b, off, e, hb, hc⟩ := h3 h0
  exact ⟨b, off, e, hb, fun k hk => Lib.cell?_alloc_some o (hc k hk)⟩⟩
theorem owns_empty (w : World) (e : TypeId) (he : e = 5) (B g : Nat) (hB : B ≤ w.heap.size) (hg : g = w.heap.size) : OwnsL (w.alloc (.cells #[] e)) B (.slice (some ⟨g, 0, none⟩) 0 0) [] := by
  subst he hg
  exact World.ownsRow_made w #[] 0 hB (by unfold maxLen; omega) rfl
end Go.Proofs.Ytkaeikjfegjpjaa

/-! ### Mem -/
namespace Go.Proofs.Ytkaeikjfegjpjaa
open Go.RowKit

/-- A block that is known whole. -/
def Blk (W : World) (g : Nat) (cs : Array Value) (t : TypeId) : Prop := W.heap[g]? = some (.cells cs t (0, 0))
section
variable {W W' : World} {g : Nat} {cs : Array Value} {t : TypeId}
theorem Blk.lt (h : Blk W g cs t) : g < W.heap.size := (Array.getElem?_eq_some_iff.1 h).1
theorem Blk.cell (h : Blk W g cs t) (i : Nat) {x : Value} (hx : cs[i]? = some x) : W.cell? ⟨g, i, none⟩ = some x := by
  rw [← hx]; simp [World.cell?, show W.heap[g]? = _ from h]
theorem Blk.frozen (h : Blk W g cs t) (i : Nat) : W.frozen? ⟨g, i, none⟩ = false := by simp [World.frozen?, show W.heap[g]? = _ from h]
theorem Blk.new (W : World) (g : Nat) (hg : g = W.heap.size) (cs : Array Value) (t : TypeId) : Blk (W.alloc (.cells cs t)) g cs t := by
  subst hg; exact heap_alloc_new W _
theorem Blk.below (h : Blk W g cs t) {B : Nat} (hb : Below B W W') (hB : g < B) : Blk W' g cs t := (hb.block g hB).trans h
theorem Blk.alloc (h : Blk W g cs t) (o : Obj) : Blk (W.alloc o) g cs t := (Below.heap_alloc W o g h.lt).trans h
theorem Blk.drew (h : Blk W g cs t) : Blk W.drew g cs t := h
theorem Blk.drewN (h : Blk W g cs t) (n : Nat) : Blk (W.drewN n) g cs t := h.below (below_drewN (Below.refl (g + 1) W) n) (Nat.lt_succ_self _)
theorem Blk.set (h : Blk W g cs t) (i : Nat) (x : Value) : Blk (W.setCell ⟨g, i, none⟩ x) g (cs.setIfInBounds i x) t := Joins.block_setCell h x
theorem Blk.eq {cs' : Array Value} (h : Blk W g cs t) (e : cs = cs') : Blk W g cs' t := e ▸ h
theorem Blk.other (h : Blk W g cs t) (p : Addr) (hp : g ≠ p.block) (x : Value) : Blk (W.setCell p x) g cs t := (Below.heap_setCell W p x g hp).trans h
end
/-- But for block g, all that there was is as it was. -/
def Only (g : Nat) (w w' : World) : Prop := w.grownBy w' (some g)
section
variable {g : Nat} {w w1 w2 : World}
theorem Only.refl (g : Nat) (w : World) : Only g w w := World.grownBy.refl _ _
theorem Only.set (h : Only g w w1) (i : Nat) (x : Value) : Only g w (w1.setCell ⟨g, i, none⟩ x) := ⟨h.os, h.tape, h.output, by simpa [World.setCell] using h.size, fun k hk hne => (Below.heap_setCell w1 ⟨g, i, none⟩ x k (fun e => hne (by rw [e]))).trans (h.block k hk hne)⟩
theorem Only.drew (h : Only g w w1) : Only g w w1.drew := ⟨h.os, h.tape, h.output, h.size, h.block⟩
theorem Only.trans (h : Only g w w1) (k : Only g w1 w2) : Only g w w2 := ⟨k.os.trans h.os, k.tape.trans h.tape, k.output.trans h.output, Nat.le_trans h.size k.size, fun i hi hne => (k.block i (Nat.lt_of_lt_of_le hi h.size) hne).trans (h.block i hi hne)⟩
theorem Only.below {B : Nat} (h : Only g w w1) (hB : B ≤ g) (hg : g < w.heap.size) : Below B w w1 := ⟨h.os, h.tape, h.output, h.size, fun i hi => h.block i (by omega) (by intro e; cases e; omega)⟩
theorem only_of_below (g : Nat) (h : Below w.heap.size w w1) : Only g w w1 := ⟨h.os, h.tape, h.output, h.size, fun i hi _ => h.block i hi⟩
theorem Blk.only {g' : Nat} {cs : Array Value} {t : TypeId} (h : Blk w g' cs t) (k : Only g w w1) (hne : g' ≠ g) : Blk w1 g' cs t := (k.block g' h.lt (by intro e; cases e; exact hne rfl)).trans h
end
end Go.Proofs.Ytkaeikjfegjpjaa
