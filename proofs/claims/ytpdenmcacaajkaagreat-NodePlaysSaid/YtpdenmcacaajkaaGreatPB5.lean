/- Texts Ext, TbMath in one. For what each says in front of its theorems. -/
import Derived.Deep.AppendLies
import Derived.Maps.Range
import Derived.Deep.RegionHeld3
import Derived.Deep.RegionLaw
import Derived.RegionTactic
import Derived.Lib.SlBytesConst
import Derived.Lib.SmallJoins
import Derived.Test.YtpdenmcacaajkaaGreatPB1
import Derived.Test.YtpdenmcacaajkaaGreatPB3
import Derived.Test.YtpdenmcacaajkaaGreatPB4
/-! ### Ext -/
namespace Go.Proofs.YtpdenmcacaajkaaGreat
open Go.RowKit

/-- From w to w' only v's own block may have turned, and v' lies there or in a new one. -/
structure Ext (w w' : World) (v v' : Value) : Prop where
  grown : w.grownBy w' v.ownBlock
  lies : ∀ j, v'.ownBlock = some j → w.heap.size ≤ j ∨ v.ownBlock = some j
section
variable {w w1 w2 : World} {v v1 v2 : Value} {B B' : Nat}
theorem Ext.refl (w : World) (v : Value) : Ext w w v v := ⟨World.grownBy.refl _ _, fun _ h => .inr h⟩
theorem Ext.trans (h : Ext w w1 v v1) (k : Ext w1 w2 v1 v2) : Ext w w2 v v2 :=
  ⟨h.grown.andThen k.grown h.lies, fun j hj => by
    rcases k.lies j hj with h1 | h1
    · exact .inl (Nat.le_trans h.grown.size h1)
    · exact h.lies j h1⟩
theorem Ext.below (h : Ext w w1 v v1) (k : Below w1.heap.size w1 w2) : Ext w w2 v v1 :=
  ⟨h.grown.andThen (row' := none) ⟨k.os, k.tape, k.output, k.size, fun i hi _ => k.block i hi⟩ (fun _ h => by cases h), h.lies⟩
theorem Ext.alloc (h : Ext w w1 v v1) (o : Obj) : Ext w (w1.alloc o) v v1 := h.below ((Below.refl _ _).alloc (Nat.le_refl _) o)
theorem Ext.drew (h : Ext w w1 v v1) : Ext w w1.drew v v1 := ⟨⟨h.grown.os, h.grown.tape, h.grown.output, h.grown.size, h.grown.block⟩, h.lies⟩
theorem Ext.toBelow (h : Ext w w1 v v1) (hB : B ≤ w.heap.size) (hv : ∀ j, v.ownBlock = some j → B ≤ j) : Below B w w1 :=
  ⟨h.grown.os, h.grown.tape, h.grown.output, h.grown.size, fun i hi => h.grown.block i (by omega) (fun e => by have := hv i e.symm; omega)⟩
theorem Ext.cell (h : Ext w w1 v v1) {p : Addr} {x : Value} (hx : w.cell? p = some x) (hne : v.ownBlock ≠ some p.block) : w1.cell? p = some x := h.grown.cell hx (fun e => hne e.symm)
theorem Ext.cell_ (h : Ext w w1 v v1) {p : Addr} (hlt : p.block < w.heap.size) (hne : v.ownBlock ≠ some p.block) : w1.cell? p = w.cell? p := h.grown.cell_far p hlt (fun e => hne e.symm)
theorem Ext.size (h : Ext w w1 v v1) : w.heap.size ≤ w1.heap.size := h.grown.size
/-- What was seen in another block is seen still. -/
theorem Ext.sees {l : List Int} {u : Value} (h : Ext w w1 v v1) (hs : SeesL w B u l) (hne : u.ownBlock = none ∨ v.ownBlock ≠ u.ownBlock) : SeesL w1 B u l := ⟨by
  obtain ⟨A, c, rfl, h1, h2, h3, h4⟩ := hs.at_
  refine ⟨A, c, rfl, h1, h2, fun h0 => ?_, h4⟩
  obtain ⟨b, off, rfl, hb, hc⟩ := h3 h0
  refine ⟨b, off, rfl, hb, fun k hk => h.cell (hc k hk) ?_⟩
  rcases hne with hn | hn
  · simp [Value.ownBlock] at hn
  · simpa [Value.ownBlock] using hn⟩
end

theorem OwnsL.lt {w : World} {B : Nat} {v : Value} {l : List Int} (h : OwnsL w B v l) : ∀ j, v.ownBlock = some j → B ≤ j ∧ j < w.heap.size := World.ownsRow.lt h

/-- Where the cells come from that are to be appended. -/
def Src (w : World) (u : Value) (size m : Nat) (news : List Value) : Prop :=
  (u = .slice none 0 0 ∧ m = 0 ∧ news = []) ∨ (∃ ad c, u = .slice (some ad) m c ∧ news.length = m * size ∧ (∀ j x, news[j]? = some x → w.cell? (ad.add j) = some x) ∧ ∀ x ∈ news, x.oneCell' = true)

section
variable {P : Program} (w : World) {ops : Array Oper} {rest : List Oper} {o : Oper} {a : Act} {K : Act → World → Prop} {Q : Exit → Act → World → Prop}
theorem wp_push (s x : Operand) (t : TypeId) (ho : o.op = .call { callee := .builtin .append, args := #[s, x], argTypes := #[t, t] })
    (B : Nat) (e : TypeId) (z : Value) (size bytes : Nat) (hinf : (P.info? e).map (fun i => (i.zero, i.size, i.bytes)) = some (some z, size, bytes)) (hzs : z.cells.size = size) (hsz : 0 < size) (ht : P.underlying t = some (.slice e))
    (v : Value) (n : Nat) (xs : List Value) (hown : w.ownsRow B e size v n xs) (hs : a.eval s = v)
    (u : Value) (m : Nat) (news : List Value) (hx : a.eval x = u) (hsrc : Src w u size m news)
    (hB : B ≤ w.heap.size) (h63 : n + m ≤ maxLen) (hroom : (n + m) * bytes ≤ 140737488355328)
    (h : ∀ v' w', w'.ownsRow B e size v' (n + m) (xs ++ news) → Ext w w' v v' → K (a.put o.dst v') w') : o.wp P a w K Q := by
  obtain ⟨i, hi, hz0, hz1, hz2⟩ := info_parts hinf
  rcases hsrc with ⟨rfl, rfl, rfl⟩ | ⟨ad, c, rfl, hl, hn, h1⟩
  · have hrun := run_append_owned_none (P := P) (w := w) B t o.type e i size ht hi v n _ hown
    unfold Oper.wp
    simp [execOp, ho, resolve, invoke, builtin, hs, hx, hrun, Result.andThen]
    refine h v w ?_ (Ext.refl _ _)
    simpa using hown
  · obtain ⟨v', w', hr, h2, h3, -, h5⟩ := run_append_own_at (P := P) w B t o.type e i z size bytes ht hi hz0 hz1 hz2 hzs hsz v n xs hown ad m c news hl hn h1 h63 hroom hB
    unfold Oper.wp execOp
    simp only [ho, resolve, invoke, builtin, Sem.run_bind, Sem.run_pure, Result.andThen_ok, List.map_toArray, List.map_cons, List.map_nil, hs, hx, hr]
    exact h v' w' h2 ⟨h3, fun j hj => by
      rcases h5 with h5 | h5
      · exact .inr (h5 ▸ hj)
      · rw [h5] at hj
        cases hj
        exact .inl (Nat.le_refl _)⟩

/-- 'append' of whatever cells, in a plain region. -/
theorem wpList_pushC (hgd : o.guard = none) (s x : Operand) (t : TypeId) (ho : o.op = .call { callee := .builtin .append, args := #[s, x], argTypes := #[t, t] })
    (B : Nat) (e : TypeId) (z : Value) (size bytes : Nat) (hinf : (P.info? e).map (fun i => (i.zero, i.size, i.bytes)) = some (some z, size, bytes)) (hzs : z.cells.size = size) (hsz : 0 < size) (ht : P.underlying t = some (.slice e))
    (v : Value) (n : Nat) (xs : List Value) (hown : w.ownsRow B e size v n xs) (hs : a.eval s = v)
    (u : Value) (m : Nat) (news : List Value) (hx : a.eval x = u) (hsrc : Src w u size m news)
    (hB : B ≤ w.heap.size) (h63 : n + m ≤ maxLen) (hroom : (n + m) * bytes ≤ 140737488355328)
    (h : ∀ v' w', w'.ownsRow B e size v' (n + m) (xs ++ news) → Ext w w' v v' → wpList P ops Q rest (a.put o.dst v') w') : wpList P ops Q (o :: rest) a w :=
  wpList_plain hgd fun _ hK => wp_push w s x t ho B e z size bytes hinf hzs hsz ht v n xs hown hs u m news hx hsrc hB h63 hroom fun v' w' h1 h2 => hK _ _ (h v' w' h1 h2)
/-- As one step of a region that draws its order. -/
theorem step_pushC {E : Prop} (hgd : o.guard = none) (s x : Operand) (t : TypeId) (ho : o.op = .call { callee := .builtin .append, args := #[s, x], argTypes := #[t, t] })
    (B : Nat) (e : TypeId) (z : Value) (size bytes : Nat) (hinf : (P.info? e).map (fun i => (i.zero, i.size, i.bytes)) = some (some z, size, bytes)) (hzs : z.cells.size = size) (hsz : 0 < size) (ht : P.underlying t = some (.slice e))
    (v : Value) (n : Nat) (xs : List Value) (hown : w.ownsRow B e size v n xs) (hs : a.eval s = v)
    (u : Value) (m : Nat) (news : List Value) (hx : a.eval x = u) (hsrc : Src w u size m news)
    (hB : B ≤ w.heap.size) (h63 : n + m ≤ maxLen) (hroom : (n + m) * bytes ≤ 140737488355328)
    (h : ∀ v' w', w'.ownsRow B e size v' (n + m) (xs ++ news) → Ext w w' v v' → K (a.put o.dst v') w') : if Region.wanted o (yielded ops a.tmps) = true then Oper.wp P o a w K Q else E := by
  have hw : Region.wanted o (yielded ops a.tmps) = true := by simp [Region.wanted, hgd]
  rw [if_pos hw]
  exact wp_push w s x t ho B e z size bytes hinf hzs hsz ht v n xs hown hs u m news hx hsrc hB h63 hroom h

theorem SeesL.src {w : World} {B : Nat} {u : Value} {m : List Int} (h : SeesL w B u m) : Src w u 1 m.length ((List.range m.length).map (bv m)) := by
  obtain ⟨A, c, rfl, -, -, h3, h4⟩ := h.at_
  cases A with
  | none =>
    obtain ⟨h5, h6⟩ := h4 rfl
    subst h6
    exact .inl ⟨by rw [h5], h5, by rw [h5]; rfl⟩
  | some ad =>
    refine .inr ⟨ad, c, rfl, by simp, fun j x hj => ?_, fun x hx => ?_⟩
    · rw [List.getElem?_map] at hj
      by_cases hjm : j < m.length
      · rw [List.getElem?_range hjm] at hj
        simp at hj
        subst hj
        obtain ⟨b, off, he, _, hc⟩ := h3 (by omega)
        simp only [Option.some.injEq] at he
        subst he
        have := hc j hjm
        by_cases h1 : j = 0
        · subst h1; simpa [Addr.add] using this
        · simpa [Addr.add, h1] using this
      · rw [List.getElem?_eq_none (by simpa using hjm)] at hj
        cases hj
    · obtain ⟨k, hk, rfl⟩ := List.mem_map.1 hx
      rfl
theorem OwnsL.joined {w : World} {B : Nat} {v : Value} {l m : List Int} (h : w.ownsRow B 5 1 v (l.length + m.length) ((List.range l.length).map (bv l) ++ (List.range m.length).map (bv m))) : OwnsL w B v (l ++ m) := by
  unfold OwnsL Owns
  rw [List.length_append]
  have e : (List.range (l.length + m.length)).map (bv (l ++ m)) = (List.range l.length).map (bv l) ++ (List.range m.length).map (bv m) := by
    rw [← range_join]
    exact List.map_congr_left fun k _ => (bv_append l m k).symm
  rw [e]
  exact h
theorem wp_pushL (s x : Operand) (t : TypeId) (ho : o.op = .call { callee := .builtin .append, args := #[s, x], argTypes := #[t, t] })
    (B : Nat) (hinf : (P.info? 5).map (fun i => (i.zero, i.size, i.bytes)) = some (some (.int .u8 0), 1, 1)) (ht : P.underlying t = some (.slice 5))
    (v : Value) (l : List Int) (hown : OwnsL w B v l) (hs : a.eval s = v) (Bs : Nat) (u : Value) (m : List Int) (hx : a.eval x = u) (hsee : SeesL w Bs u m)
    (hB : B ≤ w.heap.size) (hroom : l.length + m.length ≤ 140737488355328)
    (h : ∀ v' w', OwnsL w' B v' (l ++ m) → Ext w w' v v' → K (a.put o.dst v') w') : o.wp P a w K Q :=
  wp_push w s x t ho B 5 (.int .u8 0) 1 1 hinf rfl (by omega) ht v l.length _ hown hs u m.length _ hx hsee.src hB (by unfold maxLen; omega) (by omega) fun v' w' h1 h2 => h v' w' (OwnsL.joined h1) h2
/-- 'append' of bytes, in a plain region. -/
theorem wpList_pushL (hgd : o.guard = none) (s x : Operand) (t : TypeId) (ho : o.op = .call { callee := .builtin .append, args := #[s, x], argTypes := #[t, t] })
    (B : Nat) (hinf : (P.info? 5).map (fun i => (i.zero, i.size, i.bytes)) = some (some (.int .u8 0), 1, 1)) (ht : P.underlying t = some (.slice 5))
    (v : Value) (l : List Int) (hown : OwnsL w B v l) (hs : a.eval s = v) (Bs : Nat) (u : Value) (m : List Int) (hx : a.eval x = u) (hsee : SeesL w Bs u m)
    (hB : B ≤ w.heap.size) (hroom : l.length + m.length ≤ 140737488355328)
    (h : ∀ v' w', OwnsL w' B v' (l ++ m) → Ext w w' v v' → wpList P ops Q rest (a.put o.dst v') w') : wpList P ops Q (o :: rest) a w :=
  wpList_plain hgd fun _ hK => wp_pushL w s x t ho B hinf ht v l hown hs Bs u m hx hsee hB hroom fun v' w' h1 h2 => hK _ _ (h v' w' h1 h2)
/-- As one step of a region that draws its order. -/
theorem step_pushL {E : Prop} (hgd : o.guard = none) (s x : Operand) (t : TypeId) (ho : o.op = .call { callee := .builtin .append, args := #[s, x], argTypes := #[t, t] })
    (B : Nat) (hinf : (P.info? 5).map (fun i => (i.zero, i.size, i.bytes)) = some (some (.int .u8 0), 1, 1)) (ht : P.underlying t = some (.slice 5))
    (v : Value) (l : List Int) (hown : OwnsL w B v l) (hs : a.eval s = v) (Bs : Nat) (u : Value) (m : List Int) (hx : a.eval x = u) (hsee : SeesL w Bs u m)
    (hB : B ≤ w.heap.size) (hroom : l.length + m.length ≤ 140737488355328)
    (h : ∀ v' w', OwnsL w' B v' (l ++ m) → Ext w w' v v' → K (a.put o.dst v') w') : if Region.wanted o (yielded ops a.tmps) = true then Oper.wp P o a w K Q else E := by
  have hw : Region.wanted o (yielded ops a.tmps) = true := by simp [Region.wanted, hgd]
  rw [if_pos hw]
  exact wp_pushL w s x t ho B hinf ht v l hown hs Bs u m hx hsee hB hroom h
end

section
variable {P : Program} (w : World) {ops : Array Oper} {rest : List Oper} {o : Oper} {a : Act} {K : Act → World → Prop} {Q : Exit → Act → World → Prop}
/-- 'append' behind a list without room, whose block may bear a mark: the list lies in a new block. -/
theorem wp_growL (s x : Operand) (t : TypeId) (ho : o.op = .call { callee := .builtin .append, args := #[s, x], argTypes := #[t, t] })
    (B : Nat) (hinf : (P.info? 5).map (fun i => (i.zero, i.size, i.bytes)) = some (some (.int .u8 0), 1, 1)) (ht : P.underlying t = some (.slice 5))
    (b n c : Nat) (l : List Int) (Bv : Nat) (hn : n = l.length) (hv : SeesL w Bv (.slice (some ⟨b, 0, none⟩) n c) l) (hs : a.eval s = .slice (some ⟨b, 0, none⟩) n c) (Bs : Nat) (u : Value) (m : List Int) (hx : a.eval x = u) (hsee : SeesL w Bs u m)
    (hm : 0 < m.length) (hcap : c < n + m.length) (hB : B ≤ w.heap.size) (hroom : l.length + m.length ≤ 140737488355328)
    (h : ∀ v' w', OwnsL w' B v' (l ++ m) → Below w.heap.size w w' → K (a.put o.dst v') w') : o.wp P a w K Q := by
  subst hn
  obtain ⟨i, hi, hz0, hz1, hz2⟩ := info_parts hinf
  rcases hsee.src with ⟨-, h0, -⟩ | ⟨ad, c', rfl, hl, hnw, h1⟩
  · omega
  rcases hv.src with ⟨h0, -, -⟩ | ⟨ad2, c2, h0, hl2, hn2, -⟩
  · cases h0
  simp only [Value.slice.injEq, Option.some.injEq] at h0
  obtain ⟨rfl, -, rfl⟩ := h0
  have hr := run_append_grow (P := P) w t o.type 5 i (.int .u8 0) ht hi hz0 ⟨b, 0, none⟩ l.length c ((List.range l.length).map (bv l)) (by rw [hz1]; exact hl2) hn2 ad m.length c' ((List.range m.length).map (bv m)) (by rw [hz1]; exact hl) hnw hcap (by omega) (by rw [hz2]; exact growslice_fits hcap (by omega))
  unfold Oper.wp execOp
  simp only [ho, resolve, invoke, builtin, Sem.run_bind, Sem.run_pure, Result.andThen_ok, List.map_toArray, List.map_cons, List.map_nil, hs, hx, hr]
  refine h _ _ (OwnsL.joined ⟨by simp, .inr ⟨w.heap.size, _, _, rfl, hB, heap_alloc_new w.drew _, grownCap_ge _ _ _ _, grownCap_le_maxLen _ _ _ _ (by unfold maxLen; omega), ?_, ?_⟩⟩) ⟨rfl, rfl, rfl, by simp, fun k hk => Below.heap_alloc _ _ k hk⟩
  · have := grownCap_ge w (l.length + m.length) c 5
    simp only [Array.size_append, List.size_toArray, size_zeroCells, List.length_map, List.length_range, Value.cells]
    simp
    omega
  · simp only [Array.toList_append, List.append_assoc]
    rw [← List.append_assoc]
    exact List.take_left' (by simp)
theorem wpList_growL (hgd : o.guard = none) (s x : Operand) (t : TypeId) (ho : o.op = .call { callee := .builtin .append, args := #[s, x], argTypes := #[t, t] })
    (B : Nat) (hinf : (P.info? 5).map (fun i => (i.zero, i.size, i.bytes)) = some (some (.int .u8 0), 1, 1)) (ht : P.underlying t = some (.slice 5))
    (b n c : Nat) (l : List Int) (Bv : Nat) (hn : n = l.length) (hv : SeesL w Bv (.slice (some ⟨b, 0, none⟩) n c) l) (hs : a.eval s = .slice (some ⟨b, 0, none⟩) n c) (Bs : Nat) (u : Value) (m : List Int) (hx : a.eval x = u) (hsee : SeesL w Bs u m)
    (hm : 0 < m.length) (hcap : c < n + m.length) (hB : B ≤ w.heap.size) (hroom : l.length + m.length ≤ 140737488355328)
    (h : ∀ v' w', OwnsL w' B v' (l ++ m) → Below w.heap.size w w' → wpList P ops Q rest (a.put o.dst v') w') : wpList P ops Q (o :: rest) a w :=
  wpList_plain hgd fun _ hK => wp_growL w s x t ho B hinf ht b n c l Bv hn hv hs Bs u m hx hsee hm hcap hB hroom fun v' w' h1 h2 => hK _ _ (h v' w' h1 h2)
end
theorem sees_marked (w : World) (e : TypeId) (cs : Array Value) (fr : Nat × Nat) (l : List Int) (hl : cs = (l.map (Value.int .u8)).toArray) (B : Nat) (hB : w.heap.size < B) (hm : l.length ≤ maxLen) (g n c : Nat) (hg : g = w.heap.size) (hn : n = l.length) (hc : c = l.length) :
    SeesL (w.alloc (.cells cs e fr)) B (.slice (some ⟨g, 0, none⟩) n c) l := ⟨some ⟨g, 0, none⟩, c, by rw [hn], by omega, by omega, fun _ => ⟨g, 0, rfl, by omega, fun k hk => by
    rw [Nat.zero_add, hg, World.cell?_alloc_mark, hl]
    unfold bv
    simp [List.getD_eq_getElem?_getD, hk]⟩, fun h => by cases h⟩

end Go.Proofs.YtpdenmcacaajkaaGreat

/-! ### TbMath -/
namespace Go.Proofs.YtpdenmcacaajkaaGreat.Tb

structure D where
  sy : Bool
  inf : Bool
  li : Int
  sz : Int
deriving DecidableEq
structure T where
  ns : List D
  dr : Int
  wi : Int
  lm : Int
deriving DecidableEq
instance : Inhabited D := ⟨⟨false, false, 0, 0⟩⟩

def wi (n a b : Int) : Bool := decide (a ≤ n) && decide (n ≤ b)
/-- Has one ahead of place k this number? -/
def has (l : List D) (k : Nat) (n : Int) : Bool := (l.take k).any fun d => decide (d.li = n)
/-- Is the node at place k as it may be? -/
def ok (l : List D) (k : Nat) : Bool := wi (l.getD k default).li (2 * l.length) 200 && wi (l.getD k default).sz 1 8 && !has l k (l.getD k default).li
def syn : List D → Nat → Nat
  | _, 0 => 0
  | l, k + 1 => syn l k + (if (l.getD k default).sy then 1 else 0)
/-- Are the nodes up to k as they may be? -/
def oks (l : List D) (k : Nat) : Bool := (List.range k).all (ok l)
def are (l : List D) : Bool := wi l.length 4 8 && (oks l l.length && decide (4 ≤ syn l l.length))
def rest (t : T) : Bool := wi t.dr 0 1000 && (wi t.wi (4 * t.dr + 2) 1000 && wi t.lm t.wi 1000)
def T.is (t : T) : Bool := are t.ns && rest t

theorem oks_succ (l : List D) (k : Nat) : oks l (k + 1) = (oks l k && ok l k) := by
  simp [oks, List.range_succ]
theorem oks_bad {l : List D} {k : Nat} (hk : k < l.length) (h : ok l k = false) : oks l l.length = false := by
  simp only [oks, List.all_eq_false, List.mem_range]
  exact ⟨k, hk, by simp [h]⟩
theorem has_zero (l : List D) (n : Int) : has l 0 n = false := by simp [has]
theorem has_succ (l : List D) (k : Nat) (hk : k < l.length) (n : Int) : has l (k + 1) n = (has l k n || decide ((l.getD k default).li = n)) := by
  have e : l.take (k + 1) = l.take k ++ [l.getD k default] := by
    rw [List.take_add_one, List.getElem?_eq_getElem hk, List.getD_eq_getElem?_getD, List.getElem?_eq_getElem hk]
    rfl
  unfold has
  rw [e, List.any_append]
  simp
theorem has_more {l : List D} {k : Nat} (_hk : k < l.length) {n : Int} (h : has l (k + 1) n = true) : has l l.length n = true := by
  simp only [has, List.any_eq_true] at h ⊢
  obtain ⟨d, hd, h⟩ := h
  exact ⟨d, by rw [List.take_length]; exact List.mem_of_mem_take hd, h⟩
theorem has_mono {l : List D} {j k : Nat} (hjk : j ≤ k) {n : Int} (h : has l j n = true) : has l k n = true := by
  simp only [has, List.any_eq_true] at h ⊢
  obtain ⟨d, hd, h⟩ := h
  refine ⟨d, ?_, h⟩
  rw [show j = min j k by omega, ← List.take_take] at hd
  exact List.mem_of_mem_take hd
theorem has_take (l : List D) (k : Nat) (_hk : k ≤ l.length) (n : Int) : has (l.take k) (l.take k).length n = has l k n := by
  unfold has
  rw [List.take_length]
theorem syn_le (l : List D) : ∀ k, syn l k ≤ k
  | 0 => Nat.le_refl _
  | k + 1 => by have := syn_le l k; unfold syn; split <;> omega

/-- What has one, and where first. -/
def idx (l : List D) (n : Int) : Nat → Int
  | 0 => -1
  | k + 1 => let r := idx l n k; if r < 0 then (if (l.getD k default).li = n then (k : Int) else -1) else r

def flag (d : D) : Int := (if d.sy then 1 else 0) + (if d.inf then 2 else 0)
def nodeB (d : D) : List Int := [flag d, d.li / 256, d.li % 256, d.sz]
def two (n : Int) : List Int := [n / 256, n % 256]
def nodesB (l : List D) : List Int := l.flatMap nodeB
def T.bytes (t : T) : List Int := ([77, 84, 82, 78, (t.ns.length : Int)] ++ nodesB t.ns) ++ two t.dr ++ two t.wi ++ two t.lm

def dOf (a b c d : Int) : D := ⟨decide (a % 2 = 1), decide (a / 2 % 2 = 1), b * 256 + c, d⟩
def dAt (l : List Int) (i : Nat) : D := dOf (l.getD i 0) (l.getD (i + 1) 0) (l.getD (i + 2) 0) (l.getD (i + 3) 0)
def pairAt (l : List Int) (i : Nat) : Int := l.getD i 0 * 256 + l.getD (i + 1) 0
def nOf (l : List Int) : Nat := (l.getD 4 0).toNat
/-- The first k nodes. -/
def rdN (l : List Int) (k : Nat) : List D := (List.range k).map fun i => dAt l (5 + 4 * i)
def lenB (l : List Int) : Bool := decide (5 ≤ l.length) && decide (l.length = 11 + 4 * nOf l)
def rd (l : List Int) : T := ⟨rdN l (nOf l), pairAt l (5 + 4 * nOf l), pairAt l (7 + 4 * nOf l), pairAt l (9 + 4 * nOf l)⟩
def zero : T := ⟨[], 0, 0, 0⟩
def good (l : List Int) : Bool := lenB l && ((rd l).is && decide ((rd l).bytes = l))
def res (l : List Int) : T := if good l then rd l else zero
def err (l : List Int) : Int := if good l then 0 else 2
def sameB (a b : T) : Bool := decide (a = b)

theorem zero_is : zero.is = false := by decide
theorem nodesB_length (l : List D) : (nodesB l).length = 4 * l.length := by
  induction l with
  | nil => rfl
  | cons d l ih => simp only [nodesB, List.flatMap_cons, List.length_append, List.length_cons] at ih ⊢; rw [ih]; simp [nodeB]; omega
theorem T.bytes_length (t : T) : t.bytes.length = 11 + 4 * t.ns.length := by
  unfold T.bytes
  simp only [List.length_append, nodesB_length, two, List.length_cons, List.length_nil]
  omega
theorem rdN_length (l : List Int) (k : Nat) : (rdN l k).length = k := by simp [rdN]
theorem rdN_succ (l : List Int) (k : Nat) : rdN l (k + 1) = rdN l k ++ [dAt l (5 + 4 * k)] := by simp [rdN, List.range_succ]
theorem nodesB_snoc (l : List D) (d : D) : nodesB (l ++ [d]) = nodesB l ++ nodeB d := by simp [nodesB]
theorem nodesB_take (l : List D) (k : Nat) (hk : k < l.length) : nodesB (l.take (k + 1)) = nodesB (l.take k) ++ nodeB (l.getD k default) := by
  rw [List.take_add_one, List.getElem?_eq_getElem hk]
  simp only [Option.toList_some]
  rw [nodesB_snoc]
  simp [List.getD_eq_getElem?_getD, List.getElem?_eq_getElem hk]

theorem wi_iff (n a b : Int) : wi n a b = true ↔ a ≤ n ∧ n ≤ b := by simp [wi]
theorem oks_iff (l : List D) (k : Nat) : oks l k = true ↔ ∀ i, i < k → ok l i = true := by simp [oks]
/-- What a table that may be is. -/
structure May (t : T) : Prop where
  n4 : 4 ≤ t.ns.length
  n8 : t.ns.length ≤ 8
  nodes : ∀ d ∈ t.ns, (0 ≤ d.li ∧ d.li ≤ 200) ∧ 1 ≤ d.sz ∧ d.sz ≤ 8
  dr : 0 ≤ t.dr ∧ t.dr ≤ 1000
  wi : 0 ≤ t.wi ∧ t.wi ≤ 1000
  lm : 0 ≤ t.lm ∧ t.lm ≤ 1000
theorem T.may {t : T} (h : t.is = true) : May t := by
  simp only [T.is, are, rest, Bool.and_eq_true, wi_iff] at h
  obtain ⟨⟨⟨h1, h2⟩, h3, -⟩, ⟨h4, h5⟩, ⟨h6, h7⟩, h8, h9⟩ := h
  rw [oks_iff] at h3
  refine ⟨by omega, by omega, fun d hd => ?_, ⟨h4, h5⟩, ⟨by omega, h7⟩, by omega, h9⟩
  obtain ⟨i, hi, rfl⟩ := List.mem_iff_getElem.1 hd
  have := h3 i hi
  simp only [ok, Bool.and_eq_true, wi_iff, List.getD_eq_getElem?_getD, List.getElem?_eq_getElem hi, Option.getD_some] at this
  obtain ⟨⟨⟨a, b⟩, c, d⟩, -⟩ := this
  exact ⟨⟨by omega, b⟩, c, d⟩

theorem flag_lt (d : D) : 0 ≤ flag d ∧ flag d < 4 := by unfold flag; split <;> split <;> omega
theorem bytes_ok {t : T} (h : t.is = true) : ∀ x ∈ t.bytes, 0 ≤ x ∧ x < 256 := by
  have hm := T.may h
  intro x hx
  have := hm.n8
  have := hm.dr
  have := hm.wi
  have := hm.lm
  simp only [T.bytes, two, List.mem_append, List.mem_cons, List.not_mem_nil, or_false, nodesB, List.mem_flatMap] at hx
  rcases hx with ((((rfl | rfl | rfl | rfl | rfl) | ⟨d, hd, hx⟩) | (rfl | rfl)) | (rfl | rfl)) | (rfl | rfl)
  all_goals try omega
  have h1 := flag_lt d
  have h2 := hm.nodes d hd
  simp only [nodeB, List.mem_cons, List.not_mem_nil, or_false] at hx
  rcases hx with rfl | rfl | rfl | rfl <;> omega

theorem getD_append_left {α : Type} (l m : List α) (i : Nat) (d : α) (h : i < l.length) : (l ++ m).getD i d = l.getD i d := by
  simp [List.getD_eq_getElem?_getD, List.getElem?_append, h]
theorem getD_append_right {α : Type} (l m : List α) (i : Nat) (d : α) (h : l.length ≤ i) : (l ++ m).getD i d = m.getD (i - l.length) d := by
  simp [List.getD_eq_getElem?_getD, List.getElem?_append, Nat.not_lt.2 h]
theorem nodesB_getD (l : List D) (i : Nat) (hi : i < l.length) (j : Nat) (hj : j < 4) : (nodesB l).getD (4 * i + j) 0 = (nodeB (l.getD i default)).getD j 0 := by
  induction l generalizing i with
  | nil => simp at hi
  | cons d l ih =>
    have e : nodesB (d :: l) = nodeB d ++ nodesB l := by simp [nodesB]
    have hl : (nodeB d).length = 4 := rfl
    rw [e]
    cases i with
    | zero => rw [getD_append_left _ _ _ _ (by omega)]; simp
    | succ i =>
      rw [getD_append_right _ _ _ _ (by omega)]
      have := ih i (by simpa using hi)
      rw [show 4 * (i + 1) + j - (nodeB d).length = 4 * i + j by omega, this]
      simp
theorem dOf_node (d : D) (hl : 0 ≤ d.li) : dOf (flag d) (d.li / 256) (d.li % 256) d.sz = d := by
  obtain ⟨sy, inf, li, sz⟩ := d
  simp only at hl
  have h2 : li / 256 * 256 + li % 256 = li := by omega
  have h0 : decide (flag ⟨sy, inf, li, sz⟩ % 2 = 1) = sy := by cases sy <;> cases inf <;> simp [flag]
  have h1 : decide (flag ⟨sy, inf, li, sz⟩ / 2 % 2 = 1) = inf := by cases sy <;> cases inf <;> simp [flag]
  unfold dOf
  rw [h0, h1]
  simp only [h2]
theorem two_at (n : Int) : (two n).getD 0 0 * 256 + (two n).getD 1 0 = n := by
  simp only [two, List.getD_cons_zero, List.getD_cons_succ]
  omega
theorem bytes_four (t : T) : t.bytes.getD 4 0 = t.ns.length := by
  unfold T.bytes
  rw [getD_append_left _ _ _ _ (by simp), getD_append_left _ _ _ _ (by simp), getD_append_left _ _ _ _ (by simp), getD_append_left _ _ _ _ (by simp)]
  rfl
theorem bytes_node (t : T) (i : Nat) (hi : i < t.ns.length) (j : Nat) (hj : j < 4) : t.bytes.getD (5 + 4 * i + j) 0 = (nodeB (t.ns.getD i default)).getD j 0 := by
  have hn := nodesB_length t.ns
  unfold T.bytes
  have h5 : ([77, 84, 82, 78, (t.ns.length : Int)] : List Int).length = 5 := rfl
  rw [getD_append_left _ _ _ _ (by simp only [List.length_append, hn, h5]; omega), getD_append_left _ _ _ _ (by simp only [List.length_append, hn, h5]; omega), getD_append_left _ _ _ _ (by simp only [List.length_append, hn, h5]; omega),
    getD_append_right _ _ _ _ (by rw [h5]; omega), h5, show 5 + 4 * i + j - 5 = 4 * i + j by omega, nodesB_getD _ _ hi _ hj]
theorem bytes_tail (t : T) (j : Nat) : t.bytes.getD (5 + 4 * t.ns.length + j) 0 = (two t.dr ++ two t.wi ++ two t.lm).getD j 0 := by
  have hn := nodesB_length t.ns
  unfold T.bytes
  have h5 : ([77, 84, 82, 78, (t.ns.length : Int)] : List Int).length = 5 := rfl
  rw [List.append_assoc, List.append_assoc, getD_append_right _ _ _ _ (by simp only [List.length_append, hn, h5]; omega)]
  simp only [List.length_append, hn, h5, List.append_assoc]
  rw [show 5 + 4 * t.ns.length + j - (5 + 4 * t.ns.length) = j by omega]
/-- A table comes back as it was. -/
theorem rd_bytes {t : T} (h : t.is = true) : rd t.bytes = t := by
  have hm := T.may h
  have hN : nOf t.bytes = t.ns.length := by rw [nOf, bytes_four]; simp
  obtain ⟨ns, dr, wi, lm⟩ := t
  simp only at hN
  have h1 : rdN (T.bytes ⟨ns, dr, wi, lm⟩) ns.length = ns := by
    apply List.ext_getElem?
    intro i
    by_cases hi : i < ns.length
    · have hd := hm.nodes (ns[i]) (List.getElem_mem hi)
      have e := fun j hj => bytes_node ⟨ns, dr, wi, lm⟩ i hi j hj
      have e0 := e 0 (by omega)
      rw [Nat.add_zero] at e0
      have hg : ns.getD i default = ns[i] := by simp [List.getD_eq_getElem?_getD, List.getElem?_eq_getElem hi]
      simp only [hg] at e e0
      rw [rdN, List.getElem?_map, List.getElem?_range hi, List.getElem?_eq_getElem hi]
      simp only [Option.map_some, dAt]
      rw [e0, e 1 (by omega), e 2 (by omega), e 3 (by omega)]
      exact congrArg some (dOf_node _ hd.1.1)
    · rw [List.getElem?_eq_none (by rw [rdN_length]; omega), List.getElem?_eq_none (by omega)]
  have e := fun j => bytes_tail ⟨ns, dr, wi, lm⟩ j
  simp only at e
  unfold rd pairAt
  rw [hN, h1, show 7 + 4 * ns.length = 5 + 4 * ns.length + 2 by omega, show 9 + 4 * ns.length = 5 + 4 * ns.length + 4 by omega]
  simp only [Nat.add_assoc] at e ⊢
  have e0 := e 0
  rw [Nat.add_zero] at e0
  rw [e0, e, e, e, e, e]
  have h2 := two_at dr
  have h3 := two_at wi
  have h4 := two_at lm
  simp only [two, List.getD_cons_zero, List.getD_cons_succ] at h2 h3 h4
  simp only [two, List.cons_append, List.nil_append, List.getD_cons_zero, List.getD_cons_succ, h2, h3, h4, Nat.reduceAdd]
theorem good_bytes {t : T} (h : t.is = true) : good t.bytes = true := by
  have hb := rd_bytes h
  have hn : nOf t.bytes = t.ns.length := by rw [nOf, bytes_four]; simp
  have hl := t.bytes_length
  simp only [good, hb, h, lenB, hn, hl, Bool.true_and, Bool.and_eq_true, decide_eq_true_eq, and_true]
  omega
theorem back {t : T} (h : t.is = true) : res t.bytes = t ∧ err t.bytes = 0 := by
  rw [res, err, good_bytes h]
  exact ⟨rd_bytes h, rfl⟩
theorem bad_len {l : List Int} (h : lenB l = false) : res l = zero ∧ err l = 2 := by
  rw [res, err, good, h]
  exact ⟨rfl, rfl⟩
theorem cut_bad {t : T} (k : Nat) (hk : k < t.bytes.length) : res (t.bytes.take k) = zero ∧ err (t.bytes.take k) = 2 := by
  apply bad_len
  by_cases h5 : 5 ≤ k
  · have : nOf (t.bytes.take k) = t.ns.length := by
      rw [nOf, List.getD_eq_getElem?_getD, List.getElem?_take, if_pos (by omega), ← List.getD_eq_getElem?_getD, bytes_four]
      simp
    have hl := t.bytes_length
    rw [lenB, this, List.length_take]
    simp
    omega
  · rw [lenB, List.length_take]
    simp
    omega
theorem more_bad {t : T} (y : Int) : res (t.bytes ++ [y]) = zero ∧ err (t.bytes ++ [y]) = 2 := by
  apply bad_len
  have hl := t.bytes_length
  have : nOf (t.bytes ++ [y]) = t.ns.length := by
    rw [nOf, getD_append_left _ _ _ _ (by omega), bytes_four]
    simp
  rw [lenB, this, List.length_append, hl]
  simp
theorem once {l : List Int} (h : err l = 0) : (res l).is = true ∧ (res l).bytes = l := by
  rw [err] at h
  split at h
  · rename_i hg
    rw [res, hg]
    simp only [good, Bool.and_eq_true, decide_eq_true_eq] at hg
    exact ⟨hg.2.1, hg.2.2⟩
  · cases h
theorem err_or (l : List Int) : err l = 0 ∨ err l = 2 ∧ res l = zero := by
  rw [err, res]
  cases good l
  · exact .inr ⟨rfl, rfl⟩
  · exact .inl rfl
end Go.Proofs.YtpdenmcacaajkaaGreat.Tb
