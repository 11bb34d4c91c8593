/- Texts TbMath, TbA, TbB, TbC in one. For what each says in front of its theorems. -/
import Derived.Deep.RegionHeld3
import Derived.Deep.RegionLaw
import Derived.RegionTactic
import Derived.Test.YtfakibajipmkjaaGreatNB6
/-! ### TbMath -/
namespace Go.Proofs.YtfakibajipmkjaaGreat.Tb

structure D where
  sy : Bool
  inf : Bool
  li : Int
  sz : Int
deriving DecidableEq
structure T where
  ns : List D
  dr : Int
  wi : Int
  lm : Int
deriving DecidableEq
instance : Inhabited D := ⟨⟨false, false, 0, 0⟩⟩

def wi (n a b : Int) : Bool := decide (a ≤ n) && decide (n ≤ b)
/-- Has one ahead of place k this number? -/
def has (l : List D) (k : Nat) (n : Int) : Bool := (l.take k).any fun d => decide (d.li = n)
/-- Is the node at place k as it may be? -/
def ok (l : List D) (k : Nat) : Bool := wi (l.getD k default).li (2 * l.length) 200 && wi (l.getD k default).sz 1 8 && !has l k (l.getD k default).li
def syn : List D → Nat → Nat
  | _, 0 => 0
  | l, k + 1 => syn l k + (if (l.getD k default).sy then 1 else 0)
/-- Are the nodes up to k as they may be? -/
def oks (l : List D) (k : Nat) : Bool := (List.range k).all (ok l)
def are (l : List D) : Bool := wi l.length 4 8 && (oks l l.length && decide (4 ≤ syn l l.length))
def rest (t : T) : Bool := wi t.dr 0 1000 && (wi t.wi (4 * t.dr + 2) 1000 && wi t.lm t.wi 1000)
def T.is (t : T) : Bool := are t.ns && rest t

theorem oks_succ (l : List D) (k : Nat) : oks l (k + 1) = (oks l k && ok l k) := by
  simp [oks, List.range_succ]
theorem oks_bad {l : List D} {k : Nat} (hk : k < l.length) (h : ok l k = false) : oks l l.length = false := by
  simp only [oks, List.all_eq_false, List.mem_range]
  exact ⟨k, hk, by simp [h]⟩
theorem has_zero (l : List D) (n : Int) : has l 0 n = false := by simp [has]
theorem has_succ (l : List D) (k : Nat) (hk : k < l.length) (n : Int) : has l (k + 1) n = (has l k n || decide ((l.getD k default).li = n)) := by
  have e : l.take (k + 1) = l.take k ++ [l.getD k default] := by
    rw [List.take_add_one, List.getElem?_eq_getElem hk, List.getD_eq_getElem?_getD, List.getElem?_eq_getElem hk]
    rfl
  unfold has
  rw [e, List.any_append]
  simp
theorem has_more {l : List D} {k : Nat} (_hk : k < l.length) {n : Int} (h : has l (k + 1) n = true) : has l l.length n = true := by
  simp only [has, List.any_eq_true] at h ⊢
  obtain ⟨d, hd, h⟩ := h
  exact ⟨d, by rw [List.take_length]; exact List.mem_of_mem_take hd, h⟩
theorem has_mono {l : List D} {j k : Nat} (hjk : j ≤ k) {n : Int} (h : has l j n = true) : has l k n = true := by
  simp only [has, List.any_eq_true] at h ⊢
  obtain ⟨d, hd, h⟩ := h
  refine ⟨d, ?_, h⟩
  rw [show j = min j k by omega, ← List.take_take] at hd
  exact List.mem_of_mem_take hd
theorem has_take (l : List D) (k : Nat) (_hk : k ≤ l.length) (n : Int) : has (l.take k) (l.take k).length n = has l k n := by
  unfold has
  rw [List.take_length]
theorem syn_le (l : List D) : ∀ k, syn l k ≤ k
  | 0 => Nat.le_refl _
  | k + 1 => by have := syn_le l k; unfold syn; split <;> omega

/-- What has one, and where first. -/
def idx (l : List D) (n : Int) : Nat → Int
  | 0 => -1
  | k + 1 => let r := idx l n k; if r < 0 then (if (l.getD k default).li = n then (k : Int) else -1) else r

def flag (d : D) : Int := (if d.sy then 1 else 0) + (if d.inf then 2 else 0)
def nodeB (d : D) : List Int := [flag d, d.li / 256, d.li % 256, d.sz]
def two (n : Int) : List Int := [n / 256, n % 256]
def nodesB (l : List D) : List Int := l.flatMap nodeB
def T.bytes (t : T) : List Int := ([77, 84, 82, 78, (t.ns.length : Int)] ++ nodesB t.ns) ++ two t.dr ++ two t.wi ++ two t.lm

def dOf (a b c d : Int) : D := ⟨decide (a % 2 = 1), decide (a / 2 % 2 = 1), b * 256 + c, d⟩
def dAt (l : List Int) (i : Nat) : D := dOf (l.getD i 0) (l.getD (i + 1) 0) (l.getD (i + 2) 0) (l.getD (i + 3) 0)
def pairAt (l : List Int) (i : Nat) : Int := l.getD i 0 * 256 + l.getD (i + 1) 0
def nOf (l : List Int) : Nat := (l.getD 4 0).toNat
/-- The first k nodes. -/
def rdN (l : List Int) (k : Nat) : List D := (List.range k).map fun i => dAt l (5 + 4 * i)
def lenB (l : List Int) : Bool := decide (5 ≤ l.length) && decide (l.length = 11 + 4 * nOf l)
def rd (l : List Int) : T := ⟨rdN l (nOf l), pairAt l (5 + 4 * nOf l), pairAt l (7 + 4 * nOf l), pairAt l (9 + 4 * nOf l)⟩
def zero : T := ⟨[], 0, 0, 0⟩
def good (l : List Int) : Bool := lenB l && ((rd l).is && decide ((rd l).bytes = l))
def res (l : List Int) : T := if good l then rd l else zero
def err (l : List Int) : Int := if good l then 0 else 2
def sameB (a b : T) : Bool := decide (a = b)

theorem zero_is : zero.is = false := by decide
theorem nodesB_length (l : List D) : (nodesB l).length = 4 * l.length := by
  induction l with
  | nil => rfl
  | cons d l ih => simp only [nodesB, List.flatMap_cons, List.length_append, List.length_cons] at ih ⊢; rw [ih]; simp [nodeB]; omega
theorem T.bytes_length (t : T) : t.bytes.length = 11 + 4 * t.ns.length := by
  unfold T.bytes
  simp only [List.length_append, nodesB_length, two, List.length_cons, List.length_nil]
  omega
theorem rdN_length (l : List Int) (k : Nat) : (rdN l k).length = k := by simp [rdN]
theorem rdN_succ (l : List Int) (k : Nat) : rdN l (k + 1) = rdN l k ++ [dAt l (5 + 4 * k)] := by simp [rdN, List.range_succ]
theorem nodesB_snoc (l : List D) (d : D) : nodesB (l ++ [d]) = nodesB l ++ nodeB d := by simp [nodesB]
theorem nodesB_take (l : List D) (k : Nat) (hk : k < l.length) : nodesB (l.take (k + 1)) = nodesB (l.take k) ++ nodeB (l.getD k default) := by
  rw [List.take_add_one, List.getElem?_eq_getElem hk]
  simp only [Option.toList_some]
  rw [nodesB_snoc]
  simp [List.getD_eq_getElem?_getD, List.getElem?_eq_getElem hk]

theorem wi_iff (n a b : Int) : wi n a b = true ↔ a ≤ n ∧ n ≤ b := by simp [wi]
theorem oks_iff (l : List D) (k : Nat) : oks l k = true ↔ ∀ i, i < k → ok l i = true := by simp [oks]
/-- What a table that may be is. -/
structure May (t : T) : Prop where
  n4 : 4 ≤ t.ns.length
  n8 : t.ns.length ≤ 8
  nodes : ∀ d ∈ t.ns, (0 ≤ d.li ∧ d.li ≤ 200) ∧ 1 ≤ d.sz ∧ d.sz ≤ 8
  dr : 0 ≤ t.dr ∧ t.dr ≤ 1000
  wi : 0 ≤ t.wi ∧ t.wi ≤ 1000
  lm : 0 ≤ t.lm ∧ t.lm ≤ 1000
theorem T.may {t : T} (h : t.is = true) : May t := by
  simp only [T.is, are, rest, Bool.and_eq_true, wi_iff] at h
  obtain ⟨⟨⟨h1, h2⟩, h3, -⟩, ⟨h4, h5⟩, ⟨h6, h7⟩, h8, h9⟩ := h
  rw [oks_iff] at h3
  refine ⟨by omega, by omega, fun d hd => ?_, ⟨h4, h5⟩, ⟨by omega, h7⟩, by omega, h9⟩
  obtain ⟨i, hi, rfl⟩ := List.mem_iff_getElem.1 hd
  have := h3 i hi
  simp only [ok, Bool.and_eq_true, wi_iff, List.getD_eq_getElem?_getD, List.getElem?_eq_getElem hi, Option.getD_some] at this
  obtain ⟨⟨⟨a, b⟩, c, d⟩, -⟩ := this
  exact ⟨⟨by omega, b⟩, c, d⟩

theorem flag_lt (d : D) : 0 ≤ flag d ∧ flag d < 4 := by unfold flag; split <;> split <;> omega
theorem bytes_ok {t : T} (h : t.is = true) : ∀ x ∈ t.bytes, 0 ≤ x ∧ x < 256 := by
  have hm := T.may h
  intro x hx
  have := hm.n8
  have := hm.dr
  have := hm.wi
  have := hm.lm
  simp only [T.bytes, two, List.mem_append, List.mem_cons, List.not_mem_nil, or_false, nodesB, List.mem_flatMap] at hx
  rcases hx with ((((rfl | rfl | rfl | rfl | rfl) | ⟨d, hd, hx⟩) | (rfl | rfl)) | (rfl | rfl)) | (rfl | rfl)
  all_goals try omega
  have h1 := flag_lt d
  have h2 := hm.nodes d hd
  simp only [nodeB, List.mem_cons, List.not_mem_nil, or_false] at hx
  rcases hx with rfl | rfl | rfl | rfl <;> omega

theorem getD_append_left {α : Type} (l m : List α) (i : Nat) (d : α) (h : i < l.length) : (l ++ m).getD i d = l.getD i d := by
  simp [List.getD_eq_getElem?_getD, List.getElem?_append, h]
theorem getD_append_right {α : Type} (l m : List α) (i : Nat) (d : α) (h : l.length ≤ i) : (l ++ m).getD i d = m.getD (i - l.length) d := by
  simp [List.getD_eq_getElem?_getD, List.getElem?_append, Nat.not_lt.2 h]
theorem nodesB_getD (l : List D) (i : Nat) (hi : i < l.length) (j : Nat) (hj : j < 4) : (nodesB l).getD (4 * i + j) 0 = (nodeB (l.getD i default)).getD j 0 := by
  induction l generalizing i with
  | nil => simp at hi
  | cons d l ih =>
    have e : nodesB (d :: l) = nodeB d ++ nodesB l := by simp [nodesB]
    have hl : (nodeB d).length = 4 := rfl
    rw [e]
    cases i with
    | zero => rw [getD_append_left _ _ _ _ (by omega)]; simp
    | succ i =>
      rw [getD_append_right _ _ _ _ (by omega)]
      have := ih i (by simpa using hi)
      rw [show 4 * (i + 1) + j - (nodeB d).length = 4 * i + j by omega, this]
      simp
theorem dOf_node (d : D) (hl : 0 ≤ d.li) : dOf (flag d) (d.li / 256) (d.li % 256) d.sz = d := by
  obtain ⟨sy, inf, li, sz⟩ := d
  simp only at hl
  have h2 : li / 256 * 256 + li % 256 = li := by omega
  have h0 : decide (flag ⟨sy, inf, li, sz⟩ % 2 = 1) = sy := by cases sy <;> cases inf <;> simp [flag]
  have h1 : decide (flag ⟨sy, inf, li, sz⟩ / 2 % 2 = 1) = inf := by cases sy <;> cases inf <;> simp [flag]
  unfold dOf
  rw [h0, h1]
  simp only [h2]
theorem two_at (n : Int) : (two n).getD 0 0 * 256 + (two n).getD 1 0 = n := by
  simp only [two, List.getD_cons_zero, List.getD_cons_succ]
  omega
theorem bytes_four (t : T) : t.bytes.getD 4 0 = t.ns.length := by
  unfold T.bytes
  rw [getD_append_left _ _ _ _ (by simp), getD_append_left _ _ _ _ (by simp), getD_append_left _ _ _ _ (by simp), getD_append_left _ _ _ _ (by simp)]
  rfl
theorem bytes_node (t : T) (i : Nat) (hi : i < t.ns.length) (j : Nat) (hj : j < 4) : t.bytes.getD (5 + 4 * i + j) 0 = (nodeB (t.ns.getD i default)).getD j 0 := by
  have hn := nodesB_length t.ns
  unfold T.bytes
  have h5 : ([77, 84, 82, 78, (t.ns.length : Int)] : List Int).length = 5 := rfl
  rw [getD_append_left _ _ _ _ (by simp only [List.length_append, hn, h5]; omega), getD_append_left _ _ _ _ (by simp only [List.length_append, hn, h5]; omega), getD_append_left _ _ _ _ (by simp only [List.length_append, hn, h5]; omega),
    getD_append_right _ _ _ _ (by rw [h5]; omega), h5, show 5 + 4 * i + j - 5 = 4 * i + j by omega, nodesB_getD _ _ hi _ hj]
theorem bytes_tail (t : T) (j : Nat) : t.bytes.getD (5 + 4 * t.ns.length + j) 0 = (two t.dr ++ two t.wi ++ two t.lm).getD j 0 := by
  have hn := nodesB_length t.ns
  unfold T.bytes
  have h5 : ([77, 84, 82, 78, (t.ns.length : Int)] : List Int).length = 5 := rfl
  rw [List.append_assoc, List.append_assoc, getD_append_right _ _ _ _ (by simp only [List.length_append, hn, h5]; omega)]
  simp only [List.length_append, hn, h5, List.append_assoc]
  rw [show 5 + 4 * t.ns.length + j - (5 + 4 * t.ns.length) = j by omega]
/-- A table comes back as it was. -/
theorem rd_bytes {t : T} (h : t.is = true) : rd t.bytes = t := by
  have hm := T.may h
  have hN : nOf t.bytes = t.ns.length := by rw [nOf, bytes_four]; simp
  obtain ⟨ns, dr, wi, lm⟩ := t
  simp only at hN
  have h1 : rdN (T.bytes ⟨ns, dr, wi, lm⟩) ns.length = ns := by
    apply List.ext_getElem?
    intro i
    by_cases hi : i < ns.length
    · have hd := hm.nodes (ns[i]) (List.getElem_mem hi)
      have e := fun j hj => bytes_node ⟨ns, dr, wi, lm⟩ i hi j hj
      have e0 := e 0 (by omega)
      rw [Nat.add_zero] at e0
      have hg : ns.getD i default = ns[i] := by simp [List.getD_eq_getElem?_getD, List.getElem?_eq_getElem hi]
      simp only [hg] at e e0
      rw [rdN, List.getElem?_map, List.getElem?_range hi, List.getElem?_eq_getElem hi]
      simp only [Option.map_some, dAt]
      rw [e0, e 1 (by omega), e 2 (by omega), e 3 (by omega)]
      exact congrArg some (dOf_node _ hd.1.1)
    · rw [List.getElem?_eq_none (by rw [rdN_length]; omega), List.getElem?_eq_none (by omega)]
  have e := fun j => bytes_tail ⟨ns, dr, wi, lm⟩ j
  simp only at e
  unfold rd pairAt
  rw [hN, h1, show 7 + 4 * ns.length = 5 + 4 * ns.length + 2 by omega, show 9 + 4 * ns.length = 5 + 4 * ns.length + 4 by omega]
  simp only [Nat.add_assoc] at e ⊢
  have e0 := e 0
  rw [Nat.add_zero] at e0
  rw [e0, e, e, e, e, e]
  have h2 := two_at dr
  have h3 := two_at wi
  have h4 := two_at lm
  simp only [two, List.getD_cons_zero, List.getD_cons_succ] at h2 h3 h4
  simp only [two, List.cons_append, List.nil_append, List.getD_cons_zero, List.getD_cons_succ, h2, h3, h4, Nat.reduceAdd]
theorem good_bytes {t : T} (h : t.is = true) : good t.bytes = true := by
  have hb := rd_bytes h
  have hn : nOf t.bytes = t.ns.length := by rw [nOf, bytes_four]; simp
  have hl := t.bytes_length
  simp only [good, hb, h, lenB, hn, hl, Bool.true_and, Bool.and_eq_true, decide_eq_true_eq, and_true]
  omega
theorem back {t : T} (h : t.is = true) : res t.bytes = t ∧ err t.bytes = 0 := by
  rw [res, err, good_bytes h]
  exact ⟨rd_bytes h, rfl⟩
theorem bad_len {l : List Int} (h : lenB l = false) : res l = zero ∧ err l = 2 := by
  rw [res, err, good, h]
  exact ⟨rfl, rfl⟩
theorem cut_bad {t : T} (k : Nat) (hk : k < t.bytes.length) : res (t.bytes.take k) = zero ∧ err (t.bytes.take k) = 2 := by
  apply bad_len
  by_cases h5 : 5 ≤ k
  · have : nOf (t.bytes.take k) = t.ns.length := by
      rw [nOf, List.getD_eq_getElem?_getD, List.getElem?_take, if_pos (by omega), ← List.getD_eq_getElem?_getD, bytes_four]
      simp
    have hl := t.bytes_length
    rw [lenB, this, List.length_take]
    simp
    omega
  · rw [lenB, List.length_take]
    simp
    omega
theorem more_bad {t : T} (y : Int) : res (t.bytes ++ [y]) = zero ∧ err (t.bytes ++ [y]) = 2 := by
  apply bad_len
  have hl := t.bytes_length
  have : nOf (t.bytes ++ [y]) = t.ns.length := by
    rw [nOf, getD_append_left _ _ _ _ (by omega), bytes_four]
    simp
  rw [lenB, this, List.length_append, hl]
  simp
theorem once {l : List Int} (h : err l = 0) : (res l).is = true ∧ (res l).bytes = l := by
  rw [err] at h
  split at h
  · rename_i hg
    rw [res, hg]
    simp only [good, Bool.and_eq_true, decide_eq_true_eq] at hg
    exact ⟨hg.2.1, hg.2.2⟩
  · cases h
theorem err_or (l : List Int) : err l = 0 ∨ err l = 2 ∧ res l = zero := by
  rw [err, res]
  cases good l
  · exact .inr ⟨rfl, rfl⟩
  · exact .inl rfl
end Go.Proofs.YtfakibajipmkjaaGreat.Tb

/-! ### TbA -/
namespace Go.Proofs.YtfakibajipmkjaaGreat
open Go.RowKit
open Tb (D T)

/-- The cells of a node. -/
def dc (d : D) : List Value := [.bool d.sy, .bool d.inf, .int .i64 d.li, .int .i64 d.sz]
def dV (d : D) : Value := .agg #[.bool d.sy, .bool d.inf, .int .i64 d.li, .int .i64 d.sz]
def tabV (t : T) (v : Value) : Value := .agg #[v, .int .i64 t.dr, .int .i64 t.wi, .int .i64 t.lm]
/-- What lies at a node's four places. -/
structure AtD (w : World) (b off : Nat) (d : D) : Prop where
  c0 : w.cell? ⟨b, off, none⟩ = some (.bool d.sy)
  c1 : w.cell? ⟨b, off + 1, none⟩ = some (.bool d.inf)
  c2 : w.cell? ⟨b, off + 2, none⟩ = some (.int .i64 d.li)
  c3 : w.cell? ⟨b, off + 3, none⟩ = some (.int .i64 d.sz)
def SeesD (w : World) (B : Nat) (A : Option Addr) (l : List D) : Prop :=
  0 < l.length → ∃ b off, A = some ⟨b, off, none⟩ ∧ b < B ∧ ∀ k, k < l.length → AtD w b (off + k * 4) (l.getD k default)
/-- A slice of these nodes, nil told. -/
structure SeesT (w : World) (B : Nat) (v : Value) (l : List D) : Prop where
  at_ : ∃ A c, v = .slice A l.length c ∧ l.length ≤ c ∧ c ≤ maxLen ∧ SeesD w B A l ∧ (A = none → l.length = 0 ∧ c = 0)
def OwnsD (w : World) (base : Nat) (v : Value) (l : List D) : Prop := w.ownsRow base 53 4 v l.length (l.flatMap dc)

section
variable {w w' : World} {B B' Bs : Nat} {A : Option Addr} {v : Value} {l m : List D}
theorem AtD.keep {b off : Nat} {d : D} (h : AtD w b off d) (hk : ∀ o, w'.cell? ⟨b, o, none⟩ = w.cell? ⟨b, o, none⟩) : AtD w' b off d :=
  ⟨(hk _).trans h.c0, (hk _).trans h.c1, (hk _).trans h.c2, (hk _).trans h.c3⟩
theorem SeesD.keep (h : SeesD w B A l) (hk : ∀ b o, b < B → w'.cell? ⟨b, o, none⟩ = w.cell? ⟨b, o, none⟩) : SeesD w' B A l := fun h0 => by
  obtain ⟨b, off, e, hb, hc⟩ := h h0
  exact ⟨b, off, e, hb, fun k hlt => (hc k hlt).keep fun o => hk b o hb⟩
theorem SeesD.below (h : SeesD w B A l) (hb : Below B w w') : SeesD w' B A l := h.keep fun b o hp => hb.cell (p := ⟨b, o, none⟩) hp
theorem SeesD.more (h : SeesD w B A l) (hB : B ≤ B') : SeesD w B' A l := fun h0 => by
  obtain ⟨b, off, e, hb, hc⟩ := h h0
  exact ⟨b, off, e, by omega, hc⟩
theorem SeesD.drew (h : SeesD w B A l) : SeesD w.drew B A l := h.keep fun _ _ _ => rfl
theorem SeesD.nil : SeesD w B A [] := fun h => absurd h (by simp)
theorem SeesT.below (h : SeesT w B v l) (hb : Below B w w') : SeesT w' B v l := ⟨by
  obtain ⟨A, c, rfl, h1, h2, h3, h4⟩ := h.at_
  exact ⟨A, c, rfl, h1, h2, h3.below hb, h4⟩⟩
theorem SeesT.more (h : SeesT w B v l) (hB : B ≤ B') : SeesT w B' v l := ⟨by
  obtain ⟨A, c, rfl, h1, h2, h3, h4⟩ := h.at_
  exact ⟨A, c, rfl, h1, h2, h3.more hB, h4⟩⟩
theorem SeesT.drew (h : SeesT w B v l) : SeesT w.drew B v l := ⟨by
  obtain ⟨A, c, rfl, h1, h2, h3, h4⟩ := h.at_
  exact ⟨A, c, rfl, h1, h2, h3.drew, h4⟩⟩
theorem SeesT.nil : SeesT w B (.slice none 0 0) [] := ⟨none, 0, rfl, Nat.le_refl _, Nat.zero_le _, SeesD.nil, fun _ => ⟨rfl, rfl⟩⟩
theorem dcs_getD (l : List D) (k : Nat) (hk : k < l.length) (j : Nat) (hj : j < 4) : (l.flatMap dc)[k * 4 + j]? = (dc (l.getD k default))[j]? := by
  induction l generalizing k with
  | nil => simp at hk
  | cons d l ih =>
    have h4 : (dc d).length = 4 := rfl
    rw [List.flatMap_cons]
    cases k with
    | zero => rw [List.getElem?_append_left (by omega)]; simp
    | succ k =>
      rw [List.getElem?_append_right (by omega), h4, show (k + 1) * 4 + j - 4 = k * 4 + j by omega, ih k (by simpa using hk)]
      simp
theorem dcs_length (l : List D) : (l.flatMap dc).length = l.length * 4 := by
  induction l with
  | nil => rfl
  | cons d l ih => rw [List.flatMap_cons, List.length_append, ih]; simp [dc]; omega
theorem OwnsD.atD {g n c : Nat} (h : OwnsD w Bs (.slice (some ⟨g, 0, none⟩) n c) l) (hn : n = l.length) (k : Nat) (hk : k < l.length) : AtD w g (k * 4) (l.getD k default) := by
  subst hn
  have e := fun j (hj : j < 4) => (World.ownsRow.cellAt h (k * 4 + j) (by omega)).trans (dcs_getD l k hk j hj)
  exact ⟨by have := e 0 (by omega); rw [Nat.add_zero] at this; exact this, e 1 (by omega), e 2 (by omega), e 3 (by omega)⟩
theorem OwnsD.form (h : OwnsD w Bs v l) : (v = .slice none 0 0 ∧ l.length = 0) ∨ ∃ g c, v = .slice (some ⟨g, 0, none⟩) l.length c ∧ Bs ≤ g ∧ g < w.heap.size ∧ l.length ≤ c ∧ c ≤ maxLen := by
  rcases h.2 with h1 | ⟨g, cap, cur, h1, h2, h3, h4, h5, -⟩
  · exact .inl h1
  · exact .inr ⟨g, cap, h1, h2, (Array.getElem?_eq_some_iff.1 h3).1, h4, h5⟩
theorem OwnsD.sees (h : OwnsD w Bs v l) : SeesT w w.heap.size v l := ⟨by
  rcases h.form with ⟨rfl, h0⟩ | ⟨g, c, rfl, h1, h2, h3, h4⟩
  · exact ⟨none, 0, by rw [h0], by omega, by unfold maxLen; omega, fun h => absurd h (by omega), fun _ => ⟨h0, rfl⟩⟩
  · exact ⟨_, c, rfl, h3, h4, fun _ => ⟨g, 0, rfl, h2, fun k hk => by rw [Nat.zero_add]; exact OwnsD.atD h rfl k hk⟩, fun h => by cases h⟩⟩
theorem OwnsD.drew (h : OwnsD w Bs v l) : OwnsD w.drew Bs v l := h
theorem OwnsD.nil : OwnsD w Bs (.slice none 0 0) [] := World.ownsRow_nil _ _ _ _
theorem OwnsD.base (h : OwnsD w Bs v l) (hB : B ≤ Bs) : OwnsD w B v l := by
  refine ⟨h.1, ?_⟩
  rcases h.2 with h | ⟨g, cap, cur, h1, h2, h3⟩
  · exact .inl h
  · exact .inr ⟨g, cap, cur, h1, by omega, h3⟩
theorem OwnsD.below (h : OwnsD w Bs v l) (hb : Below B' w w') (hB : w.heap.size ≤ B') : OwnsD w' Bs v l :=
  World.ownsRow.kept (row := none) h ⟨hb.os, hb.tape, hb.output, hb.size, fun k hk _ => hb.block k (by omega)⟩ (by
    rcases h.2 with ⟨rfl, _⟩ | ⟨g, cap, cur, rfl, _⟩
    · exact .inl rfl
    · exact .inr (by simp [Value.ownBlock]))
theorem OwnsD.alloc (h : OwnsD w Bs v l) (o : Obj) : OwnsD (w.alloc o) Bs v l := World.ownsRow.alloc h o
end
end Go.Proofs.YtfakibajipmkjaaGreat

/-! ### TbB -/
namespace Go.Proofs.YtfakibajipmkjaaGreat
open Go.RowKit
open Tb (D T)

theorem within_tb (n a b : Int) (w : World) : Calls Tryz.prog 81 #[.int .i64 n, .int .i64 a, .int .i64 b] w fun e w' => e = .returned (.bool (Tb.wi n a b)) ∧ w = w' := by
  unfold Tb.wi
  by_cases h : a ≤ n
  all_goals
    go_enter Tryz.func81, Tryz.ntmps81
    go_wp2
    go_ret
    exact ⟨by simp [*] <;> omega, rfl⟩
theorem in_tb (n a b : Int) (w : World) : Calls Tryz.prog 86 #[.int .i64 n, .int .i64 a, .int .i64 b] w fun e w' => e = .returned (.bool (Tb.wi n a b)) ∧ w = w' := by
  unfold Tb.wi
  by_cases h : a ≤ n
  all_goals
    go_enter Tryz.func86, Tryz.ntmps86
    go_wp2
    go_ret
    exact ⟨by simp [*] <;> omega, rfl⟩

theorem asks_tb (d : D) (n : Int) (q : Nat) (w : World) (hq : w.cell? ⟨q, 0, none⟩ = some (.int .i64 n)) :
    Calls Tryz.prog 147 #[dV d, .pointer (some ⟨q, 0, none⟩)] w fun e w' => e = .returned (.bool (decide (d.li = n))) ∧ Below w.heap.size w w' := by
  unfold dV
  have hq2 := fun o => Lib.cell?_alloc_some o hq
  go_enter Tryz.func147, Tryz.ntmps147
  go_wp2
  go_ret
  exact ⟨rfl, (Below.refl _ _).alloc (Nat.le_refl _) _⟩

theorem index_tb (A : Option Addr) (c : Nat) (l : List D) (n : Int) (q : Nat) (w : World) (hs : SeesD w w.heap.size A l) (hlen : l.length ≤ c) (hc : c ≤ maxLen) (hq : w.cell? ⟨q, 0, none⟩ = some (.int .i64 n)) :
    Calls Tryz.prog 159 #[.slice A l.length c, .func (.func 147) #[] #[.pointer (some ⟨q, 0, none⟩)]] w fun e w' =>
      ∃ r : Int, e = .returned (.int .i64 r) ∧ decide (0 ≤ r) = Tb.has l l.length n ∧ Below w.heap.size w w' := by
  have hqlt := World.block_lt_of_cell? w _ hq
  unfold maxLen at hc
  have h0 := Lib.hid (Tb.has_zero l n)
  have hS := Lib.hid (Tb.has_succ l)
  go_enter Tryz.func159, Tryz.ntmps159
  go_wp2
  go_loopw [8] (fun i wr => ∃ k : Nat, k ≤ l.length ∧ i = .int .i64 k ∧ Hid (Tb.has l k n = false) ∧ Below w.heap.size w wr) (fun i _ => l.length - (intOf i).toNat)
  case atStart => exact ⟨0, by omega, rfl, h0, Below.refl _ _⟩
  case round =>
    obtain ⟨k, hk, rfl, hn, hb⟩ := hrel
    by_cases hlt : k < l.length
    · obtain ⟨b, off, rfl, hbb, hd⟩ := hs.below hb (by omega)
      obtain ⟨e0, e1, e2, e3⟩ := hd k hlt
      have q1 : decide ((k : Int) < (l.length : Nat)) = true := by simp; omega
      have hq2 := (hb.cell (p := ⟨q, 0, none⟩) hqlt).trans hq
      have hcall := Lib.hid (asks_tb (l.getD k default) n q wr hq2)
      unfold dV at hcall
      generalize hdd : l.getD k default = d at *
      have hdd := Lib.hid hdd
      cases hdn : decide (d.li = n)
      all_goals
        rw [hdn] at hcall
        go_wp2_with fail
        refine hcall.out.mono ?_
        rintro e w1 ⟨rfl, hb1⟩
        have hb2 := hb.trans (hb1.mono hb.size)
        clear hcall
        go_wp2
      · go_roundw
        case rel => exact ⟨k + 1, by omega, by go_num, Lib.hid (by rw [hS.out k hlt, hn.out, hdd.out]; exact hdn), hb2⟩
        case measure => simp [intOf]; omega
      · go_ret
        refine ⟨k, rfl, ?_, hb2⟩
        have hT : Tb.has l (k + 1) n = true := by rw [hS.out k hlt, hdd.out, hdn]; simp
        rw [Tb.has_more hlt hT]
        simp
    · obtain rfl : k = l.length := by omega
      have q1 : decide ((l.length : Int) < (l.length : Nat)) = false := by simp
      go_wp2
      go_ret
      exact ⟨-1, rfl, by rw [hn.out]; decide, hb⟩
end Go.Proofs.YtfakibajipmkjaaGreat

/-! ### TbC -/
namespace Go.Proofs.YtfakibajipmkjaaGreat
open Go.RowKit
open Tb (D T)

theorem contains_tb (A : Option Addr) (c : Nat) (l : List D) (n : Int) (q : Nat) (w : World) (hs : SeesD w w.heap.size A l) (hlen : l.length ≤ c) (hc : c ≤ maxLen) (hq : w.cell? ⟨q, 0, none⟩ = some (.int .i64 n)) :
    Calls Tryz.prog 146 #[.slice A l.length c, .func (.func 147) #[] #[.pointer (some ⟨q, 0, none⟩)]] w fun e w' =>
      e = .returned (.bool (Tb.has l l.length n)) ∧ Below w.heap.size w w' := by
  have hI := Lib.hid (index_tb A c l n q w hs hlen hc hq)
  generalize Tb.has l l.length n = h at *
  go_enter Tryz.func146, Tryz.ntmps146
  go_wp2_with fail
  refine hI.out.mono ?_
  rintro e w1 ⟨r, rfl, hr, hb⟩
  have hr2 : decide (r ≥ 0) = h := by rw [← hr]
  clear hI
  go_wp2
  go_ret
  exact ⟨by simp [← hr], hb⟩
theorem listens_tb (A : Option Addr) (c : Nat) (l : List D) (n : Int) (w : World) (hs : SeesD w w.heap.size A l) (hlen : l.length ≤ c) (hc : c ≤ maxLen) :
    Calls Tryz.prog 129 #[.slice A l.length c, .int .i64 n] w fun e w' => e = .returned (.bool (Tb.has l l.length n)) ∧ Below w.heap.size w w' := by
  have hb0 := (Below.refl w.heap.size w).alloc (Nat.le_refl _) (.cells #[.int .i64 n] 3)
  have hI := contains_tb A c l n w.heap.size (w.alloc (.cells #[.int .i64 n] 3)) ((hs.below hb0).more (by simp)) hlen hc (by rw [World.cell?_alloc_at _ _ _ _ rfl]; rfl)
  have hI := Lib.hid hI
  have hmf : ∀ (fn : Fn) (first cap : Array Value) (w : World), (Instr.makeFunc fn first cap).run Tryz.prog w = .ok (.func fn first cap) w := fun _ _ _ _ => rfl
  generalize Tb.has l l.length n = h at *
  go_enter Tryz.func129, Tryz.ntmps129
  go_wp2_with fail
  refine hI.out.mono ?_
  rintro e w1 ⟨rfl, hb⟩
  have hb1 := hb0.trans (hb.mono (by simp))
  clear hI
  go_wp2
  go_ret
  exact ⟨rfl, hb1⟩
end Go.Proofs.YtfakibajipmkjaaGreat
