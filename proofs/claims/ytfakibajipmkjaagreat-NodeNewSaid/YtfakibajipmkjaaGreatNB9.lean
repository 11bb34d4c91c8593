/- Texts Mem, BlkA, Blk, TbJ, TbK, TbL, Ints in one. For what each says in front of its theorems. -/
import Derived.Lib.SmallJoins
import Derived.Deep.CutBlock
import Derived.BigRegion
import Derived.Laws.AppendOwnNone
import Derived.SizedLaws
import Derived.ProofKit
import Derived.OpenShut
import Derived.ShutString
import Derived.ChangeOld
import Derived.Deep.Slices
import Derived.Deep.Fields
import Derived.Deep.AppendLies
import Derived.Maps.Range
import Derived.Deep.RegionHeld3
import Derived.Deep.RegionLaw
import Derived.RegionTactic
import Derived.Test.YtfakibajipmkjaaGreatNB8
/-! ### Mem -/
namespace Go.Proofs.YtfakibajipmkjaaGreat
open Go.RowKit

/-- A block that is known whole. -/
def Blk (W : World) (g : Nat) (cs : Array Value) (t : TypeId) : Prop := W.heap[g]? = some (.cells cs t (0, 0))
section
variable {W W' : World} {g : Nat} {cs : Array Value} {t : TypeId}
theorem Blk.lt (h : Blk W g cs t) : g < W.heap.size := (Array.getElem?_eq_some_iff.1 h).1
theorem Blk.cell (h : Blk W g cs t) (i : Nat) {x : Value} (hx : cs[i]? = some x) : W.cell? ⟨g, i, none⟩ = some x := by
  rw [← hx]; simp [World.cell?, show W.heap[g]? = _ from h]
theorem Blk.frozen (h : Blk W g cs t) (i : Nat) : W.frozen? ⟨g, i, none⟩ = false := by simp [World.frozen?, show W.heap[g]? = _ from h]
theorem Blk.new (W : World) (g : Nat) (hg : g = W.heap.size) (cs : Array Value) (t : TypeId) : Blk (W.alloc (.cells cs t)) g cs t := by
  subst hg; exact heap_alloc_new W _
theorem Blk.below (h : Blk W g cs t) {B : Nat} (hb : Below B W W') (hB : g < B) : Blk W' g cs t := (hb.block g hB).trans h
theorem Blk.alloc (h : Blk W g cs t) (o : Obj) : Blk (W.alloc o) g cs t := (Below.heap_alloc W o g h.lt).trans h
theorem Blk.drew (h : Blk W g cs t) : Blk W.drew g cs t := h
theorem Blk.drewN (h : Blk W g cs t) (n : Nat) : Blk (W.drewN n) g cs t := h.below (below_drewN (Below.refl (g + 1) W) n) (Nat.lt_succ_self _)
theorem Blk.set (h : Blk W g cs t) (i : Nat) (x : Value) : Blk (W.setCell ⟨g, i, none⟩ x) g (cs.setIfInBounds i x) t := Joins.block_setCell h x
theorem Blk.eq {cs' : Array Value} (h : Blk W g cs t) (e : cs = cs') : Blk W g cs' t := e ▸ h
theorem Blk.other (h : Blk W g cs t) (p : Addr) (hp : g ≠ p.block) (x : Value) : Blk (W.setCell p x) g cs t := (Below.heap_setCell W p x g hp).trans h
end
/-- But for block g, all that there was is as it was. -/
def Only (g : Nat) (w w' : World) : Prop := w.grownBy w' (some g)
section
variable {g : Nat} {w w1 w2 : World}
theorem Only.refl (g : Nat) (w : World) : Only g w w := World.grownBy.refl _ _
theorem Only.set (h : Only g w w1) (i : Nat) (x : Value) : Only g w (w1.setCell ⟨g, i, none⟩ x) := ⟨h.os, h.tape, h.output, by simpa [World.setCell] using h.size, fun k hk hne => (Below.heap_setCell w1 ⟨g, i, none⟩ x k (fun e => hne (by rw [e]))).trans (h.block k hk hne)⟩
theorem Only.drew (h : Only g w w1) : Only g w w1.drew := ⟨h.os, h.tape, h.output, h.size, h.block⟩
theorem Only.trans (h : Only g w w1) (k : Only g w1 w2) : Only g w w2 := ⟨k.os.trans h.os, k.tape.trans h.tape, k.output.trans h.output, Nat.le_trans h.size k.size, fun i hi hne => (k.block i (Nat.lt_of_lt_of_le hi h.size) hne).trans (h.block i hi hne)⟩
theorem Only.below {B : Nat} (h : Only g w w1) (hB : B ≤ g) (hg : g < w.heap.size) : Below B w w1 := ⟨h.os, h.tape, h.output, h.size, fun i hi => h.block i (by omega) (by intro e; cases e; omega)⟩
theorem only_of_below (g : Nat) (h : Below w.heap.size w w1) : Only g w w1 := ⟨h.os, h.tape, h.output, h.size, fun i hi _ => h.block i hi⟩
theorem Blk.only {g' : Nat} {cs : Array Value} {t : TypeId} (h : Blk w g' cs t) (k : Only g w w1) (hne : g' ≠ g) : Blk w1 g' cs t := (k.block g' h.lt (by intro e; cases e; exact hne rfl)).trans h
end
end Go.Proofs.YtfakibajipmkjaaGreat

/-! ### BlkA -/
namespace Go.Proofs.YtfakibajipmkjaaGreat
open Go.RowKit
open Tb (D T)

section
variable {W W' : World} {g : Nat} {cs : Array Value} {t : TypeId}
theorem Blk.ext (h : Blk W g cs t) {v v' : Value} (hx : Ext W W' v v') (hne : v.ownBlock ≠ some g) : Blk W' g cs t := (hx.grown.block g h.lt (fun e => hne e.symm)).trans h
end
theorem blk4 (X : World) (g : Nat) (a b c d a' b' c' d' : Value) (t : TypeId) (h : Blk X g #[a, b, c, d] t) : Blk ((((X.setCell ⟨g, 0, none⟩ a').setCell ⟨g, 1, none⟩ b').setCell ⟨g, 2, none⟩ c').setCell ⟨g, 3, none⟩ d') g #[a', b', c', d'] t := by
  have := (((h.set 0 a').set 1 b').set 2 c').set 3 d'
  simpa using this
theorem OwnsD.setOther {W : World} {B : Nat} {v : Value} {l : List D} (h : OwnsD W B v l) (p : Addr) (x : Value) (hp : v.ownBlock ≠ some p.block) : OwnsD (W.setCell p x) B v l :=
  World.ownsRow.kept (row := some p.block) h ⟨rfl, rfl, rfl, by simp [World.setCell], fun k _ hk => Below.heap_setCell W p x k (fun e => hk (by rw [e]))⟩ (.inr hp)
theorem OwnsD.lt {w : World} {B : Nat} {v : Value} {l : List D} (h : OwnsD w B v l) : ∀ j, v.ownBlock = some j → B ≤ j ∧ j < w.heap.size := World.ownsRow.lt h

def sliceLen : Value → Nat
  | .slice _ n _ => n
  | _ => 0
theorem and_one (a : Int) (h : 0 ≤ a ∧ a < 256) : bits BinOp.and IntKind.u8 a 1 = a % 2 := by
  have : ∀ x : Fin 256, bits BinOp.and IntKind.u8 (x.val : Int) 1 = (x.val : Int) % 2 := by decide +kernel
  have := this ⟨a.toNat, by omega⟩
  simp only [Int.toNat_of_nonneg h.1] at this
  exact this
theorem and_two (a : Int) (h : 0 ≤ a ∧ a < 256) : bits BinOp.and IntKind.u8 a 2 = a / 2 % 2 * 2 := by
  have : ∀ x : Fin 256, bits BinOp.and IntKind.u8 (x.val : Int) 2 = (x.val : Int) / 2 % 2 * 2 := by decide +kernel
  have := this ⟨a.toNat, by omega⟩
  simp only [Int.toNat_of_nonneg h.1] at this
  exact this

end Go.Proofs.YtfakibajipmkjaaGreat

/-! ### Blk -/

/-! ### TbJ -/
namespace Go.Proofs.YtfakibajipmkjaaGreat
open Go.RowKit
open Tb (D T)

def someD (i : Nat) : D := ⟨decide ((i : Int) < 4), ((i : Int) % 2 == 0), 20 + (i : Int), 1 + (i : Int) % 8⟩
def someL (n : Nat) : List D := (List.range n).map someD
def someT (n : Nat) : T := ⟨someL n, 1, 10, 20⟩
theorem someL_length (n : Nat) : (someL n).length = n := by simp [someL]
theorem someL_succ (n : Nat) : someL (n + 1) = someL n ++ [someD n] := by simp [someL, List.range_succ]

end Go.Proofs.YtfakibajipmkjaaGreat

/-! ### TbK -/
namespace Go.Proofs.YtfakibajipmkjaaGreat
open Go.RowKit
open Tb (D T)

theorem someT_is : ∀ n, 4 ≤ n → n ≤ 8 → (someT n).is = true := by
  intro n h4 h8
  have : n = 4 ∨ n = 5 ∨ n = 6 ∨ n = 7 ∨ n = 8 := by omega
  rcases this with rfl | rfl | rfl | rfl | rfl <;> decide +kernel
theorem known_len : (someT 4).bytes.length = 27 := by decide +kernel
theorem known_head : (someT 4).bytes.take 4 = [77, 84, 82, 78] := by decide +kernel
theorem text_mtrn : textL [77, 84, 82, 78] = { data := #[77, 84, 82, 78] } := by decide +kernel
/-- What is seen of a list's first part. -/
theorem OwnsL.first {w : World} {B : Nat} {g n c : Nat} {l : List Int} (h : OwnsL w B (.slice (some ⟨g, 0, none⟩) n c) l) (m : Nat) (hm : m ≤ l.length) : SeesL w w.heap.size (.slice (some ⟨g, 0, none⟩) m c) (l.take m) := by
  obtain ⟨A, c', hv, h1, h2, h3, h4⟩ := h.sees.at_
  simp only [Value.slice.injEq] at hv
  obtain ⟨rfl, rfl, rfl⟩ := hv
  have hl : (l.take m).length = m := by rw [List.length_take]; omega
  refine ⟨_, c, by rw [hl], by omega, h2, ?_, fun h => by cases h⟩
  rw [hl]
  exact (h3.less hm).alike fun k hk => by unfold bv; simp [List.getD_eq_getElem?_getD, hk]

end Go.Proofs.YtfakibajipmkjaaGreat

/-! ### TbL -/
namespace Go.Proofs.YtfakibajipmkjaaGreat
open Go.RowKit
open Tb (D T)

def csV (r s m : Int) : Value := .agg #[.int .i64 r, .int .i64 s, .int .i64 m]
/-- The next slot, and round. -/
def nxS (n s : Int) : Int := if s + 1 < n then s + 1 else 0
def nxR (n r s : Int) : Int := if s + 1 < n then r else if r < 65535 then r + 1 else 0

theorem mask16 (a : Int) : bits BinOp.and IntKind.i64 a 65535 = (((a % 65536).toNat : Nat) : Int) := by
  show IntKind.i64.wrap ((BitVec.ofInt 64 a &&& BitVec.ofInt 64 65535).toNat : Int) = _
  rw [BitVec.toNat_and, show (BitVec.ofInt 64 65535).toNat = 2 ^ 16 - 1 by decide, Nat.and_two_pow_sub_one_eq_mod, BitVec.toNat_ofInt, IntKind.wrap_i64]
  omega

set_option maxHeartbeats 4000000 in
theorem next_tb (A : Option Addr) (n c : Nat) (dr wi lm r s m : Int) (w : World) (hn : 1 ≤ n ∧ n ≤ 8) (hs : 0 ≤ s ∧ s < n) (hr : 0 ≤ r ∧ r ≤ 65535) :
    Calls Tryz.prog 116 #[.agg #[.slice A n c, .int .i64 dr, .int .i64 wi, .int .i64 lm], csV r s m] w fun e w' => e = .returned (csV (nxR n r s) (nxS n s) m) ∧ Below w.heap.size w w' := by
  unfold csV nxR nxS
  have hcase : s + 1 < n ∨ (¬ s + 1 < n ∧ r < 65535) ∨ (¬ s + 1 < n ∧ ¬ r < 65535) := by omega
  rcases hcase with c1 | ⟨c1, c2⟩ | ⟨c1, c2⟩
  · rw [if_pos c1, if_pos c1]
    have q1 : s < (n : Int) - 1 := by omega
    go_enter Tryz.func116, Tryz.ntmps116
    go_wp2
    refine bodyPost_ret (v := .agg #[.int .i64 r, .int .i64 (s + 1), .int .i64 m]) ?_ rfl ⟨rfl, ?_⟩
    · rw [results_cell rfl]
      go_simp
    · (repeat' (first | (with_reducible exact Below.refl _ _) | (with_reducible refine Below.setCell ?_ ?_ _) | (with_reducible refine Below.alloc ?_ ?_ _) | exact Nat.le_refl _ | (simp; done) | (simp; omega)))
  · rw [if_neg c1, if_neg c1, if_pos c2]
    have q1 : ¬ s < (n : Int) - 1 := by omega
    go_enter Tryz.func116, Tryz.ntmps116
    go_wp2
    refine bodyPost_ret (v := .agg #[.int .i64 (r + 1), .int .i64 0, .int .i64 m]) ?_ rfl ⟨rfl, ?_⟩
    · rw [results_cell rfl]
      go_simp
    · (repeat' (first | (with_reducible exact Below.refl _ _) | (with_reducible refine Below.setCell ?_ ?_ _) | (with_reducible refine Below.alloc ?_ ?_ _) | exact Nat.le_refl _ | (simp; done) | (simp; omega)))
  · rw [if_neg c1, if_neg c1, if_neg c2]
    have q1 : ¬ s < (n : Int) - 1 := by omega
    go_enter Tryz.func116, Tryz.ntmps116
    go_wp2
    refine bodyPost_ret (v := .agg #[.int .i64 0, .int .i64 0, .int .i64 m]) ?_ rfl ⟨rfl, ?_⟩
    · rw [results_cell rfl]
      go_simp
    · (repeat' (first | (with_reducible exact Below.refl _ _) | (with_reducible refine Below.setCell ?_ ?_ _) | (with_reducible refine Below.alloc ?_ ?_ _) | exact Nat.le_refl _ | (simp; done) | (simp; omega)))
set_option maxHeartbeats 4000000 in
theorem next_rf (A : Option Addr) (n c : Nat) (dr wi lm r s m : Int) (w : World) (hn : 1 ≤ n ∧ n ≤ 8) (hs : 0 ≤ s ∧ s < n) (hr : 0 ≤ r ∧ r ≤ 65535) :
    Calls Tryz.prog 134 #[.agg #[.slice A n c, .int .i64 dr, .int .i64 wi, .int .i64 lm], csV r s m] w fun e w' => e = .returned (csV (nxR n r s) (nxS n s) m) ∧ Below w.heap.size w w' := by
  unfold csV nxR nxS
  by_cases c1 : s + 1 < n
  · rw [if_pos c1, if_pos c1]
    have q1 : ¬ (n : Int) ≤ s + 1 := by omega
    go_enter Tryz.func134, Tryz.ntmps134
    go_wp2
    refine bodyPost_ret (v := .agg #[.int .i64 r, .int .i64 (s + 1), .int .i64 m]) ?_ rfl ⟨rfl, ?_⟩
    · rw [results_cell rfl]
      go_simp
    · (repeat' (first | (with_reducible exact Below.refl _ _) | (with_reducible refine Below.setCell ?_ ?_ _) | (with_reducible refine Below.alloc ?_ ?_ _) | exact Nat.le_refl _ | (simp; done) | (simp; omega)))
  · rw [if_neg c1, if_neg c1]
    have q1 : (n : Int) ≤ s + 1 := by omega
    have hR : (if r < 65535 then r + 1 else 0) = bits BinOp.and IntKind.i64 (r + 1) 65535 := by rw [mask16]; split <;> omega
    rw [hR]
    clear hR
    go_enter Tryz.func134, Tryz.ntmps134
    go_wp2
    refine bodyPost_ret (v := .agg #[.int .i64 (bits BinOp.and IntKind.i64 (r + 1) 65535), .int .i64 0, .int .i64 m]) ?_ rfl ⟨rfl, ?_⟩
    · rw [results_cell rfl]
      go_simp
    · (repeat' (first | (with_reducible exact Below.refl _ _) | (with_reducible refine Below.setCell ?_ ?_ _) | (with_reducible refine Below.alloc ?_ ?_ _) | exact Nat.le_refl _ | (simp; done) | (simp; omega)))
end Go.Proofs.YtfakibajipmkjaaGreat

/-! ### Ints -/
namespace Go.Proofs.YtfakibajipmkjaaGreat
open Go.ChangeShapes Go.WideShapes Go.ChangeAt Go.RowKit







theorem infoInt : (Tryz.prog.info? 3).map (fun i => (i.zero, i.size, i.bytes)) = some (some (.int .i64 0), 1, 8) := by kernel_rfl

/-- The cells of a list of bytes. -/
def iv (l : List Int) (k : Nat) : Value := .int .i64 (l.getD k 0)

/-- What the call made: a slice of these bytes. -/
def OwnsI (w : World) (base : Nat) (v : Value) (l : List Int) : Prop := Owns w base 3 v l.length (iv l)
/-- A slice of these bytes, nil told. -/
structure SeesI (w : World) (B : Nat) (v : Value) (l : List Int) : Prop where
  at_ : ∃ A c, v = .slice A l.length c ∧ l.length ≤ c ∧ c ≤ maxLen ∧ Sees w B A l.length (iv l) ∧ (A = none → l.length = 0 ∧ c = 0)

section
variable {w w' : World} {B B' Bs : Nat} {v : Value} {l m : List Int}
theorem OwnsI.sees (h : OwnsI w Bs v l) : SeesI w w.heap.size v l := ⟨by
  obtain ⟨A, c, rfl, h1, h2, h3, h4⟩ := Owns.formN h
  exact ⟨A, c, rfl, h1, h2, h3, h4⟩⟩
theorem SeesI.below (h : SeesI w B v l) (hb : Below B w w') : SeesI w' B v l := ⟨by
  obtain ⟨A, c, rfl, h1, h2, h3, h4⟩ := h.at_
  exact ⟨A, c, rfl, h1, h2, h3.below hb, h4⟩⟩
theorem SeesI.more (h : SeesI w B v l) (hB : B ≤ B') : SeesI w B' v l := ⟨by
  obtain ⟨A, c, rfl, h1, h2, h3, h4⟩ := h.at_
  exact ⟨A, c, rfl, h1, h2, h3.more hB, h4⟩⟩
theorem SeesI.drew (h : SeesI w B v l) : SeesI w.drew B v l := ⟨by
  obtain ⟨A, c, rfl, h1, h2, h3, h4⟩ := h.at_
  exact ⟨A, c, rfl, h1, h2, h3, h4⟩⟩
theorem OwnsI.drew (h : OwnsI w Bs v l) : OwnsI w.drew Bs v l := h
theorem SeesI.nil : SeesI w B (.slice none 0 0) [] := ⟨none, 0, rfl, Nat.le_refl _, Nat.zero_le _, Sees.none_, fun _ => ⟨rfl, rfl⟩⟩
theorem OwnsI.nil : OwnsI w Bs (.slice none 0 0) [] := World.ownsRow_nil _ _ _ _
theorem OwnsI.base (h : OwnsI w Bs v l) (hB : B ≤ Bs) : OwnsI w B v l := by
  refine ⟨h.1, ?_⟩
  rcases h.2 with h | ⟨g, cap, cur, h1, h2, h3⟩
  · exact .inl h
  · exact .inr ⟨g, cap, cur, h1, by omega, h3⟩
theorem OwnsI.below (h : OwnsI w Bs v l) (hb : Below B' w w') (hB : w.heap.size ≤ B') : OwnsI w' Bs v l := Owns.belowN h hb hB
theorem OwnsI.alloc (h : OwnsI w Bs v l) (o : Obj) : OwnsI (w.alloc o) Bs v l := World.ownsRow.alloc h o
theorem iv_append (l m : List Int) (k : Nat) : (if k < l.length then iv l k else iv m (k - l.length)) = iv (l ++ m) k := by
  unfold iv
  simp only [List.getD_eq_getElem?_getD, List.getElem?_append]
  split <;> rfl
end


/-- A new block of bytes, written out. -/
theorem sees_liti (w : World) (e : TypeId) (cs : Array Value) (l : List Int) (hl : cs = (l.map (Value.int .i64)).toArray) (B : Nat) (hB : w.heap.size < B) (hm : l.length ≤ maxLen) (g n c : Nat) (hg : g = w.heap.size) (hn : n = l.length) (hc : c = l.length) :
    SeesI (w.alloc (.cells cs e)) B (.slice (some ⟨g, 0, none⟩) n c) l := ⟨some ⟨g, 0, none⟩, c, by rw [hn], by omega, by omega, fun _ => ⟨g, 0, rfl, by omega, fun k hk => by
    rw [Nat.zero_add, World.cell?_alloc_at _ _ _ _ hg, hl]
    unfold iv
    simp [List.getD_eq_getElem?_getD, hk]⟩, fun h => by cases h⟩
theorem owns_liti (w : World) (e : TypeId) (he : e = 3) (cs : Array Value) (l : List Int) (hl : cs = (l.map (Value.int .i64)).toArray) (B : Nat) (hB : B ≤ w.heap.size) (hm : l.length ≤ maxLen) (g n c : Nat) (hg : g = w.heap.size) (hn : n = l.length) (hc : c = l.length) :
    OwnsI (w.alloc (.cells cs e)) B (.slice (some ⟨g, 0, none⟩) n c) l := by
  subst he hn hc hg
  have := World.ownsRow_lit (base := B) (e := 3) (size := 1) w cs l.length hB hm (by rw [hl]; simp)
  unfold OwnsI Owns
  have e : (List.range l.length).map (iv l) = cs.toList := by
    rw [hl]
    apply List.ext_getElem?
    intro i
    by_cases hi : i < l.length
    · simp [hi, iv, List.getD_eq_getElem?_getD]
    · rw [List.getElem?_eq_none (by simp; omega), List.getElem?_eq_none (by simp; omega)]
  rw [e]
  exact this


section
variable {w w1 w2 : World} {v v1 v2 : Value} {B B' : Nat}
/-- What was seen in another block is seen still. -/
theorem Ext.seesI {l : List Int} {u : Value} (h : Ext w w1 v v1) (hs : SeesI w B u l) (hne : u.ownBlock = none ∨ v.ownBlock ≠ u.ownBlock) : SeesI w1 B u l := ⟨by
  obtain ⟨A, c, rfl, h1, h2, h3, h4⟩ := hs.at_
  refine ⟨A, c, rfl, h1, h2, fun h0 => ?_, h4⟩
  obtain ⟨b, off, rfl, hb, hc⟩ := h3 h0
  refine ⟨b, off, rfl, hb, fun k hk => h.cell (hc k hk) ?_⟩
  rcases hne with hn | hn
  · simp [Value.ownBlock] at hn
  · simpa [Value.ownBlock] using hn⟩
end


theorem OwnsI.lt {w : World} {B : Nat} {v : Value} {l : List Int} (h : OwnsI w B v l) : ∀ j, v.ownBlock = some j → B ≤ j ∧ j < w.heap.size := World.ownsRow.lt h


section
variable {P : Program} (w : World) {ops : Array Oper} {rest : List Oper} {o : Oper} {a : Act} {K : Act → World → Prop} {Q : Exit → Act → World → Prop}


theorem SeesI.src {w : World} {B : Nat} {u : Value} {m : List Int} (h : SeesI w B u m) : Src w u 1 m.length ((List.range m.length).map (iv m)) := by
  obtain ⟨A, c, rfl, -, -, h3, h4⟩ := h.at_
  cases A with
  | none =>
    obtain ⟨h5, h6⟩ := h4 rfl
    subst h6
    exact .inl ⟨by rw [h5], h5, by rw [h5]; rfl⟩
  | some ad =>
    refine .inr ⟨ad, c, rfl, by simp, fun j x hj => ?_, fun x hx => ?_⟩
    · rw [List.getElem?_map] at hj
      by_cases hjm : j < m.length
      · rw [List.getElem?_range hjm] at hj
        simp at hj
        subst hj
        obtain ⟨b, off, he, _, hc⟩ := h3 (by omega)
        simp only [Option.some.injEq] at he
        subst he
        have := hc j hjm
        by_cases h1 : j = 0
        · subst h1; simpa [Addr.add] using this
        · simpa [Addr.add, h1] using this
      · rw [List.getElem?_eq_none (by simpa using hjm)] at hj
        cases hj
    · obtain ⟨k, hk, rfl⟩ := List.mem_map.1 hx
      rfl
theorem OwnsI.joined {w : World} {B : Nat} {v : Value} {l m : List Int} (h : w.ownsRow B 3 1 v (l.length + m.length) ((List.range l.length).map (iv l) ++ (List.range m.length).map (iv m))) : OwnsI w B v (l ++ m) := by
  unfold OwnsI Owns
  rw [List.length_append]
  have e : (List.range (l.length + m.length)).map (iv (l ++ m)) = (List.range l.length).map (iv l) ++ (List.range m.length).map (iv m) := by
    rw [← range_join]
    exact List.map_congr_left fun k _ => (iv_append l m k).symm
  rw [e]
  exact h

theorem wp_pushI (s x : Operand) (t : TypeId) (ho : o.op = .call { callee := .builtin .append, args := #[s, x], argTypes := #[t, t] })
    (B : Nat) (hinf : (P.info? 3).map (fun i => (i.zero, i.size, i.bytes)) = some (some (.int .i64 0), 1, 8)) (ht : P.underlying t = some (.slice 3))
    (v : Value) (l : List Int) (hown : OwnsI w B v l) (hs : a.eval s = v) (Bs : Nat) (u : Value) (m : List Int) (hx : a.eval x = u) (hsee : SeesI w Bs u m)
    (hB : B ≤ w.heap.size) (hroom : (l.length + m.length) * 8 ≤ 140737488355328)
    (h : ∀ v' w', OwnsI w' B v' (l ++ m) → Ext w w' v v' → K (a.put o.dst v') w') : o.wp P a w K Q :=
  wp_push w s x t ho B 3 (.int .i64 0) 1 8 hinf rfl (by omega) ht v l.length _ hown hs u m.length _ hx hsee.src hB (by unfold maxLen; omega) (by omega) fun v' w' h1 h2 => h v' w' (OwnsI.joined h1) h2
/-- 'append' of bytes, in a plain region. -/
theorem wpList_pushI (hgd : o.guard = none) (s x : Operand) (t : TypeId) (ho : o.op = .call { callee := .builtin .append, args := #[s, x], argTypes := #[t, t] })
    (B : Nat) (hinf : (P.info? 3).map (fun i => (i.zero, i.size, i.bytes)) = some (some (.int .i64 0), 1, 8)) (ht : P.underlying t = some (.slice 3))
    (v : Value) (l : List Int) (hown : OwnsI w B v l) (hs : a.eval s = v) (Bs : Nat) (u : Value) (m : List Int) (hx : a.eval x = u) (hsee : SeesI w Bs u m)
    (hB : B ≤ w.heap.size) (hroom : (l.length + m.length) * 8 ≤ 140737488355328)
    (h : ∀ v' w', OwnsI w' B v' (l ++ m) → Ext w w' v v' → wpList P ops Q rest (a.put o.dst v') w') : wpList P ops Q (o :: rest) a w :=
  wpList_plain hgd fun _ hK => wp_pushI w s x t ho B hinf ht v l hown hs Bs u m hx hsee hB hroom fun v' w' h1 h2 => hK _ _ (h v' w' h1 h2)
/-- As one step of a region that draws its order. -/
theorem step_pushI {E : Prop} (hgd : o.guard = none) (s x : Operand) (t : TypeId) (ho : o.op = .call { callee := .builtin .append, args := #[s, x], argTypes := #[t, t] })
    (B : Nat) (hinf : (P.info? 3).map (fun i => (i.zero, i.size, i.bytes)) = some (some (.int .i64 0), 1, 8)) (ht : P.underlying t = some (.slice 3))
    (v : Value) (l : List Int) (hown : OwnsI w B v l) (hs : a.eval s = v) (Bs : Nat) (u : Value) (m : List Int) (hx : a.eval x = u) (hsee : SeesI w Bs u m)
    (hB : B ≤ w.heap.size) (hroom : (l.length + m.length) * 8 ≤ 140737488355328)
    (h : ∀ v' w', OwnsI w' B v' (l ++ m) → Ext w w' v v' → K (a.put o.dst v') w') : if Region.wanted o (yielded ops a.tmps) = true then Oper.wp P o a w K Q else E := by
  have hw : Region.wanted o (yielded ops a.tmps) = true := by simp [Region.wanted, hgd]
  rw [if_pos hw]
  exact wp_pushI w s x t ho B hinf ht v l hown hs Bs u m hx hsee hB hroom h
end

section
variable {P : Program} (w : World) {ops : Array Oper} {rest : List Oper} {o : Oper} {a : Act} {K : Act → World → Prop} {Q : Exit → Act → World → Prop}
/-- 'append' behind a list without room, whose block may bear a mark: the list lies in a new block. -/
theorem wp_growI (s x : Operand) (t : TypeId) (ho : o.op = .call { callee := .builtin .append, args := #[s, x], argTypes := #[t, t] })
    (B : Nat) (hinf : (P.info? 3).map (fun i => (i.zero, i.size, i.bytes)) = some (some (.int .i64 0), 1, 8)) (ht : P.underlying t = some (.slice 3))
    (b n c : Nat) (l : List Int) (Bv : Nat) (hn : n = l.length) (hv : SeesI w Bv (.slice (some ⟨b, 0, none⟩) n c) l) (hs : a.eval s = .slice (some ⟨b, 0, none⟩) n c) (Bs : Nat) (u : Value) (m : List Int) (hx : a.eval x = u) (hsee : SeesI w Bs u m)
    (hm : 0 < m.length) (hcap : c < n + m.length) (hB : B ≤ w.heap.size) (hroom : (l.length + m.length) * 8 ≤ 140737488355328)
    (h : ∀ v' w', OwnsI w' B v' (l ++ m) → Below w.heap.size w w' → K (a.put o.dst v') w') : o.wp P a w K Q := by
  subst hn
  obtain ⟨i, hi, hz0, hz1, hz2⟩ := info_parts hinf
  rcases hsee.src with ⟨-, h0, -⟩ | ⟨ad, c', rfl, hl, hnw, h1⟩
  · omega
  rcases hv.src with ⟨h0, -, -⟩ | ⟨ad2, c2, h0, hl2, hn2, -⟩
  · cases h0
  simp only [Value.slice.injEq, Option.some.injEq] at h0
  obtain ⟨rfl, -, rfl⟩ := h0
  have hr := run_append_grow (P := P) w t o.type 3 i (.int .i64 0) ht hi hz0 ⟨b, 0, none⟩ l.length c ((List.range l.length).map (iv l)) (by rw [hz1]; exact hl2) hn2 ad m.length c' ((List.range m.length).map (iv m)) (by rw [hz1]; exact hl) hnw hcap (by omega) (by rw [hz2]; exact growslice_fits hcap (by omega))
  unfold Oper.wp execOp
  simp only [ho, resolve, invoke, builtin, Sem.run_bind, Sem.run_pure, Result.andThen_ok, List.map_toArray, List.map_cons, List.map_nil, hs, hx, hr]
  refine h _ _ (OwnsI.joined ⟨by simp, .inr ⟨w.heap.size, _, _, rfl, hB, heap_alloc_new w.drew _, grownCap_ge _ _ _ _, grownCap_le_maxLen _ _ _ _ (by unfold maxLen; omega), ?_, ?_⟩⟩) ⟨rfl, rfl, rfl, by simp, fun k hk => Below.heap_alloc _ _ k hk⟩
  · have := grownCap_ge w (l.length + m.length) c 3
    simp only [Array.size_append, List.size_toArray, size_zeroCells, List.length_map, List.length_range, Value.cells]
    simp
    omega
  · simp only [Array.toList_append, List.append_assoc]
    rw [← List.append_assoc]
    exact List.take_left' (by simp)
theorem wpList_growI (hgd : o.guard = none) (s x : Operand) (t : TypeId) (ho : o.op = .call { callee := .builtin .append, args := #[s, x], argTypes := #[t, t] })
    (B : Nat) (hinf : (P.info? 3).map (fun i => (i.zero, i.size, i.bytes)) = some (some (.int .i64 0), 1, 8)) (ht : P.underlying t = some (.slice 3))
    (b n c : Nat) (l : List Int) (Bv : Nat) (hn : n = l.length) (hv : SeesI w Bv (.slice (some ⟨b, 0, none⟩) n c) l) (hs : a.eval s = .slice (some ⟨b, 0, none⟩) n c) (Bs : Nat) (u : Value) (m : List Int) (hx : a.eval x = u) (hsee : SeesI w Bs u m)
    (hm : 0 < m.length) (hcap : c < n + m.length) (hB : B ≤ w.heap.size) (hroom : (l.length + m.length) * 8 ≤ 140737488355328)
    (h : ∀ v' w', OwnsI w' B v' (l ++ m) → Below w.heap.size w w' → wpList P ops Q rest (a.put o.dst v') w') : wpList P ops Q (o :: rest) a w :=
  wpList_plain hgd fun _ hK => wp_growI w s x t ho B hinf ht b n c l Bv hn hv hs Bs u m hx hsee hm hcap hB hroom fun v' w' h1 h2 => hK _ _ (h v' w' h1 h2)
end

theorem SeesI.alloc {w : World} {B : Nat} {v : Value} {l : List Int} (h : SeesI w B v l) (o : Obj) : SeesI (w.alloc o) B v l := ⟨by
  obtain ⟨A, c, rfl, h1, h2, h3, h4⟩ := h.at_
  refine ⟨A, c, rfl, h1, h2, fun h0 => ?_, h4⟩
  obtain ⟨b, off, e, hb, hc⟩ := h3 h0
  exact ⟨b, off, e, hb, fun k hk => Lib.cell?_alloc_some o (hc k hk)⟩⟩
theorem owns_emptyi (w : World) (e : TypeId) (he : e = 3) (B g : Nat) (hB : B ≤ w.heap.size) (hg : g = w.heap.size) : OwnsI (w.alloc (.cells #[] e)) B (.slice (some ⟨g, 0, none⟩) 0 0) [] := by
  subst he hg
  exact World.ownsRow_made w #[] 0 hB (by unfold maxLen; omega) rfl

section
variable {W W' : World} {g : Nat} {cs : Array Value} {t : TypeId}
end


theorem OwnsI.cell {w : World} {B g n c : Nat} {l : List Int} (h : OwnsI w B (.slice (some ⟨g, 0, none⟩) n c) l) (hn : n = l.length) {i : Nat} (hi : i < l.length) : w.cell? ⟨g, i, none⟩ = some (.int .i64 (l.getD i 0)) := by
  subst hn
  exact Owns.cell h hi
theorem OwnsI.frozen {w : World} {B g n c : Nat} {l : List Int} (h : OwnsI w B (.slice (some ⟨g, 0, none⟩) n c) l) (hn : n = l.length) (i : Nat) : w.frozen? ⟨g, i, none⟩ = false := by
  subst hn
  exact Owns.frozen h i
theorem OwnsI.set {w : World} {B g n c : Nat} {l : List Int} (h : OwnsI w B (.slice (some ⟨g, 0, none⟩) n c) l) (hn : n = l.length) (i : Nat) (x : Int) (hi : i < l.length) : OwnsI (w.setCell ⟨g, i, none⟩ (.int .i64 x)) B (.slice (some ⟨g, 0, none⟩) n c) (l.set i x) := by
  subst hn
  have := Owns.set_ h i (.int .i64 x) (V' := iv (l.set i x)) (by simp [iv, List.getD_eq_getElem?_getD, hi]) (fun j _ hj => by simp [iv, List.getD_eq_getElem?_getD, List.getElem?_set_ne (Ne.symm hj)])
  unfold OwnsI
  rw [List.length_set]
  exact this


end Go.Proofs.YtfakibajipmkjaaGreat
