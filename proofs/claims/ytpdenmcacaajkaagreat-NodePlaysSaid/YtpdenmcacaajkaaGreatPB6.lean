/- Texts TbA, TbB, TbC, TbD, TbE in one. For what each says in front of its theorems. -/
import Derived.Deep.RegionHeld3
import Derived.Deep.RegionLaw
import Derived.RegionTactic
import Derived.BigQuiet
import Derived.Test.YtpdenmcacaajkaaGreatPB1
import Derived.Test.YtpdenmcacaajkaaGreatPB5
/-! ### TbA -/
namespace Go.Proofs.YtpdenmcacaajkaaGreat
open Go.RowKit
open Tb (D T)

/-- The cells of a node. -/
def dc (d : D) : List Value := [.bool d.sy, .bool d.inf, .int .i64 d.li, .int .i64 d.sz]
def dV (d : D) : Value := .agg #[.bool d.sy, .bool d.inf, .int .i64 d.li, .int .i64 d.sz]
def tabV (t : T) (v : Value) : Value := .agg #[v, .int .i64 t.dr, .int .i64 t.wi, .int .i64 t.lm]
/-- What lies at a node's four places. -/
structure AtD (w : World) (b off : Nat) (d : D) : Prop where
  c0 : w.cell? ⟨b, off, none⟩ = some (.bool d.sy)
  c1 : w.cell? ⟨b, off + 1, none⟩ = some (.bool d.inf)
  c2 : w.cell? ⟨b, off + 2, none⟩ = some (.int .i64 d.li)
  c3 : w.cell? ⟨b, off + 3, none⟩ = some (.int .i64 d.sz)
def SeesD (w : World) (B : Nat) (A : Option Addr) (l : List D) : Prop :=
  0 < l.length → ∃ b off, A = some ⟨b, off, none⟩ ∧ b < B ∧ ∀ k, k < l.length → AtD w b (off + k * 4) (l.getD k default)
/-- A slice of these nodes, nil told. -/
structure SeesT (w : World) (B : Nat) (v : Value) (l : List D) : Prop where
  at_ : ∃ A c, v = .slice A l.length c ∧ l.length ≤ c ∧ c ≤ maxLen ∧ SeesD w B A l ∧ (A = none → l.length = 0 ∧ c = 0)
def OwnsD (w : World) (base : Nat) (v : Value) (l : List D) : Prop := w.ownsRow base 60 4 v l.length (l.flatMap dc)

section
variable {w w' : World} {B B' Bs : Nat} {A : Option Addr} {v : Value} {l m : List D}
theorem AtD.keep {b off : Nat} {d : D} (h : AtD w b off d) (hk : ∀ o, w'.cell? ⟨b, o, none⟩ = w.cell? ⟨b, o, none⟩) : AtD w' b off d :=
  ⟨(hk _).trans h.c0, (hk _).trans h.c1, (hk _).trans h.c2, (hk _).trans h.c3⟩
theorem SeesD.keep (h : SeesD w B A l) (hk : ∀ b o, b < B → w'.cell? ⟨b, o, none⟩ = w.cell? ⟨b, o, none⟩) : SeesD w' B A l := fun h0 => by
  obtain ⟨b, off, e, hb, hc⟩ := h h0
  exact ⟨b, off, e, hb, fun k hlt => (hc k hlt).keep fun o => hk b o hb⟩
theorem SeesD.below (h : SeesD w B A l) (hb : Below B w w') : SeesD w' B A l := h.keep fun b o hp => hb.cell (p := ⟨b, o, none⟩) hp
theorem SeesD.more (h : SeesD w B A l) (hB : B ≤ B') : SeesD w B' A l := fun h0 => by
  obtain ⟨b, off, e, hb, hc⟩ := h h0
  exact ⟨b, off, e, by omega, hc⟩
theorem SeesD.drew (h : SeesD w B A l) : SeesD w.drew B A l := h.keep fun _ _ _ => rfl
theorem SeesD.nil : SeesD w B A [] := fun h => absurd h (by simp)
theorem SeesT.below (h : SeesT w B v l) (hb : Below B w w') : SeesT w' B v l := ⟨by
  obtain ⟨A, c, rfl, h1, h2, h3, h4⟩ := h.at_
  exact ⟨A, c, rfl, h1, h2, h3.below hb, h4⟩⟩
theorem SeesT.more (h : SeesT w B v l) (hB : B ≤ B') : SeesT w B' v l := ⟨by
  obtain ⟨A, c, rfl, h1, h2, h3, h4⟩ := h.at_
  exact ⟨A, c, rfl, h1, h2, h3.more hB, h4⟩⟩
theorem SeesT.drew (h : SeesT w B v l) : SeesT w.drew B v l := ⟨by
  obtain ⟨A, c, rfl, h1, h2, h3, h4⟩ := h.at_
  exact ⟨A, c, rfl, h1, h2, h3.drew, h4⟩⟩
theorem SeesT.nil : SeesT w B (.slice none 0 0) [] := ⟨none, 0, rfl, Nat.le_refl _, Nat.zero_le _, SeesD.nil, fun _ => ⟨rfl, rfl⟩⟩
theorem dcs_getD (l : List D) (k : Nat) (hk : k < l.length) (j : Nat) (hj : j < 4) : (l.flatMap dc)[k * 4 + j]? = (dc (l.getD k default))[j]? := by
  induction l generalizing k with
  | nil => simp at hk
  | cons d l ih =>
    have h4 : (dc d).length = 4 := rfl
    rw [List.flatMap_cons]
    cases k with
    | zero => rw [List.getElem?_append_left (by omega)]; simp
    | succ k =>
      rw [List.getElem?_append_right (by omega), h4, show (k + 1) * 4 + j - 4 = k * 4 + j by omega, ih k (by simpa using hk)]
      simp
theorem dcs_length (l : List D) : (l.flatMap dc).length = l.length * 4 := by
  induction l with
  | nil => rfl
  | cons d l ih => rw [List.flatMap_cons, List.length_append, ih]; simp [dc]; omega
theorem OwnsD.atD {g n c : Nat} (h : OwnsD w Bs (.slice (some ⟨g, 0, none⟩) n c) l) (hn : n = l.length) (k : Nat) (hk : k < l.length) : AtD w g (k * 4) (l.getD k default) := by
  subst hn
  have e := fun j (hj : j < 4) => (World.ownsRow.cellAt h (k * 4 + j) (by omega)).trans (dcs_getD l k hk j hj)
  exact ⟨by have := e 0 (by omega); rw [Nat.add_zero] at this; exact this, e 1 (by omega), e 2 (by omega), e 3 (by omega)⟩
theorem OwnsD.form (h : OwnsD w Bs v l) : (v = .slice none 0 0 ∧ l.length = 0) ∨ ∃ g c, v = .slice (some ⟨g, 0, none⟩) l.length c ∧ Bs ≤ g ∧ g < w.heap.size ∧ l.length ≤ c ∧ c ≤ maxLen := by
  rcases h.2 with h1 | ⟨g, cap, cur, h1, h2, h3, h4, h5, -⟩
  · exact .inl h1
  · exact .inr ⟨g, cap, h1, h2, (Array.getElem?_eq_some_iff.1 h3).1, h4, h5⟩
theorem OwnsD.sees (h : OwnsD w Bs v l) : SeesT w w.heap.size v l := ⟨by
  rcases h.form with ⟨rfl, h0⟩ | ⟨g, c, rfl, h1, h2, h3, h4⟩
  · exact ⟨none, 0, by rw [h0], by omega, by unfold maxLen; omega, fun h => absurd h (by omega), fun _ => ⟨h0, rfl⟩⟩
  · exact ⟨_, c, rfl, h3, h4, fun _ => ⟨g, 0, rfl, h2, fun k hk => by rw [Nat.zero_add]; exact OwnsD.atD h rfl k hk⟩, fun h => by cases h⟩⟩
theorem OwnsD.drew (h : OwnsD w Bs v l) : OwnsD w.drew Bs v l := h
theorem OwnsD.nil : OwnsD w Bs (.slice none 0 0) [] := World.ownsRow_nil _ _ _ _
theorem OwnsD.base (h : OwnsD w Bs v l) (hB : B ≤ Bs) : OwnsD w B v l := by
  refine ⟨h.1, ?_⟩
  rcases h.2 with h | ⟨g, cap, cur, h1, h2, h3⟩
  · exact .inl h
  · exact .inr ⟨g, cap, cur, h1, by omega, h3⟩
theorem OwnsD.below (h : OwnsD w Bs v l) (hb : Below B' w w') (hB : w.heap.size ≤ B') : OwnsD w' Bs v l :=
  World.ownsRow.kept (row := none) h ⟨hb.os, hb.tape, hb.output, hb.size, fun k hk _ => hb.block k (by omega)⟩ (by
    rcases h.2 with ⟨rfl, _⟩ | ⟨g, cap, cur, rfl, _⟩
    · exact .inl rfl
    · exact .inr (by simp [Value.ownBlock]))
theorem OwnsD.alloc (h : OwnsD w Bs v l) (o : Obj) : OwnsD (w.alloc o) Bs v l := World.ownsRow.alloc h o
end
end Go.Proofs.YtpdenmcacaajkaaGreat

/-! ### TbB -/
namespace Go.Proofs.YtpdenmcacaajkaaGreat
open Go.RowKit
open Tb (D T)

theorem within_tb (n a b : Int) (w : World) : Calls Tryz.prog 56 #[.int .i64 n, .int .i64 a, .int .i64 b] w fun e w' => e = .returned (.bool (Tb.wi n a b)) ∧ w = w' := by
  unfold Tb.wi
  by_cases h : a ≤ n
  all_goals
    go_enter Tryz.func56, Tryz.ntmps56
    go_wp2
    go_ret
    exact ⟨by simp [*] <;> omega, rfl⟩
theorem in_tb (n a b : Int) (w : World) : Calls Tryz.prog 61 #[.int .i64 n, .int .i64 a, .int .i64 b] w fun e w' => e = .returned (.bool (Tb.wi n a b)) ∧ w = w' := by
  unfold Tb.wi
  by_cases h : a ≤ n
  all_goals
    go_enter Tryz.func61, Tryz.ntmps61
    go_wp2
    go_ret
    exact ⟨by simp [*] <;> omega, rfl⟩

theorem asks_tb (d : D) (n : Int) (q : Nat) (w : World) (hq : w.cell? ⟨q, 0, none⟩ = some (.int .i64 n)) :
    Calls Tryz.prog 141 #[dV d, .pointer (some ⟨q, 0, none⟩)] w fun e w' => e = .returned (.bool (decide (d.li = n))) ∧ Below w.heap.size w w' := by
  unfold dV
  have hq2 := fun o => Lib.cell?_alloc_some o hq
  go_enter Tryz.func141, Tryz.ntmps141
  go_wp2
  go_ret
  exact ⟨rfl, (Below.refl _ _).alloc (Nat.le_refl _) _⟩

theorem index_tb (A : Option Addr) (c : Nat) (l : List D) (n : Int) (q : Nat) (w : World) (hs : SeesD w w.heap.size A l) (hlen : l.length ≤ c) (hc : c ≤ maxLen) (hq : w.cell? ⟨q, 0, none⟩ = some (.int .i64 n)) :
    Calls Tryz.prog 162 #[.slice A l.length c, .func (.func 141) #[] #[.pointer (some ⟨q, 0, none⟩)]] w fun e w' =>
      ∃ r : Int, e = .returned (.int .i64 r) ∧ decide (0 ≤ r) = Tb.has l l.length n ∧ Below w.heap.size w w' := by
  have hqlt := World.block_lt_of_cell? w _ hq
  unfold maxLen at hc
  have h0 := Lib.hid (Tb.has_zero l n)
  have hS := Lib.hid (Tb.has_succ l)
  go_enter Tryz.func162, Tryz.ntmps162
  go_wp2
  go_loopw [8] (fun i wr => ∃ k : Nat, k ≤ l.length ∧ i = .int .i64 k ∧ Hid (Tb.has l k n = false) ∧ Below w.heap.size w wr) (fun i _ => l.length - (intOf i).toNat)
  case atStart => exact ⟨0, by omega, rfl, h0, Below.refl _ _⟩
  case round =>
    obtain ⟨k, hk, rfl, hn, hb⟩ := hrel
    by_cases hlt : k < l.length
    · obtain ⟨b, off, rfl, hbb, hd⟩ := hs.below hb (by omega)
      obtain ⟨e0, e1, e2, e3⟩ := hd k hlt
      have q1 : decide ((k : Int) < (l.length : Nat)) = true := by simp; omega
      have hq2 := (hb.cell (p := ⟨q, 0, none⟩) hqlt).trans hq
      have hcall := Lib.hid (asks_tb (l.getD k default) n q wr hq2)
      unfold dV at hcall
      generalize hdd : l.getD k default = d at *
      have hdd := Lib.hid hdd
      cases hdn : decide (d.li = n)
      all_goals
        rw [hdn] at hcall
        go_wp2_with fail
        refine hcall.out.mono ?_
        rintro e w1 ⟨rfl, hb1⟩
        have hb2 := hb.trans (hb1.mono hb.size)
        clear hcall
        go_wp2
      · go_roundw
        case rel => exact ⟨k + 1, by omega, by go_num, Lib.hid (by rw [hS.out k hlt, hn.out, hdd.out]; exact hdn), hb2⟩
        case measure => simp [intOf]; omega
      · go_ret
        refine ⟨k, rfl, ?_, hb2⟩
        have hT : Tb.has l (k + 1) n = true := by rw [hS.out k hlt, hdd.out, hdn]; simp
        rw [Tb.has_more hlt hT]
        simp
    · obtain rfl : k = l.length := by omega
      have q1 : decide ((l.length : Int) < (l.length : Nat)) = false := by simp
      go_wp2
      go_ret
      exact ⟨-1, rfl, by rw [hn.out]; decide, hb⟩
end Go.Proofs.YtpdenmcacaajkaaGreat

/-! ### TbC -/
namespace Go.Proofs.YtpdenmcacaajkaaGreat
open Go.RowKit
open Tb (D T)

theorem contains_tb (A : Option Addr) (c : Nat) (l : List D) (n : Int) (q : Nat) (w : World) (hs : SeesD w w.heap.size A l) (hlen : l.length ≤ c) (hc : c ≤ maxLen) (hq : w.cell? ⟨q, 0, none⟩ = some (.int .i64 n)) :
    Calls Tryz.prog 140 #[.slice A l.length c, .func (.func 141) #[] #[.pointer (some ⟨q, 0, none⟩)]] w fun e w' =>
      e = .returned (.bool (Tb.has l l.length n)) ∧ Below w.heap.size w w' := by
  have hI := Lib.hid (index_tb A c l n q w hs hlen hc hq)
  generalize Tb.has l l.length n = h at *
  go_enter Tryz.func140, Tryz.ntmps140
  go_wp2_with fail
  refine hI.out.mono ?_
  rintro e w1 ⟨r, rfl, hr, hb⟩
  have hr2 : decide (r ≥ 0) = h := by rw [← hr]
  clear hI
  go_wp2
  go_ret
  exact ⟨by simp [← hr], hb⟩
theorem listens_tb (A : Option Addr) (c : Nat) (l : List D) (n : Int) (w : World) (hs : SeesD w w.heap.size A l) (hlen : l.length ≤ c) (hc : c ≤ maxLen) :
    Calls Tryz.prog 102 #[.slice A l.length c, .int .i64 n] w fun e w' => e = .returned (.bool (Tb.has l l.length n)) ∧ Below w.heap.size w w' := by
  have hb0 := (Below.refl w.heap.size w).alloc (Nat.le_refl _) (.cells #[.int .i64 n] 3)
  have hI := contains_tb A c l n w.heap.size (w.alloc (.cells #[.int .i64 n] 3)) ((hs.below hb0).more (by simp)) hlen hc (by rw [World.cell?_alloc_at _ _ _ _ rfl]; rfl)
  have hI := Lib.hid hI
  have hmf : ∀ (fn : Fn) (first cap : Array Value) (w : World), (Instr.makeFunc fn first cap).run Tryz.prog w = .ok (.func fn first cap) w := fun _ _ _ _ => rfl
  generalize Tb.has l l.length n = h at *
  go_enter Tryz.func102, Tryz.ntmps102
  go_wp2_with fail
  refine hI.out.mono ?_
  rintro e w1 ⟨rfl, hb⟩
  have hb1 := hb0.trans (hb.mono (by simp))
  clear hI
  go_wp2
  go_ret
  exact ⟨rfl, hb1⟩
end Go.Proofs.YtpdenmcacaajkaaGreat

/-! ### TbD -/
namespace Go.Proofs.YtpdenmcacaajkaaGreat
open Go.RowKit
open Tb (D T)

/-- A new block of four cells, and what reads it behind calls. -/
structure Box4 (w w0 : World) (x0 x1 x2 x3 : Value) : Prop where
  size : w0.heap.size = w.heap.size + 1
  below : Below w.heap.size w w0
  cell : ∀ W, Below w0.heap.size w0 W → w.heap.size < W.heap.size ∧ W.cell? ⟨w.heap.size, 0, none⟩ = some x0 ∧ W.cell? ⟨w.heap.size, 1, none⟩ = some x1 ∧ W.cell? ⟨w.heap.size, 2, none⟩ = some x2 ∧ W.cell? ⟨w.heap.size, 3, none⟩ = some x3
theorem bcelld {W w1 : World} {B : Nat} (hb : Below B W w1) : ∀ b o, b < B → w1.cell? ⟨b, o, none⟩ = W.cell? ⟨b, o, none⟩ := fun b o h => hb.cell (p := ⟨b, o, none⟩) h
theorem box4 (w : World) (x0 x1 x2 x3 : Value) (t : TypeId) : Box4 w (w.alloc (.cells #[x0, x1, x2, x3] t)) x0 x1 x2 x3 := by
  refine ⟨by simp, (Below.refl _ _).alloc (Nat.le_refl _) _, fun W hb => ?_⟩
  have hz := hb.size
  have hc := bcelld hb
  simp only [World.size_alloc] at hz
  refine ⟨by omega, ?_, ?_, ?_, ?_⟩ <;> (rw [hc _ _ (by simp), World.cell?_alloc_at _ _ _ _ rfl]; rfl)

set_option maxRecDepth 100000 in
set_option maxHeartbeats 2000000 in
theorem areNodes_tb (A : Option Addr) (c : Nat) (l : List D) (w : World) (hs : SeesD w w.heap.size A l) (hlen : l.length ≤ c) (hc : c ≤ maxLen) :
    Calls Tryz.prog 55 #[.slice A l.length c] w fun e w' => e = .returned (.bool (Tb.are l)) ∧ Below w.heap.size w w' := by
  have hin := fun n a b W => Lib.hid (within_tb n a b W)
  have hli := fun k (_ : k < l.length) n W (hb : Below w.heap.size w W) => listens_tb A c (l.take k) n W
  have hc' := hc
  unfold maxLen at hc
  unfold Tb.are
  cases hn : Tb.wi l.length 4 8
  · have h1 := Lib.hid hn
    clear hn
    go_enter Tryz.func55, Tryz.ntmps55
    go_wp2_with fail
    refine (hin _ _ _ _).out.mono ?_
    rintro e w1 ⟨rfl, rfl⟩
    rw [h1.out]
    go_wp2
    go_ret
    exact ⟨by simp, Below.refl _ _⟩
  · have h1 := Lib.hid hn
    have hn8 : l.length ≤ 8 := by have := (Tb.wi_iff _ _ _).1 hn; omega
    have hn4 : 4 ≤ l.length := by have := (Tb.wi_iff _ _ _).1 hn; omega
    clear hn
    go_enter Tryz.func55, Tryz.ntmps55
    go_wp2_with fail
    refine (hin _ _ _ _).out.mono ?_
    rintro e w1 ⟨rfl, rfl⟩
    rw [h1.out]
    go_wp2
    have hS := Lib.hid (Tb.oks_succ l)
    have hbad := fun k hk h => Lib.hid (Tb.oks_bad (l := l) (k := k) hk h)
    have hsy := Lib.hid (Tb.syn_le l)
    go_loopw [3, 12] (fun s i wr => ∃ k : Nat, k ≤ l.length ∧ i = .int .i64 k ∧ s = .int .i64 (Tb.syn l k) ∧ Hid (Tb.oks l k = true) ∧ Below w.heap.size w wr) (fun _ i _ => l.length - (intOf i).toNat)
    case atStart => exact ⟨0, by omega, rfl, rfl, rfl, Below.refl _ _⟩
    case round =>
      obtain ⟨k, hk, rfl, rfl, hok, hb⟩ := hrel
      have hsk := hsy.out k
      by_cases hlt : k < l.length
      · obtain ⟨b, off, rfl, hbb, hd⟩ := hs.below hb (by omega)
        obtain ⟨e0, e1, e2, e3⟩ := hd k hlt
        have q1 : decide ((k : Int) < (l.length : Nat)) = true := by simp; omega
        have hL := hli k hlt (l.getD k default).li
        have htl : (l.take k).length = k := by rw [List.length_take]; omega
        have hhas := Tb.has_take l k (by omega) (l.getD k default).li
        rw [htl] at hL hhas
        have hokk : Tb.ok l k = (Tb.wi (l.getD k default).li (2 * l.length) 200 && Tb.wi (l.getD k default).sz 1 8 && !Tb.has l k (l.getD k default).li) := rfl
        rw [hhas] at hL
        have hsyn0 : Tb.syn l (k + 1) = Tb.syn l k + (if (l.getD k default).sy then 1 else 0) := rfl
        generalize hdd0 : l.getD k default = d at *
        have hdd := Lib.hid hdd0
        have hsyn := Lib.hid hsyn0
        clear hhas hdd0 hsyn0
        generalize Tb.has l k d.li = h at *
        have hbox := Lib.hid (box4 wr (.bool d.sy) (.bool d.inf) (.int .i64 d.li) (.int .i64 d.sz) 60)
        have hb0 := hb.trans (hbox.out.below.mono hb.size)
        have hm2 : IntKind.i64.wrap (2 * (l.length : Int)) = 2 * l.length := IntWalk.i64_in _ (by omega)
        have hq : ∀ n a b t, Tb.wi n a b = t → ∀ W, Hid (Calls Tryz.prog 56 #[.int .i64 n, .int .i64 a, .int .i64 b] W fun e w' => e = .returned (.bool t) ∧ w' = W) := by
          rintro n a b t rfl W
          exact (hin n a b W).out.mono fun e w' h => ⟨h.1, h.2.symm⟩
        cases ha : Tb.wi d.li (2 * l.length) 200
        · have hA := hq _ _ _ _ ha
          have hfin := hbad k hlt (by rw [hokk, ha]; rfl)
          go_wp2_with fail
          generalize wr.alloc (.cells #[.bool d.sy, .bool d.inf, .int .i64 d.li, .int .i64 d.sz] 60) = w0 at *
          obtain ⟨hz, c0, c1, c2, c3⟩ := hbox.out.cell w0 (Below.refl _ _)
          clear hs hd hL hli hbad hS hsy hbox e0 e1 e2 e3 ha hq hin
          go_quiet (first | (go_at_call 56; refine Calls.quiet_of_same (hA _).out))
          go_wp2
          go_ret
          exact ⟨by rw [hfin.out]; simp, below_drewN hb0 _⟩
        · cases hz : Tb.wi d.sz 1 8
          · have hA := hq _ _ _ _ ha
            have hZ := hq _ _ _ _ hz
            have hfin := hbad k hlt (by rw [hokk, ha, hz]; rfl)
            go_wp2_with fail
            generalize wr.alloc (.cells #[.bool d.sy, .bool d.inf, .int .i64 d.li, .int .i64 d.sz] 60) = w0 at *
            obtain ⟨hz, c0, c1, c2, c3⟩ := hbox.out.cell w0 (Below.refl _ _)
            clear hs hd hL hli hbad hS hsy hbox e0 e1 e2 e3 ha hq hin
            go_quiet (first | (go_at_call 56; first | with_reducible refine Calls.quiet_of_same (hA _).out | refine Calls.quiet_of_same (hZ _).out))
            go_wp2
            go_ret
            exact ⟨by rw [hfin.out]; simp, below_drewN hb0 _⟩
          · have hA := Lib.hid ha
            have hZ := Lib.hid hz
            have hokk2 := Lib.hid (show Tb.ok l k = !h by rw [hokk, ha, hz]; simp)
            clear ha hz hokk hq
            go_wp2_with fail
            clear e0 e1 e2 e3
            generalize wr.alloc (.cells #[.bool d.sy, .bool d.inf, .int .i64 d.li, .int .i64 d.sz] 60) = w0 at *
            have K := Lib.hid (show ∀ W, Below w0.heap.size w0 W → W.cell? ⟨wr.heap.size, 2, none⟩ = some (.int .i64 d.li) ∧ W.cell? ⟨wr.heap.size, 3, none⟩ = some (.int .i64 d.sz) from fun W h => (hbox.out.cell W h).2.2.2)
            have hb00 := Below.refl w0.heap.size w0
            have hL2 : ∀ W, Below w.heap.size w W → Hid (Calls Tryz.prog 102 #[.slice (some ⟨b, off, none⟩) k c, .int .i64 d.li] W fun e w' => e = .returned (.bool h) ∧ Below W.heap.size W w') := fun W hbw => hL W hbw (SeesD.more (fun h0 => by
              obtain ⟨b', off', hA', hb', hc'⟩ := (hs.below hbw) (by omega)
              refine ⟨b', off', hA', hb', fun j hj => ?_⟩
              have := hc' j (by rw [htl] at hj; omega)
              rw [htl] at hj
              have e : (l.take k).getD j default = l.getD j default := by simp [List.getD_eq_getElem?_getD, hj]
              rw [e]; exact this) hbw.size) (by omega) hc'
            clear hL hli hs hd
            have q2 : (0 : Int) ≤ (k : Nat) := by omega
            have q3 : ((k : Nat) : Int) ≤ (c : Nat) := by omega
            have q4 : IntKind.i64.wrap (k : Nat) = k := IntWalk.i64_in _ (by omega)
            cases h
            all_goals
              go_region_held3 (fun W => W.cell? ⟨wr.heap.size, 2, none⟩ = some (.int .i64 d.li) ∧ W.cell? ⟨wr.heap.size, 3, none⟩ = some (.int .i64 d.sz))
                ((refine K.out _ ?_; repeat' (first | exact hb3 | exact hb00 | (with_reducible refine Below.drew ?_))))
                (first
                  | ((go_at_call 56; refine (hin _ _ _ _).out.mono ?_; rintro e w3 ⟨rfl, rfl⟩; (first | rw [hA.out] | rw [hZ.out])))
                  | ((go_at_call 102; refine (hL2 _ ?_).out.mono ?_); (repeat' (first | exact hb0 | (with_reducible refine Below.drew ?_))); rintro e w3 ⟨rfl, hb⟩; have hb3 := hb00.drew.trans (hb.mono hb00.size))
                  | fail)
            · have hokS := hS.out k
              rw [hok.out, hokk2.out] at hokS
              have hokS := Lib.hid hokS
              have c0 := (hbox.out.cell _ hb3).2.1
              go_wp2_with fail
              all_goals
                refine ⟨⟨k + 1, by omega, by go_num, ?_, Lib.hid (by rw [hokS.out]; rfl), hb0.trans (hb3.mono hb0.size)⟩, by simp [intOf]; omega⟩
                rw [hsyn.out]
                simp [*]
            · have hfin := hbad k hlt (by rw [hokk2.out]; rfl)
              go_wp2
              go_ret
              exact ⟨by rw [hfin.out]; simp, hb0.trans (hb3.mono hb0.size)⟩
      · obtain rfl : k = l.length := by omega
        have q1 : decide ((l.length : Int) < (l.length : Nat)) = false := by simp
        have hle := hsy.out l.length
        go_wp2
        go_ret
        exact ⟨by rw [hok.out]; simp; omega, hb⟩
end Go.Proofs.YtpdenmcacaajkaaGreat

/-! ### TbE -/
namespace Go.Proofs.YtpdenmcacaajkaaGreat
open Go.RowKit
open Tb (D T)

/-- The bounds of an int. -/
def i64 (x : Int) : Prop := -9223372036854775808 ≤ x ∧ x ≤ 9223372036854775807

set_option maxHeartbeats 2000000 in
theorem is_tb (t : T) (v : Value) (w : World) (B : Nat) (hB : B ≤ w.heap.size) (hv : SeesT w B v t.ns) :
    Calls Tryz.prog 17 #[tabV t v] w fun e w' => e = .returned (.bool t.is) ∧ Below w.heap.size w w' := by
  obtain ⟨A, c, rfl, h1, h2, h3, -⟩ := hv.at_
  obtain ⟨ns, dr, wi, lm⟩ := t
  simp only at h1 h3
  have hn := fun W (hb : Below w.heap.size w W) => areNodes_tb A c ns W (((h3.more hB).below hb).more hb.size) h1 h2
  have hin := fun n a b W => Lib.hid (within_tb n a b W)
  have hres : T.is ⟨ns, dr, wi, lm⟩ = (Tb.are ns && (Tb.wi dr 0 1000 && (Tb.wi wi (4 * dr + 2) 1000 && Tb.wi lm wi 1000))) := rfl
  rw [hres]
  clear hres hv h3
  unfold maxLen at h2
  unfold tabV
  simp only
  generalize Tb.are ns = q at *
  have hn := fun W hb => Lib.hid (hn W hb)
  generalize ns.length = n at *
  have hq : ∀ n a b t, Tb.wi n a b = t → ∀ W, Hid (Calls Tryz.prog 56 #[.int .i64 n, .int .i64 a, .int .i64 b] W fun e w' => e = .returned (.bool t) ∧ W = w') := by
    rintro n a b t rfl W
    exact hin n a b W
  have hbox := Lib.hid (box4 w (.slice A n c) (.int .i64 dr) (.int .i64 wi) (.int .i64 lm) 29)
  cases q
  · go_enter Tryz.func17, Tryz.ntmps17
    go_wp2_with fail
    refine (hn _ hbox.out.below).out.mono ?_
    rintro e w1 ⟨rfl, hb⟩
    go_wp2
    go_ret
    exact ⟨rfl, hbox.out.below.trans (hb.mono hbox.out.below.size)⟩
  cases q1 : Tb.wi dr 0 1000
  · have f1 := hq _ _ _ _ q1
    clear q1 hq hin
    go_enter Tryz.func17, Tryz.ntmps17
    go_wp2_with fail
    refine (hn _ hbox.out.below).out.mono ?_
    rintro e w1 ⟨rfl, hb⟩
    obtain ⟨-, c0, c1, c2, c3⟩ := hbox.out.cell w1 hb
    go_wp2_with fail
    refine (f1 _).out.mono ?_
    rintro e w2 ⟨rfl, rfl⟩
    go_wp2
    go_ret
    exact ⟨rfl, hbox.out.below.trans (hb.mono hbox.out.below.size)⟩
  have wr0 : IntKind.i64.wrap (4 * dr) = 4 * dr := IntWalk.i64_in _ (by have := (Tb.wi_iff _ _ _).1 q1; omega)
  have wr1 : IntKind.i64.wrap (4 * dr + 2) = 4 * dr + 2 := IntWalk.i64_in _ (by have := (Tb.wi_iff _ _ _).1 q1; omega)
  cases q2 : Tb.wi wi (4 * dr + 2) 1000
  · have f1 := hq _ _ _ _ q1
    have f2 := hq _ _ _ _ q2
    clear q1 q2 hq hin
    go_enter Tryz.func17, Tryz.ntmps17
    go_wp2_with fail
    refine (hn _ hbox.out.below).out.mono ?_
    rintro e w1 ⟨rfl, hb⟩
    obtain ⟨-, c0, c1, c2, c3⟩ := hbox.out.cell w1 hb
    go_wp2_with fail
    refine (f1 _).out.mono ?_
    rintro e w2 ⟨rfl, rfl⟩
    go_wp2_with fail
    refine (f2 _).out.mono ?_
    rintro e w2 ⟨rfl, rfl⟩
    go_wp2
    go_ret
    exact ⟨rfl, hbox.out.below.trans (hb.mono hbox.out.below.size)⟩
  · have f1 := hq _ _ _ _ q1
    have f2 := hq _ _ _ _ q2
    clear q1 q2 hq
    generalize hr : Tb.wi lm wi 1000 = r at *
    have f3 := fun W => hin lm wi 1000 W
    rw [hr] at f3
    clear hr hin
    go_enter Tryz.func17, Tryz.ntmps17
    go_wp2_with fail
    refine (hn _ hbox.out.below).out.mono ?_
    rintro e w1 ⟨rfl, hb⟩
    obtain ⟨-, c0, c1, c2, c3⟩ := hbox.out.cell w1 hb
    go_wp2_with fail
    refine (f1 _).out.mono ?_
    rintro e w2 ⟨rfl, rfl⟩
    go_wp2_with fail
    refine (f2 _).out.mono ?_
    rintro e w2 ⟨rfl, rfl⟩
    go_wp2_with fail
    refine (f3 _).out.mono ?_
    rintro e w2 ⟨rfl, rfl⟩
    go_wp2
    go_ret
    exact ⟨rfl, hbox.out.below.trans (hb.mono hbox.out.below.size)⟩
end Go.Proofs.YtpdenmcacaajkaaGreat
