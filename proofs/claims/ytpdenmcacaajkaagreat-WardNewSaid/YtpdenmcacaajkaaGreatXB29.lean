/- Texts SrD, GdA, GdB, GdD in one. For what each says in front of its theorems. -/
import Derived.BigQuiet
import Derived.Test.YtpdenmcacaajkaaGreatXB7
import Derived.Test.YtpdenmcacaajkaaGreatXB28
/-! ### SrD -/
namespace Go.Proofs.YtpdenmcacaajkaaGreat
open Go.RowKit

/-- A channel. -/
structure Ch where
  bl : Bool
  lk : Bool
  v : Value
  fr : Int
def xcs (b N : Nat) (c d : Ch) : Array Value := #[.slice (some ⟨b, 0, none⟩) N N, .bool c.bl, .bool c.lk, c.v, .int .i64 c.fr, .bool d.bl, .bool d.lk, d.v, .int .i64 d.fr]
/-- A slot in memory. -/
structure XAt (W : World) (P : List Nat) (x b : Nat) (l : List (Value × Sd)) (c d : Ch) : Prop where
  blk : Blk W x (xcs b l.length c d) 214
  sd : SdAt W P b l
  mem : x ∈ P
  ne : x ≠ b
theorem XAt.below {W W' : World} {P : List Nat} {x b : Nat} {l : List (Value × Sd)} {c d : Ch} (h : XAt W P x b l c d) (k : Below W.heap.size W W') : XAt W' P x b l c d := ⟨h.blk.below k h.blk.lt, h.sd.below k, h.mem, h.ne⟩
theorem XAt.drew {W : World} {P : List Nat} {x b : Nat} {l : List (Value × Sd)} {c d : Ch} (h : XAt W P x b l c d) : XAt W.drew P x b l c d := h.below ((Below.refl _ _).drew)
theorem XAt.drewN {W : World} {P : List Nat} {x b : Nat} {l : List (Value × Sd)} {c d : Ch} (h : XAt W P x b l c d) (n : Nat) : XAt (W.drewN n) P x b l c d := h.below (below_drewN (Below.refl _ _) n)
/-- The slot's own cells turn. -/
theorem XAt.put {W : World} {P : List Nat} {x b : Nat} {l : List (Value × Sd)} {c d c' d' : Ch} (h : XAt W P x b l c d) (i : Nat) (u : Value) (e : (xcs b l.length c d).setIfInBounds i u = xcs b l.length c' d') : XAt (W.setCell ⟨x, i, none⟩ u) P x b l c' d' :=
  ⟨(h.blk.set i u).eq e, h.sd.kp ((Kw.refl P W).set ⟨x, i, none⟩ h.mem u) (Below.heap_setCell W ⟨x, i, none⟩ u b (fun e => h.ne e.symm)), h.mem, h.ne⟩
/-- A sender's cells turn. -/
theorem XAt.only {W W' : World} {P : List Nat} {x b : Nat} {l l' : List (Value × Sd)} {c d : Ch} (h : XAt W P x b l c d) (k : Only b W W') (hs : SdAt W' P b l') (hl : l'.length = l.length) : XAt W' P x b l' c d :=
  ⟨hl ▸ h.blk.only k h.ne, hs, h.mem, h.ne⟩
/-- Senders that a fault strikes. -/
def strikeL (f : Ft) (m : List Sd) : List Sd := if f.k = 4 then m else match m[f.n.toNat]? with
  | some s => m.set f.n.toNat (s.strike f)
  | none => m
theorem strikeL_length (f : Ft) (m : List Sd) : (strikeL f m).length = m.length := by
  unfold strikeL
  split
  · rfl
  · split <;> simp
/-- Is channel i blocked by it? -/
def blocks (f : Ft) (i : Nat) : Bool := decide (f.k = 4 ∧ f.n = i)
set_option maxRecDepth 100000 in
set_option maxHeartbeats 4000000 in
theorem strike_x (x b : Nat) (l : List (Value × Sd)) (c d : Ch) (dv : Value) (f : Ft) (P : List Nat) (w : World) (h : XAt w P x b l c d) (hm : f.may = true) (h7 : f.k ≠ 7) (hs : ∀ s ∈ l, wide s.2.at_) (hP : ∀ i ∈ P, i < w.heap.size) (hd : SeesL w w.heap.size dv f.d) (hy : bytesL f.d) (_hl : l.length ≤ 8) :
    Calls Tryz.prog 157 #[.pointer (some ⟨x, 0, none⟩), ftV f dv] w fun e w' => e = .returned (.tuple #[]) ∧ ∃ l' : List (Value × Sd), l'.map Prod.snd = strikeL f (l.map Prod.snd) ∧ XAt w' P x b l' { c with bl := c.bl || blocks f 0 } { d with bl := d.bl || blocks f 1 } ∧ Kw [x, b] w w' := by
  obtain ⟨fk, fn, fa, fd⟩ := f
  unfold Ft.may at hm
  rw [ftMay_iff] at hm
  simp only at hm h7 hd hy
  unfold ftV blocks strikeL
  simp only
  have hb0 := (Below.refl w.heap.size w).alloc (Nat.le_refl _) (.cells #[.int .i64 fk, .int .i64 fn, .int .i64 fa, dv] 206)
  have hX := Blk.new w _ rfl #[.int .i64 fk, .int .i64 fn, .int .i64 fa, dv] 206
  obtain ⟨Ad, cd, rfl, -⟩ := hd.at_
  have H := h.below hb0
  have kp0 := Kw.ofBelow [x, b] hb0
  have hz : (w.alloc (.cells #[.int .i64 fk, .int .i64 fn, .int .i64 fa, .slice Ad fd.length cd] 206)).heap.size = w.heap.size + 1 := by simp
  by_cases h4 : fk = 4
  · subst h4
    have hj : fn = 0 ∨ fn = 1 := by simp at hm; omega
    rcases hj with rfl | rfl
    · have x0 := hX.cell 0 (x := .int .i64 4) rfl
      have x1 := hX.cell 1 (x := .int .i64 0) rfl
      have y := H.blk.cell 1 (x := .bool c.bl) rfl
      have fz := H.blk.frozen 1
      have HH := Lib.hid ((H.put 1 (.bool true) (c' := { c with bl := true }) (d' := d) rfl).drew)
      have KK := Lib.hid ((kp0.set ⟨x, 1, none⟩ (by simp) (.bool true)).drew)
      clear hX h H hb0 hd kp0
      go_enter Tryz.func157, Tryz.ntmps157
      go_wp2_with fail
      go_region
      go_wp2
      exact bodyPost_end (results_none (by rfl) _ _ _) rfl ⟨rfl, l, by simp, by simpa using HH.out, KK.out⟩
    · have x0 := hX.cell 0 (x := .int .i64 4) rfl
      have x1 := hX.cell 1 (x := .int .i64 1) rfl
      have y := H.blk.cell 5 (x := .bool d.bl) rfl
      have fz := H.blk.frozen 5
      have HH := Lib.hid ((H.put 5 (.bool true) (c' := c) (d' := { d with bl := true }) rfl).drew)
      have KK := Lib.hid ((kp0.set ⟨x, 5, none⟩ (by simp) (.bool true)).drew)
      clear hX h H hb0 hd kp0
      go_enter Tryz.func157, Tryz.ntmps157
      go_wp2_with fail
      go_region
      go_wp2
      exact bodyPost_end (results_none (by rfl) _ _ _) rfl ⟨rfl, l, by simp, by simpa using HH.out, KK.out⟩
  · obtain ⟨j, rfl⟩ : ∃ j : Nat, fn = j := ⟨fn.toNat, by omega⟩
    simp only [Int.toNat_natCast]
    have q4 : (fk == 4) = false := by rw [beq_eq_false_iff_ne]; exact h4
    have q7 : (fk == 7) = false := by rw [beq_eq_false_iff_ne]; exact h7
    have x0 := hX.cell 0 (x := .int .i64 fk) rfl
    have x1 := hX.cell 1 (x := .int .i64 j) rfl
    have x2 := hX.cell 2 (x := .int .i64 fa) rfl
    have x3 := hX.cell 3 (x := .slice Ad fd.length cd) rfl
    have y0 := H.blk.cell 0 (x := .slice (some ⟨b, 0, none⟩) l.length l.length) rfl
    by_cases hj : j < l.length
    · have q1 : decide ((j : Int) < (l.length : Nat)) = true := by simp; omega
      obtain ⟨⟨v, s⟩, hk⟩ : ∃ y, l[j]? = some y := ⟨_, List.getElem?_eq_getElem hj⟩
      have hk2 : (l.map Prod.snd)[j]? = some s := by simp [hk]
      rw [hk2]
      have hwd := hs _ (List.mem_of_getElem? hk)
      have hsz : ∀ W, Below (w.alloc (.cells #[.int .i64 fk, .int .i64 j, .int .i64 fa, .slice Ad fd.length cd] 206)).heap.size (w.alloc (.cells #[.int .i64 fk, .int .i64 j, .int .i64 fa, .slice Ad fd.length cd] 206)) W → w.heap.size ≤ W.heap.size := fun W hW => by have := hW.size; omega
      have hd1 : ∀ W, Below (w.alloc (.cells #[.int .i64 fk, .int .i64 j, .int .i64 fa, .slice Ad fd.length cd] 206)).heap.size (w.alloc (.cells #[.int .i64 fk, .int .i64 j, .int .i64 fa, .slice Ad fd.length cd] 206)) W → SeesL W W.heap.size (.slice Ad fd.length cd) fd := fun W hW => (hd.below (hb0.trans (hW.mono (by omega)))).more (hsz W hW)
      have hC := fun W hW => Lib.hid (strike_sd b j l v (.slice Ad fd.length cd) s ⟨fk, j, fa, fd⟩ P W (H.sd.below hW) hk (by simp only; omega) hwd (fun i hi => by have := hP i hi; have := hsz W hW; omega) (hd1 W hW) hy (by simp only; omega))
      have HN : Hid (∀ W, Below (w.alloc (.cells #[.int .i64 fk, .int .i64 j, .int .i64 fa, .slice Ad fd.length cd] 206)).heap.size (w.alloc (.cells #[.int .i64 fk, .int .i64 j, .int .i64 fa, .slice Ad fd.length cd] 206)) W → XAt W P x b l c d ∧ Kw [x, b] w W ∧ W.cell? ⟨x, 0, none⟩ = some (.slice (some ⟨b, 0, none⟩) l.length l.length) ∧ W.cell? ⟨w.heap.size, 0, none⟩ = some (.int .i64 fk) ∧ W.cell? ⟨w.heap.size, 1, none⟩ = some (.int .i64 j) ∧ W.cell? ⟨w.heap.size, 2, none⟩ = some (.int .i64 fa) ∧ W.cell? ⟨w.heap.size, 3, none⟩ = some (.slice Ad fd.length cd)) := Lib.hid fun W hW => by
        have hX2 := hX.below hW hX.lt
        exact ⟨H.below hW, kp0.below hW, (H.below hW).blk.cell 0 rfl, hX2.cell 0 rfl, hX2.cell 1 rfl, hX2.cell 2 rfl, hX2.cell 3 rfl⟩
      unfold ftV at hC
      simp only at hC
      have hS := Lib.hid (show strikeL ⟨fk, j, fa, fd⟩ (l.map Prod.snd) = (l.map Prod.snd).set j (s.strike ⟨fk, j, fa, fd⟩) by unfold strikeL; simp only; rw [if_neg h4]; simp only [Int.toNat_natCast]; rw [hk2])
      have e4 : ∀ i : Nat, decide (fk = 4 ∧ (j : Int) = i) = false := fun i => by simp [h4]
      simp only [h4, false_and, decide_false, Bool.or_false, if_false]
      go_enter Tryz.func157, Tryz.ntmps157
      go_wp2_with fail
      generalize (w.alloc (.cells #[.int .i64 fk, .int .i64 j, .int .i64 fa, .slice Ad fd.length cd] 206)) = w0 at *
      have HB : Hid (∀ n, Below w0.heap.size w0 (w0.drewN n)) := Lib.hid fun n => below_drewN (Below.refl _ _) n
      clear h H hX hb0 kp0 hd hd1 hsz
      go_quiet (fail)
      clear x0 x1 x2 x3 y0
      have hB := HB.out nq
      clear HB
      generalize w0.drewN nq = w1 at *
      obtain ⟨-, -, y0, x0, x1, x2, x3⟩ := HN.out w1 hB
      go_wp2_with fail
      go_region_with (first
        | (go_at_call 175; refine (hC w1.drew hB.drew).out.mono ?_; rintro e w2 ⟨u, rfl, hs2, hO2⟩)
        | fail)
      all_goals
        obtain ⟨H2, K2, -⟩ := HN.out w1.drew hB.drew
        have H3 := Lib.hid (H2.only hO2 hs2 (by simp))
        have K3 := Lib.hid (K2.trans (Kw.only hO2 (by simp)))
        clear H2 K2 hs2 hO2 hC HN
        go_wp2
        exact bodyPost_end (results_none (by rfl) _ _ _) rfl ⟨rfl, _, by simp, H3.out, K3.out⟩
    · have q1 : decide ((j : Int) < (l.length : Nat)) = false := by simp; omega
      have hk2 : (l.map Prod.snd)[j]? = none := by simp; omega
      rw [hk2]
      simp only [h4, false_and, decide_false, Bool.or_false, if_false]
      have HN : Hid (∀ n, XAt ((w.alloc (.cells #[.int .i64 fk, .int .i64 j, .int .i64 fa, .slice Ad fd.length cd] 206)).drewN n) P x b l c d ∧ Kw [x, b] w ((w.alloc (.cells #[.int .i64 fk, .int .i64 j, .int .i64 fa, .slice Ad fd.length cd] 206)).drewN n)) := Lib.hid fun n => ⟨H.drewN n, kp0.below (below_drewN (Below.refl _ _) n)⟩
      go_enter Tryz.func157, Tryz.ntmps157
      go_wp2_with fail
      go_quiet (fail)
      all_goals
        go_wp2
        exact bodyPost_end (results_none (by rfl) _ _ _) rfl ⟨rfl, l, rfl, (HN.out _).1, (HN.out _).2⟩
end Go.Proofs.YtpdenmcacaajkaaGreat

/-! ### GdA -/
namespace Go.Proofs.YtpdenmcacaajkaaGreat
open Go.RowKit
open Clk (avg)

/-- What a guardian holds. -/
structure G where
  sy : Nat → Bool
  n : Nat
  wi : Int
  lm : Int
  l : List Int
  now : Int
  kn : Bool
  slot : Nat
  si : Nat
/-- Its cells. -/
def grd (s : G) : Array Value := #[.bool (s.sy 0), .bool (s.sy 1), .bool (s.sy 2), .bool (s.sy 3), .bool (s.sy 4), .bool (s.sy 5), .bool (s.sy 6), .bool (s.sy 7), .int .i64 (s.n : Nat), .int .i64 s.wi,
  .int .i64 s.lm, .int .i64 (s.l.getD 0 0), .int .i64 (s.l.getD 1 0), .int .i64 (s.l.getD 2 0), .int .i64 (s.l.getD 3 0), .int .i64 (s.l.length : Nat), .int .i64 s.now, .bool s.kn, .int .i64 (s.slot : Nat), .int .i64 (s.si : Nat)]
def GAt (W : World) (g : Nat) (s : G) : Prop := Blk W g (grd s) 152 ∧ s.l.length ≤ 4
theorem GAt.below {W W' : World} {g : Nat} {s : G} (h : GAt W g s) {B : Nat} (hb : Below B W W') (hg : g < B) : GAt W' g s := ⟨h.1.below hb hg, h.2⟩
theorem GAt.only {W W' : World} {g g' : Nat} {s : G} (h : GAt W g s) (hb : Only g' W W') (hg : g ≠ g') : GAt W' g s := ⟨h.1.only hb hg, h.2⟩
theorem GAt.lt {W : World} {g : Nat} {s : G} (h : GAt W g s) : g < W.heap.size := h.1.lt
/-- The clock's cells. -/
theorem GAt.clk {W : World} {g : Nat} {s : G} (h : GAt W g s) : W.cell? ⟨g, 10, none⟩ = some (.int .i64 s.lm) ∧ W.cell? ⟨g, 11, none⟩ = some (.int .i64 (s.l.getD 0 0)) ∧ W.cell? ⟨g, 12, none⟩ = some (.int .i64 (s.l.getD 1 0)) ∧ W.cell? ⟨g, 13, none⟩ = some (.int .i64 (s.l.getD 2 0)) ∧ W.cell? ⟨g, 14, none⟩ = some (.int .i64 (s.l.getD 3 0)) ∧ W.cell? ⟨g, 15, none⟩ = some (.int .i64 (s.l.length : Nat)) :=
  ⟨h.1.cell 10 rfl, h.1.cell 11 rfl, h.1.cell 12 rfl, h.1.cell 13 rfl, h.1.cell 14 rfl, h.1.cell 15 rfl⟩
theorem GAt.frz {W : World} {g : Nat} {s : G} (h : GAt W g s) : W.frozen? ⟨g, 10, none⟩ = false ∧ W.frozen? ⟨g, 11, none⟩ = false ∧ W.frozen? ⟨g, 12, none⟩ = false ∧ W.frozen? ⟨g, 13, none⟩ = false ∧ W.frozen? ⟨g, 14, none⟩ = false ∧ W.frozen? ⟨g, 15, none⟩ = false :=
  ⟨h.1.frozen 10, h.1.frozen 11, h.1.frozen 12, h.1.frozen 13, h.1.frozen 14, h.1.frozen 15⟩

theorem grd_full (s : G) (n : Int) (h4 : s.l.length = 4) : ((((((grd s).setIfInBounds 11 (.int .i64 (s.l.getD 1 0))).setIfInBounds 12 (.int .i64 (s.l.getD 2 0))).setIfInBounds 13 (.int .i64 (s.l.getD 3 0))).setIfInBounds 15 (.int .i64 3)).setIfInBounds 14 (.int .i64 n)).setIfInBounds 15 (.int .i64 4) = grd { s with l := s.l.drop 1 ++ [n] } := by
  obtain ⟨sy, nn, wi, lm, l, now, kn, slot, si⟩ := s
  simp only at h4 ⊢
  match l, h4 with
  | [p, q, r, s], _ => simp [grd]
theorem grd_more (s : G) (n : Int) (k : Nat) (hk : s.l.length = k) (h4 : k < 4) : ((grd s).setIfInBounds (11 + k) (.int .i64 n)).setIfInBounds 15 (.int .i64 ((k : Int) + 1)) = grd { s with l := s.l ++ [n] } := by
  obtain ⟨sy, nn, wi, lm, l, now, kn, slot, si⟩ := s
  simp only at hk ⊢
  match l, hk, h4 with
  | [], rfl, _ => simp [grd]
  | [p], rfl, _ => simp [grd]
  | [p, q], rfl, _ => simp [grd]
  | [p, q, r], rfl, _ => simp [grd]
theorem GAt.sees {W : World} {g : Nat} {s : G} (h : GAt W g s) : SeesI W W.heap.size (.slice (some ⟨g, 11, none⟩) s.l.length 4) s.l := by
  refine ⟨some ⟨g, 11, none⟩, 4, rfl, h.2, by simp [maxLen], fun _ => ⟨g, 11, rfl, h.1.lt, fun k hk => ?_⟩, fun h => by cases h⟩
  obtain ⟨-, c1, c2, c3, c4, -⟩ := h.clk
  have := h.2
  rcases (by omega : k = 0 ∨ k = 1 ∨ k = 2 ∨ k = 3) with rfl | rfl | rfl | rfl
  · exact c1
  · exact c2
  · exact c3
  · exact c4
end Go.Proofs.YtpdenmcacaajkaaGreat

/-! ### GdB -/
namespace Go.Proofs.YtpdenmcacaajkaaGreat
open Go.RowKit
open Clk (avg)

def time (x : Int) : Prop := -2305843009213693952 ≤ x ∧ x ≤ 2305843009213693952
set_option maxRecDepth 100000 in
set_option maxHeartbeats 1000000 in
theorem less_gd (a b : Int) (w : World) (ha : time a) (hb : time b) :
    Calls Tryz.prog 202 #[.int .i64 a, .int .i64 b] w fun e w' => e = .returned (.int .i64 (a - b)) ∧ w = w' := by
  unfold time at ha hb
  have z1 : IntKind.i64.wrap (a - b) = a - b := IntWalk.i64_in _ (by omega)
  by_cases h : a < b
  · have q1 : decide (b ≤ a) = false := decide_eq_false (by omega)
    have q2 : decide (a < b) = true := decide_eq_true (by omega)
    have q3 : decide (0 ≤ a - b) = false := decide_eq_false (by omega)
    go_enter Tryz.func202, Tryz.ntmps202
    go_wp2
    go_ret
    exact ⟨rfl, rfl⟩
  · have q1 : decide (b ≤ a) = true := decide_eq_true (by omega)
    have q2 : decide (a < b) = false := decide_eq_false (by omega)
    have q3 : decide (a - b < 0) = false := decide_eq_false (by omega)
    go_enter Tryz.func202, Tryz.ntmps202
    go_wp2
    go_ret
    exact ⟨rfl, rfl⟩
def nearB (a b m : Int) : Bool := decide (-m ≤ a - b ∧ a - b ≤ m)
theorem u64_sub (a b : Int) (ha : time a) (hb : time b) (h : a ≤ b) : IntKind.u64.wrap (IntKind.u64.wrap b - IntKind.u64.wrap a) = b - a := by
  unfold time at ha hb
  have e : ∀ x, IntKind.u64.wrap x = x % 18446744073709551616 := fun x => rfl
  rw [e, e, e]
  omega
set_option maxRecDepth 100000 in
set_option maxHeartbeats 1000000 in
theorem near_gd (a b m : Int) (w : World) (ha : time a) (hb : time b) (hm : 0 ≤ m ∧ m ≤ 2305843009213693952) :
    Calls Tryz.prog 189 #[.int .i64 a, .int .i64 b, .int .i64 m] w fun e w' => e = .returned (.bool (nearB a b m)) ∧ w = w' := by
  have h1 := Lib.hid (u64_sub a b ha hb)
  have h2 := Lib.hid (u64_sub b a hb ha)
  unfold time at ha hb
  go_enter Tryz.func189, Tryz.ntmps189
  go_wp2
  all_goals
    go_ret
    refine ⟨?_, rfl⟩
    refine ret_bool ?_
    first
      | (rw [h1.out (by omega)]; unfold nearB; congr 1; apply propext; omega)
      | (rw [h2.out (by omega)]; unfold nearB; congr 1; apply propext; omega)
      | (rw [show IntKind.u64.wrap 0 = 0 from rfl]; unfold nearB; congr 1; apply propext; omega)
/-- The slot goes on. -/
def G.on (s : G) : G := if s.slot + 1 = s.n then { s with slot := 0, now := s.now + termV s.lm s.l, l := [] } else { s with slot := s.slot + 1 }
theorem grd_slot (s : G) (k : Nat) : (grd s).setIfInBounds 18 (.int .i64 (k : Nat)) = grd { s with slot := k } := by simp [grd]
theorem grd_now (s : G) (k : Int) : (grd s).setIfInBounds 16 (.int .i64 k) = grd { s with now := k } := by simp [grd]
theorem grd_si (s : G) (k : Nat) : (grd s).setIfInBounds 19 (.int .i64 (k : Nat)) = grd { s with si := k } := by simp [grd]
theorem grd_kn (s : G) (k : Bool) : (grd s).setIfInBounds 17 (.bool k) = grd { s with kn := k } := by simp [grd]
theorem small.keep4 {l : List Int} (h : small l) {n : Int} (hn : -1099511627776 ≤ n ∧ n ≤ 1099511627776) : small (keep4 l n) := by
  unfold Go.Proofs.YtpdenmcacaajkaaGreat.keep4
  split
  · intro x hx
    rcases List.mem_append.1 hx with h1 | h1
    · exact h x (List.mem_of_mem_drop h1)
    · simp at h1; subst h1; exact hn
  · intro x hx
    rcases List.mem_append.1 hx with h1 | h1
    · exact h x h1
    · simp at h1; subst h1; exact hn
/-- A slot with bytes. -/
def G.heard (s : G) (at_ : Int) : G := (if s.sy s.slot then { s with si := 0, l := keep4 s.l (at_ - s.now) } else { s with si := 0 }).on
/-- A slot without. -/
def G.missed (s : G) : G := if s.si + 1 = 2 * s.n then { s with si := s.si + 1, kn := false, slot := 0 } else ({ s with si := s.si + 1 } : G).on
theorem grd_sy (s : G) (k : Nat) (hk : k < 8) : (grd s)[k]? = some (.bool (s.sy k)) := by
  rcases (by omega : k = 0 ∨ k = 1 ∨ k = 2 ∨ k = 3 ∨ k = 4 ∨ k = 5 ∨ k = 6 ∨ k = 7) with rfl | rfl | rfl | rfl | rfl | rfl | rfl | rfl <;> rfl
end Go.Proofs.YtpdenmcacaajkaaGreat

/-! ### GdD -/
namespace Go.Proofs.YtpdenmcacaajkaaGreat
open Go.RowKit

def bools8 (f : Nat → Bool) : Value := .agg #[.bool (f 0), .bool (f 1), .bool (f 2), .bool (f 3), .bool (f 4), .bool (f 5), .bool (f 6), .bool (f 7)]
def ints8 (f : Nat → Int) : Value := .agg #[.int .i64 (f 0), .int .i64 (f 1), .int .i64 (f 2), .int .i64 (f 3), .int .i64 (f 4), .int .i64 (f 5), .int .i64 (f 6), .int .i64 (f 7)]
/-- The first of n, or -1. -/
def fst (f : Nat → Bool) (n : Nat) : Int := match (List.range n).find? f with | some k => (k : Nat) | none => -1
theorem fst_none {f : Nat → Bool} {n : Nat} (h : ∀ k, k < n → f k = false) : fst f n = -1 := by
  unfold fst
  rw [List.find?_eq_none.2 (fun k hk => by simp [h k (List.mem_range.1 hk)])]
theorem fst_hit {f : Nat → Bool} {n k : Nat} (hk : k < n) (hf : f k = true) (h : ∀ j, j < k → f j = false) : fst f n = (k : Nat) := by
  unfold fst
  rw [List.find?_range_eq_some.2 ⟨hf, List.mem_range.2 hk, fun j hj => by simp [h j hj]⟩]
set_option maxRecDepth 100000 in
set_option maxHeartbeats 1000000 in
theorem index_sl (b n c : Nat) (f : Nat → Bool) (w : World) (h : ∀ k, k < n → w.cell? ⟨b, k, none⟩ = some (.bool (f k))) (hn : n ≤ 8) :
    Calls Tryz.prog 178 #[.slice (some ⟨b, 0, none⟩) n c, .bool true] w fun e w' => e = .returned (.int .i64 (fst f n)) ∧ w = w' := by
  have H := Lib.hid h
  have F0 := Lib.hid (fst_none (f := f) (n := n))
  have F1 := fun k h1 h2 h3 => Lib.hid (fst_hit (f := f) (n := n) (k := k) h1 h2 h3)
  generalize fst f n = r at *
  clear h
  go_enter Tryz.func178, Tryz.ntmps178
  go_wp2
  go_loopw [8] (fun i wr => ∃ k : Nat, k ≤ n ∧ i = .int .i64 k ∧ Hid (∀ j, j < k → f j = false) ∧ w = wr) (fun i _ => n - (intOf i).toNat)
  case atStart => exact ⟨0, by omega, rfl, Lib.hid (fun j hj => by omega), rfl⟩
  case round =>
    obtain ⟨k, hk, rfl, hz, rfl⟩ := hrel
    by_cases hlt : k < n
    · have q1 : decide ((k : Int) < (n : Int)) = true := decide_eq_true (by omega)
      have ck := H.out k hlt
      cases hf : f k
      · rw [hf] at ck
        go_wp2
        go_roundw
        case rel => exact ⟨k + 1, by omega, by go_num, Lib.hid (fun j hj => by
          by_cases e : j = k
          · subst e; exact hf
          · exact hz.out j (by omega)), trivial⟩
        case measure => simp [intOf]; omega
      · rw [hf] at ck
        have e1 := F1 k hlt hf hz.out
        go_wp2
        go_ret
        exact ⟨by rw [e1.out]; rfl, rfl⟩
    · have q1 : decide ((k : Int) < (n : Int)) = false := decide_eq_false (by omega)
      have e1 := F0.out (fun j hj => hz.out j (by omega))
      go_wp2
      go_ret
      exact ⟨by rw [e1]; rfl, rfl⟩
/-- Who may be heard. -/
def G.pass (s : G) (f : Nat → Bool) (a : Nat → Int) : Int := if s.kn then (if f s.slot && nearB (a s.slot) s.now s.wi then (s.slot : Nat) else -1) else fst f s.n
theorem b8_get (f : Nat → Bool) (k : Nat) (hk : k < 8) : (#[.bool (f 0), .bool (f 1), .bool (f 2), .bool (f 3), .bool (f 4), .bool (f 5), .bool (f 6), .bool (f 7)] : Array Value)[k]? = some (.bool (f k)) := by
  rcases (by omega : k = 0 ∨ k = 1 ∨ k = 2 ∨ k = 3 ∨ k = 4 ∨ k = 5 ∨ k = 6 ∨ k = 7) with rfl | rfl | rfl | rfl | rfl | rfl | rfl | rfl <;> rfl
theorem i8_get (f : Nat → Int) (k : Nat) (hk : k < 8) : (#[.int .i64 (f 0), .int .i64 (f 1), .int .i64 (f 2), .int .i64 (f 3), .int .i64 (f 4), .int .i64 (f 5), .int .i64 (f 6), .int .i64 (f 7)] : Array Value)[k]? = some (.int .i64 (f k)) := by
  rcases (by omega : k = 0 ∨ k = 1 ∨ k = 2 ∨ k = 3 ∨ k = 4 ∨ k = 5 ∨ k = 6 ∨ k = 7) with rfl | rfl | rfl | rfl | rfl | rfl | rfl | rfl <;> rfl
end Go.Proofs.YtpdenmcacaajkaaGreat
