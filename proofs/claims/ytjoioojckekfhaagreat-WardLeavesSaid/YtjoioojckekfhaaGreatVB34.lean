/- Texts MixTwo, SrB in one. For what each says in front of its theorems. -/
import Derived.Deep.RegionWith
import Derived.Deep.RegionHeld3
import Derived.Test.YtjoioojckekfhaaGreatVB33
import Derived.Test.YtjoioojckekfhaaGreatVB53
/-! ### MixTwo -/
namespace Go.Proofs.YtjoioojckekfhaaGreat
open Go.RowKit

def two {α : Type} (x y : α) (i : Nat) : α := if i = 0 then x else y
set_option maxRecDepth 100000 in
theorem sees_two (w : World) (B : Nat) (e : TypeId) (A0 A1 : Option Addr) (n0 n1 c0 c1 : Nat) (hB : w.heap.size < B) :
    Sees (w.alloc (.cells #[.slice A0 n0 c0, .slice A1 n1 c1] e)) B (some ⟨w.heap.size, 0, none⟩) 2 fun i => .slice (two A0 A1 i) (two n0 n1 i) (two c0 c1 i) := fun _ =>
  ⟨_, _, rfl, hB, fun k hk => by
    rw [World.cell?_alloc_at _ _ _ _ rfl]
    have : k = 0 ∨ k = 1 := by omega
    rcases this with rfl | rfl <;> rfl⟩

set_option maxRecDepth 100000 in
theorem owns_down {w : World} {B B' n : Nat} {e : TypeId} {v : Value} {V : Nat → Value} (h : Owns w B e v n V) (hB : B' ≤ B) : Owns w B' e v n V := by
  refine ⟨h.1, ?_⟩
  rcases h.2 with h | ⟨g, cap, cur, h1, h2, h3⟩
  · exact .inl h
  · exact .inr ⟨g, cap, cur, h1, by omega, h3⟩

set_option maxRecDepth 100000 in
theorem mix_two (A0 A1 : Option Addr) (n0 n1 c0 c1 : Nat) (a0 b0 a1 b1 : Nat → Int) (w : World) (e : TypeId)
    (h0 : Sees w w.heap.size A0 n0 fun k => cx (a0 k) (b0 k)) (h1 : Sees w w.heap.size A1 n1 fun k => cx (a1 k) (b1 k)) (hn0 : n0 ≤ 100000) (hn1 : n1 ≤ 100000)
    (s0 : ∀ k, (a0 k).natAbs < 2 ^ 50 ∧ (b0 k).natAbs < 2 ^ 50) (s1 : ∀ k, (a1 k).natAbs < 2 ^ 50 ∧ (b1 k).natAbs < 2 ^ 50) :
    Calls Tryz.prog 85 #[.slice (some ⟨w.heap.size, 0, none⟩) 2 2] (w.alloc (.cells #[.slice A0 n0 c0, .slice A1 n1 c1] e)) fun e w' =>
      ∃ v, e = .returned v ∧ Owns w' w.heap.size 174 v (max n0 n1) (fun k => cx ((if k < n0 then a0 k else 0) + (if k < n1 then a1 k else 0)) ((if k < n0 then b0 k else 0) + (if k < n1 then b1 k else 0))) ∧ Below w.heap.size w w' := by
  have hb : Below w.heap.size w (w.alloc (.cells #[.slice A0 n0 c0, .slice A1 n1 c1] e)) := (Below.refl _ _).alloc (Nat.le_refl _) _
  have hsm : ∀ (n : Nat → Nat) (x y : Nat → Int) (i k : Nat), i < 2 → (∀ k, (x k).natAbs < 2 ^ 50) → (sm n (two x y) i k).natAbs < 2 ^ 52 := by
    intro n x y i k hi hx
    have : i = 0 ∨ i = 1 := by omega
    rcases this with rfl | rfl
    · simp [sm]
    · have := hx k
      simp only [sm, two, if_true]
      split <;> omega
  refine (mix_any (some ⟨w.heap.size, 0, none⟩) 2 2 (two A0 A1) (two n0 n1) (two c0 c1) (two a0 a1) (two b0 b1) _ (sees_two w _ e A0 A1 n0 n1 c0 c1 (by simp)) ?_ (by omega) ?_ ?_ ?_ (fun i k hi => hsm _ _ _ i k hi fun k => (s0 k).1) (fun i k hi => hsm _ _ _ i k hi fun k => (s0 k).2)).mono ?_
  · intro i hi
    have : i = 0 ∨ i = 1 := by omega
    rcases this with rfl | rfl
    · exact (h0.below hb).more (by simp)
    · exact (h1.below hb).more (by simp)
  · intro i hi
    have : i = 0 ∨ i = 1 := by omega
    rcases this with rfl | rfl
    · exact hn0
    · exact hn1
  · intro i k hi _
    have : i = 0 ∨ i = 1 := by omega
    rcases this with rfl | rfl
    · exact Nat.lt_trans (s0 k).1 (by decide)
    · exact Nat.lt_trans (s1 k).1 (by decide)
  · intro i k hi _
    have : i = 0 ∨ i = 1 := by omega
    rcases this with rfl | rfl
    · exact Nat.lt_trans (s0 k).2 (by decide)
    · exact Nat.lt_trans (s1 k).2 (by decide)
  · rintro e w' ⟨v, rfl, ho, hb'⟩
    refine ⟨v, rfl, ?_, hb.trans (hb'.mono (by simp))⟩
    have hmx : mx (two n0 n1) 2 = max n0 n1 := by simp [mx, two]
    rw [hmx] at ho
    exact owns_down (ho.alike fun k _ => by simp [sm, two]) (by simp)

end Go.Proofs.YtjoioojckekfhaaGreat

/-! ### SrB -/
namespace Go.Proofs.YtjoioojckekfhaaGreat
open Go.RowKit

/-- But for the blocks of a list, all that there was is as it was. -/
structure Kw (P : List Nat) (w w' : World) : Prop where
  os : w'.os = w.os
  tape : w'.tape = w.tape
  output : w'.output = w.output
  size : w.heap.size ≤ w'.heap.size
  block : ∀ i, i < w.heap.size → i ∉ P → w'.heap[i]? = w.heap[i]?
section
variable {P : List Nat} {w w1 w2 : World}
theorem Kw.refl (P : List Nat) (w : World) : Kw P w w := ⟨rfl, rfl, rfl, Nat.le_refl _, fun _ _ _ => rfl⟩
theorem Kw.trans (h : Kw P w w1) (k : Kw P w1 w2) : Kw P w w2 := ⟨k.os.trans h.os, k.tape.trans h.tape, k.output.trans h.output, Nat.le_trans h.size k.size, fun i hi hn => (k.block i (Nat.lt_of_lt_of_le hi h.size) hn).trans (h.block i hi hn)⟩
theorem Kw.below (h : Kw P w w1) (k : Below w1.heap.size w1 w2) : Kw P w w2 := h.trans ⟨k.os, k.tape, k.output, k.size, fun i hi _ => k.block i hi⟩
theorem Kw.ofBelow (P : List Nat) (k : Below w.heap.size w w1) : Kw P w w1 := (Kw.refl P w).below k
theorem Kw.only {g : Nat} (k : Only g w w1) (hg : g ∈ P) : Kw P w w1 := ⟨k.os, k.tape, k.output, k.size, fun i hi hn => k.block i hi (by intro e; cases e; exact hn hg)⟩
theorem Kw.set (h : Kw P w w1) (p : Addr) (hp : p.block ∈ P) (x : Value) : Kw P w (w1.setCell p x) := ⟨h.os, h.tape, h.output, by simpa [World.setCell] using h.size, fun k hk hn => (Below.heap_setCell w1 p x k (fun e => hn (by rw [e]; exact hp))).trans (h.block k hk hn)⟩
theorem Kw.alloc (h : Kw P w w1) (o : Obj) : Kw P w (w1.alloc o) := h.below ((Below.refl _ _).alloc (Nat.le_refl _) o)
theorem Kw.drew (h : Kw P w w1) : Kw P w w1.drew := ⟨h.os, h.tape, h.output, h.size, h.block⟩
theorem Kw.toBelow {B : Nat} (h : Kw P w w1) (hB : B ≤ w.heap.size) (hP : ∀ i ∈ P, B ≤ i) : Below B w w1 := ⟨h.os, h.tape, h.output, h.size, fun i hi => h.block i (by omega) (fun hp => by have := hP i hp; omega)⟩
theorem Kw.less {P' : List Nat} (h : Kw P w w1) (hP : ∀ i ∈ P, i < w.heap.size → i ∈ P') : Kw P' w w1 := ⟨h.os, h.tape, h.output, h.size, fun i hi hn => h.block i hi (fun hp => hn (hP i hp hi))⟩
theorem Blk.kp {g : Nat} {cs : Array Value} {t : TypeId} (h : Blk w g cs t) (k : Kw P w w1) (hg : g ∉ P) : Blk w1 g cs t := (k.block g h.lt hg).trans h
end

/-- A row of samples that lies in none of some blocks. -/
structure Row (W : World) (P : List Nat) (v : Value) (n : Nat) (a b : Nat → Int) : Prop where
  at_ : ∃ A c, v = .slice A n c ∧ n ≤ c ∧ c ≤ maxLen ∧ (0 < n → ∃ g off, A = some ⟨g, off, none⟩ ∧ g < W.heap.size ∧ g ∉ P ∧ ∀ k, k < n → W.cell? ⟨g, off + k, none⟩ = some (cx (a k) (b k)))
  n4 : n ≤ 400
  one : ∀ k, (a k).natAbs ≤ 1 ∧ (b k).natAbs ≤ 1
theorem Row.sees {W : World} {P : List Nat} {v : Value} {n : Nat} {a b : Nat → Int} (h : Row W P v n a b) : ∃ A c, v = .slice A n c ∧ n ≤ c ∧ c ≤ maxLen ∧ Sees W W.heap.size A n fun k => cx (a k) (b k) := by
  obtain ⟨A, c, rfl, h1, h2, h3⟩ := h.at_
  refine ⟨A, c, rfl, h1, h2, fun h0 => ?_⟩
  obtain ⟨g, off, rfl, hg, -, hc⟩ := h3 h0
  exact ⟨g, off, rfl, hg, hc⟩
theorem Row.kp {W W' : World} {P : List Nat} {v : Value} {n : Nat} {a b : Nat → Int} (h : Row W P v n a b) (k : Kw P W W') : Row W' P v n a b := ⟨by
  obtain ⟨A, c, rfl, h1, h2, h3⟩ := h.at_
  refine ⟨A, c, rfl, h1, h2, fun h0 => ?_⟩
  obtain ⟨g, off, rfl, hg, hP, hc⟩ := h3 h0
  refine ⟨g, off, rfl, Nat.lt_of_lt_of_le hg k.size, hP, fun j hj => ?_⟩
  have := hc j hj
  unfold World.cell? at this ⊢
  rw [show W'.heap[(⟨g, off + j, none⟩ : Addr).block]? = W.heap[(⟨g, off + j, none⟩ : Addr).block]? from k.block g hg hP]
  exact this, h.n4, h.one⟩
/-- With a block more that is new. -/
theorem Row.cons {W : World} {P : List Nat} {v : Value} {n : Nat} {a b : Nat → Int} (h : Row W P v n a b) (x : Nat) (hx : W.heap.size ≤ x) : Row W (x :: P) v n a b := ⟨by
  obtain ⟨A, c, rfl, h1, h2, h3⟩ := h.at_
  refine ⟨A, c, rfl, h1, h2, fun h0 => ?_⟩
  obtain ⟨g, off, rfl, hg, hP, hc⟩ := h3 h0
  exact ⟨g, off, rfl, hg, by simp only [List.mem_cons, not_or]; exact ⟨by omega, hP⟩, hc⟩, h.n4, h.one⟩
theorem Row.sub {W : World} {P P' : List Nat} {v : Value} {n : Nat} {a b : Nat → Int} (h : Row W P v n a b) (hP : ∀ i ∈ P', i ∈ P ∨ W.heap.size ≤ i) : Row W P' v n a b := ⟨by
  obtain ⟨A, c, rfl, h1, h2, h3⟩ := h.at_
  refine ⟨A, c, rfl, h1, h2, fun h0 => ?_⟩
  obtain ⟨g, off, rfl, hg, hn, hc⟩ := h3 h0
  exact ⟨g, off, rfl, hg, fun e => by rcases hP g e with h | h; exact hn h; omega, hc⟩, h.n4, h.one⟩
theorem Row.nil (W : World) (P : List Nat) (a b : Nat → Int) (h : ∀ k, (a k).natAbs ≤ 1 ∧ (b k).natAbs ≤ 1) : Row W P (.slice none 0 0) 0 a b := ⟨⟨none, 0, rfl, Nat.le_refl _, Nat.zero_le _, fun h => absurd h (by omega)⟩, by omega, h⟩
/-- What was made behind some blocks lies in none of them. -/
theorem Row.ofOwns {W : World} {B : Nat} {P : List Nat} {v : Value} {n : Nat} {a b : Nat → Int} (h : Owns W B 174 v n fun k => cx (a k) (b k)) (hP : ∀ i ∈ P, i < B) (hn : n ≤ 400) (h1 : ∀ k, (a k).natAbs ≤ 1 ∧ (b k).natAbs ≤ 1) : Row W P v n a b := by
  obtain ⟨A, c, rfl, n1, n2, hs⟩ := h.form
  refine ⟨⟨A, c, rfl, n1, n2, fun h0 => ?_⟩, hn, h1⟩
  obtain ⟨g, off, rfl, hg, hc⟩ := hs h0
  refine ⟨g, off, rfl, hg, fun e => ?_, hc⟩
  have := (World.ownsRow.lt h g rfl).1
  have := hP g e
  omega

/-- The row of bytes. -/
def rn (l : List Int) : Nat := 8 * min l.length 50
def rq (l : List Int) : Nat → Int := lv true fun k => l.getD k 0
theorem rq_one (l : List Int) (k : Nat) : (rq l k).natAbs ≤ 1 := by
  rcases lv_unit (fun k => l.getD k 0) k with h | h <;> unfold rq <;> omega
theorem rn_le (l : List Int) : rn l ≤ 400 := by unfold rn; omega
theorem drive_sr (v : Value) (l : List Int) (w : World) (hv : SeesL w w.heap.size v l) (hl : bytesL l) :
    Calls Tryz.prog 103 #[v] w fun e w' => ∃ u, e = .returned u ∧ Owns w' w.heap.size 174 u (rn l) (fun k => cx (rq l k) (rq l k)) ∧ Below w.heap.size w w' := by
  obtain ⟨A, c, rfl, n1, n2, hs, -⟩ := hv.at_
  have hD := Lib.hid (drive_cx A l.length c (fun k => l.getD k 0) true true w hs (fun k _ => hl.getD k) n1 n2)
  change Hid (Calls _ _ _ _ (fun e w' => ∃ v, e = .returned v ∧ Owns w' w.heap.size 174 v (rn l) (fun k => cx (rq l k) (rq l k)) ∧ Below w.heap.size w w')) at hD
  go_enter Tryz.func103, Tryz.ntmps103
  go_wp2_with fail
  refine hD.out.mono ?_
  rintro e w1 ⟨u, rfl, ho, hb⟩
  go_wp2
  go_ret
  exact ⟨u, rfl, ho, hb⟩
/-- A row with a bit turned. -/
def gq (n : Nat) (q : Nat → Int) (a : Int) : Nat → Int := turned (max a (-a) % (n : Int)) q
theorem turned_one (t : Int) (q : Nat → Int) (h : ∀ k, (q k).natAbs ≤ 1) (k : Nat) : (turned t q k).natAbs ≤ 1 := by
  have := h k
  unfold turned
  split <;> omega
set_option maxRecDepth 100000 in
set_option maxHeartbeats 1000000 in
theorem garble_sr (v : Value) (n : Nat) (q : Nat → Int) (a : Int) (P : List Nat) (w : World) (h : Row w P v n q q) (hP : ∀ i ∈ P, i < w.heap.size) (ha : -1000 ≤ a ∧ a ≤ 1000) :
    Calls Tryz.prog 133 #[v, .int .i64 a] w fun e w' => ∃ u, e = .returned u ∧ Row w' P u n (gq n q a) (gq n q a) ∧ Below w.heap.size w w' := by
  have H := Lib.hid h
  obtain ⟨A, c, rfl, n1, n2, hs⟩ := h.sees
  have h4 := h.n4
  have h1 := h.one
  clear h
  by_cases h0 : n = 0
  · subst h0
    go_enter Tryz.func133, Tryz.ntmps133
    go_wp2
    go_ret
    exact ⟨_, rfl, Row.nil _ _ _ _ (fun k => ⟨turned_one _ _ (fun k => (h1 k).1) k, turned_one _ _ (fun k => (h1 k).1) k⟩), Below.refl _ _⟩
  · have q0 : ((n : Int) == 0) = false := by rw [beq_eq_false_iff_ne]; omega
    have q1 : ¬ (n : Int) = 0 := by omega
    have z1 : IntKind.i64.wrap (-a) = -a := IntWalk.i64_in _ (by omega)
    have z2 : Int.tmod (max a (-a)) (n : Int) = max a (-a) % (n : Int) := Int.tmod_eq_emod_of_nonneg (by omega)
    have z3 : 0 ≤ max a (-a) % (n : Int) ∧ max a (-a) % (n : Int) < n := ⟨Int.emod_nonneg _ q1, Int.emod_lt_of_pos _ (by omega)⟩
    have hT : ∀ X, X = max a (-a) → Hid (Calls Tryz.prog 148 #[.slice A n c, .int .i64 (X % (n : Int))] w fun e w' => ∃ v, e = .returned v ∧ Owns w' w.heap.size 174 v n (fun k => cx (gq n q a k) (gq n q a k)) ∧ Below w.heap.size w w') := by
      rintro X rfl
      exact Lib.hid (turn_any A n c q q (max a (-a) % (n : Int)) w hs (fun k _ => by have := (h1 k).1; omega) (fun k _ => by have := (h1 k).1; omega) (by omega) (by omega))
    have HP := Lib.hid hP
    have H1 := Lib.hid h1
    clear hs h1 hP
    go_enter Tryz.func133, Tryz.ntmps133
    go_wp2_with fail
    all_goals
      refine (hT _ (by omega)).out.mono ?_
      rintro e w1 ⟨u, rfl, ho, hb⟩
      go_wp2
      go_ret
      exact ⟨u, rfl, Row.ofOwns ho HP.out h4 (fun k => ⟨turned_one _ _ (fun k => (H1.out k).1) k, turned_one _ _ (fun k => (H1.out k).1) k⟩), hb⟩
/-- A row in channel i alone. -/
theorem gate_sr (v : Value) (n : Nat) (q : Nat → Int) (i : Nat) (P : List Nat) (w : World) (h : Row w P v n q q) (hP : ∀ i ∈ P, i < w.heap.size) :
    Calls Tryz.prog 108 #[v, .int .i64 (i : Nat)] w fun e w' => ∃ u, e = .returned u ∧ Row w' P u n (fun k => pf (decide (i = 0)) (q k)) (fun k => pf (decide (i = 1)) (q k)) ∧ Below w.heap.size w w' := by
  obtain ⟨A, c, rfl, n1, n2, hs⟩ := h.sees
  have h4 := h.n4
  have H1 := Lib.hid h.one
  have hG := Lib.hid (gate_any A n c q q (decide (i = 0)) (decide (i = 1)) w hs (by omega))
  have q0 : ((i : Int) == 0) = decide (i = 0) := by rw [Bool.eq_iff_iff]; simp
  have q1 : ((i : Int) == 1) = decide (i = 1) := by rw [Bool.eq_iff_iff]; simp; omega
  clear hs h
  generalize decide (i = 0) = x at *
  generalize decide (i = 1) = y at *
  go_enter Tryz.func108, Tryz.ntmps108
  go_wp2_with fail
  refine hG.out.mono ?_
  rintro e w1 ⟨u, rfl, ho, hb⟩
  go_wp2
  go_ret
  refine ⟨u, rfl, Row.ofOwns ho hP h4 (fun k => ?_), hb⟩
  have := H1.out k
  unfold pf
  cases x <;> cases y <;> simp [this]
/-- A sender. -/
structure Sd where
  n : Nat
  q : Nat → Int
  at_ : Int
  df : Bool
/-- Their cells. -/
def c3 : List (Value × Sd) → List Value
  | [] => []
  | (v, s) :: l => v :: .int .i64 s.at_ :: .bool s.df :: c3 l
theorem c3_length : ∀ l, (c3 l).length = l.length * 3
  | [] => rfl
  | (v, s) :: l => by simp only [c3, List.length_cons, c3_length l]; omega
theorem c3_get : ∀ (l : List (Value × Sd)) (k : Nat) (x : Value × Sd), l[k]? = some x → (c3 l)[k * 3]? = some x.1 ∧ (c3 l)[k * 3 + 1]? = some (.int .i64 x.2.at_) ∧ (c3 l)[k * 3 + 2]? = some (.bool x.2.df)
  | [], k, x, h => by simp at h
  | (v, s) :: l, 0, x, h => by simp at h; subst h; exact ⟨rfl, rfl, rfl⟩
  | (v, s) :: l, k + 1, x, h => by
    have := c3_get l k x (by simpa using h)
    rw [show (k + 1) * 3 = k * 3 + 3 by omega]
    exact this
theorem c3_set : ∀ (l : List (Value × Sd)) (k : Nat) (x y : Value × Sd), l[k]? = some y → (((c3 l).set (k * 3) x.1).set (k * 3 + 1) (.int .i64 x.2.at_)).set (k * 3 + 2) (.bool x.2.df) = c3 (l.set k x)
  | [], k, x, y, h => by simp at h
  | (v, s) :: l, 0, x, y, h => rfl
  | (v, s) :: l, k + 1, x, y, h => by
    have := c3_set l k x y (by simpa using h)
    rw [show (k + 1) * 3 = k * 3 + 3 by omega]
    simp only [c3, List.set_cons_succ, List.set]
    exact congrArg (fun z => v :: Value.int .i64 s.at_ :: Value.bool s.df :: z) this
theorem c3_v : ∀ (l : List (Value × Sd)) (k : Nat) (u v : Value) (s t : Sd), l[k]? = some (v, s) → t.at_ = s.at_ → t.df = s.df → (c3 l).set (k * 3) u = c3 (l.set k (u, t))
  | [], k, u, v, s, t, h, _, _ => by simp at h
  | (v', s') :: l, 0, u, v, s, t, h, h1, h2 => by simp at h; obtain ⟨rfl, rfl⟩ := h; simp [c3, h1, h2]
  | (v', s') :: l, k + 1, u, v, s, t, h, h1, h2 => by
    have := c3_v l k u v s t (by simpa using h) h1 h2
    rw [show (k + 1) * 3 = k * 3 + 3 by omega]
    simp only [c3, List.set_cons_succ, List.set]
    exact congrArg (fun z => v' :: Value.int .i64 s'.at_ :: Value.bool s'.df :: z) this
theorem c3_a : ∀ (l : List (Value × Sd)) (k : Nat) (v : Value) (s t : Sd), l[k]? = some (v, s) → t.df = s.df → (c3 l).set (k * 3 + 1) (.int .i64 t.at_) = c3 (l.set k (v, t))
  | [], k, v, s, t, h, _ => by simp at h
  | (v', s') :: l, 0, v, s, t, h, h1 => by simp at h; obtain ⟨rfl, rfl⟩ := h; simp [c3, h1]
  | (v', s') :: l, k + 1, v, s, t, h, h1 => by
    have := c3_a l k v s t (by simpa using h) h1
    rw [show (k + 1) * 3 + 1 = k * 3 + 1 + 3 by omega]
    simp only [c3, List.set_cons_succ, List.set]
    exact congrArg (fun z => v' :: Value.int .i64 s'.at_ :: Value.bool s'.df :: z) this
theorem c3_d : ∀ (l : List (Value × Sd)) (k : Nat) (v : Value) (s t : Sd), l[k]? = some (v, s) → t.at_ = s.at_ → (c3 l).set (k * 3 + 2) (.bool t.df) = c3 (l.set k (v, t))
  | [], k, v, s, t, h, _ => by simp at h
  | (v', s') :: l, 0, v, s, t, h, h1 => by simp at h; obtain ⟨rfl, rfl⟩ := h; simp [c3, h1]
  | (v', s') :: l, k + 1, v, s, t, h, h1 => by
    have := c3_d l k v s t (by simpa using h) h1
    rw [show (k + 1) * 3 + 2 = k * 3 + 2 + 3 by omega]
    simp only [c3, List.set_cons_succ, List.set]
    exact congrArg (fun z => v' :: Value.int .i64 s'.at_ :: Value.bool s'.df :: z) this
/-- Senders in memory: block b, their rows in none of the blocks of P. -/
structure SdAt (W : World) (P : List Nat) (b : Nat) (l : List (Value × Sd)) : Prop where
  blk : Blk W b (c3 l).toArray 164
  row : ∀ x ∈ l, Row W P x.1 x.2.n x.2.q x.2.q
  mem : b ∈ P
theorem SdAt.lt {W : World} {P : List Nat} {b : Nat} {l : List (Value × Sd)} (h : SdAt W P b l) : b < W.heap.size := h.blk.lt
theorem SdAt.cells {W : World} {P : List Nat} {b : Nat} {l : List (Value × Sd)} (h : SdAt W P b l) {k : Nat} {v : Value} {s : Sd} (hk : l[k]? = some (v, s)) : W.cell? ⟨b, k * 3, none⟩ = some v ∧ W.cell? ⟨b, k * 3 + 1, none⟩ = some (.int .i64 s.at_) ∧ W.cell? ⟨b, k * 3 + 2, none⟩ = some (.bool s.df) := by
  obtain ⟨h0, h1, h2⟩ := c3_get l k _ hk
  exact ⟨h.blk.cell (k * 3) (by simpa using h0), h.blk.cell (k * 3 + 1) (by simpa using h1), h.blk.cell (k * 3 + 2) (by simpa using h2)⟩
/-- Where other blocks of the call's own turn. -/
theorem SdAt.kp {W W' : World} {P : List Nat} {b : Nat} {l : List (Value × Sd)} (h : SdAt W P b l) (k : Kw P W W') (hb : W'.heap[b]? = W.heap[b]?) : SdAt W' P b l := ⟨hb.trans h.blk, fun x hx => (h.row x hx).kp k, h.mem⟩
theorem SdAt.below {W W' : World} {P : List Nat} {b : Nat} {l : List (Value × Sd)} (h : SdAt W P b l) (k : Below W.heap.size W W') : SdAt W' P b l := h.kp (Kw.ofBelow P k) (k.block b h.lt)
theorem SdAt.drew {W : World} {P : List Nat} {b : Nat} {l : List (Value × Sd)} (h : SdAt W P b l) : SdAt W.drew P b l := h.below ((Below.refl _ _).drew)
theorem SdAt.drewN {W : World} {P : List Nat} {b : Nat} {l : List (Value × Sd)} (h : SdAt W P b l) (n : Nat) : SdAt (W.drewN n) P b l := h.below (below_drewN (Below.refl _ W) n)
theorem mem_set_of {α : Type} {l : List α} {k : Nat} {x y : α} (h : y ∈ l.set k x) : y = x ∨ y ∈ l := by
  rcases List.mem_or_eq_of_mem_set h with h | h
  · exact .inr h
  · exact .inl h
theorem SdAt.v_ {W : World} {P : List Nat} {b : Nat} {l : List (Value × Sd)} (h : SdAt W P b l) {k : Nat} {u v : Value} {s t : Sd} (hk : l[k]? = some (v, s)) (h1 : t.at_ = s.at_) (h2 : t.df = s.df) (hr : Row W P u t.n t.q t.q) :
    SdAt (W.setCell ⟨b, k * 3, none⟩ u) P b (l.set k (u, t)) := ⟨(h.blk.set (k * 3) u).eq (by rw [List.setIfInBounds_toArray, c3_v l k u v s t hk h1 h2]), fun x hx => by
  have kp := (Kw.refl P W).set ⟨b, k * 3, none⟩ h.mem u
  rcases mem_set_of hx with rfl | hx
  · exact hr.kp kp
  · exact (h.row x hx).kp kp, h.mem⟩
theorem SdAt.a_ {W : World} {P : List Nat} {b : Nat} {l : List (Value × Sd)} (h : SdAt W P b l) {k : Nat} {v : Value} {s : Sd} (hk : l[k]? = some (v, s)) (a : Int) :
    SdAt (W.setCell ⟨b, k * 3 + 1, none⟩ (.int .i64 a)) P b (l.set k (v, { s with at_ := a })) := ⟨(h.blk.set (k * 3 + 1) (.int .i64 a)).eq (by rw [List.setIfInBounds_toArray, ← c3_a l k v s { s with at_ := a } hk rfl]), fun x hx => by
  have kp := (Kw.refl P W).set ⟨b, k * 3 + 1, none⟩ h.mem (.int .i64 a)
  rcases mem_set_of hx with rfl | hx
  · exact (h.row _ (List.mem_of_getElem? hk)).kp kp
  · exact (h.row x hx).kp kp, h.mem⟩
theorem SdAt.d_ {W : World} {P : List Nat} {b : Nat} {l : List (Value × Sd)} (h : SdAt W P b l) {k : Nat} {v : Value} {s : Sd} (hk : l[k]? = some (v, s)) (a : Bool) :
    SdAt (W.setCell ⟨b, k * 3 + 2, none⟩ (.bool a)) P b (l.set k (v, { s with df := a })) := ⟨(h.blk.set (k * 3 + 2) (.bool a)).eq (by rw [List.setIfInBounds_toArray, ← c3_d l k v s { s with df := a } hk rfl]), fun x hx => by
  have kp := (Kw.refl P W).set ⟨b, k * 3 + 2, none⟩ h.mem (.bool a)
  rcases mem_set_of hx with rfl | hx
  · exact (h.row _ (List.mem_of_getElem? hk)).kp kp
  · exact (h.row x hx).kp kp, h.mem⟩
/-- All three cells of one at once. -/
theorem SdAt.all {W : World} {P : List Nat} {b : Nat} {l : List (Value × Sd)} (h : SdAt W P b l) {k : Nat} {u v : Value} {s t : Sd} (hk : l[k]? = some (v, s)) (hr : Row W P u t.n t.q t.q) :
    SdAt (((W.setCell ⟨b, k * 3, none⟩ u).setCell ⟨b, k * 3 + 1, none⟩ (.int .i64 t.at_)).setCell ⟨b, k * 3 + 2, none⟩ (.bool t.df)) P b (l.set k (u, t)) := ⟨(((h.blk.set (k * 3) u).set (k * 3 + 1) (.int .i64 t.at_)).set (k * 3 + 2) (.bool t.df)).eq (by rw [List.setIfInBounds_toArray, List.setIfInBounds_toArray, List.setIfInBounds_toArray, c3_set l k (u, t) _ hk]), fun x hx => by
  have kp := (((Kw.refl P W).set ⟨b, k * 3, none⟩ h.mem u).set ⟨b, k * 3 + 1, none⟩ h.mem (.int .i64 t.at_)).set ⟨b, k * 3 + 2, none⟩ h.mem (.bool t.df)
  rcases mem_set_of hx with rfl | hx
  · exact hr.kp kp
  · exact (h.row x hx).kp kp, h.mem⟩
end Go.Proofs.YtjoioojckekfhaaGreat
