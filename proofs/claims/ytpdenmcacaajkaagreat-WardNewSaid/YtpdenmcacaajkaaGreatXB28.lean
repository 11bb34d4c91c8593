/- Texts SrB, SrC in one. For what each says in front of its theorems. -/
import Derived.Deep.RegionWith
import Derived.Deep.RegionHeld3
import Derived.Test.YtpdenmcacaajkaaGreatXB27
import Derived.Test.YtpdenmcacaajkaaGreatXB45
/-! ### SrB -/
namespace Go.Proofs.YtpdenmcacaajkaaGreat
open Go.RowKit

/-- But for the blocks of a list, all that there was is as it was. -/
structure Kw (P : List Nat) (w w' : World) : Prop where
  os : w'.os = w.os
  tape : w'.tape = w.tape
  output : w'.output = w.output
  size : w.heap.size ≤ w'.heap.size
  block : ∀ i, i < w.heap.size → i ∉ P → w'.heap[i]? = w.heap[i]?
section
variable {P : List Nat} {w w1 w2 : World}
theorem Kw.refl (P : List Nat) (w : World) : Kw P w w := ⟨rfl, rfl, rfl, Nat.le_refl _, fun _ _ _ => rfl⟩
theorem Kw.trans (h : Kw P w w1) (k : Kw P w1 w2) : Kw P w w2 := ⟨k.os.trans h.os, k.tape.trans h.tape, k.output.trans h.output, Nat.le_trans h.size k.size, fun i hi hn => (k.block i (Nat.lt_of_lt_of_le hi h.size) hn).trans (h.block i hi hn)⟩
theorem Kw.below (h : Kw P w w1) (k : Below w1.heap.size w1 w2) : Kw P w w2 := h.trans ⟨k.os, k.tape, k.output, k.size, fun i hi _ => k.block i hi⟩
theorem Kw.ofBelow (P : List Nat) (k : Below w.heap.size w w1) : Kw P w w1 := (Kw.refl P w).below k
theorem Kw.only {g : Nat} (k : Only g w w1) (hg : g ∈ P) : Kw P w w1 := ⟨k.os, k.tape, k.output, k.size, fun i hi hn => k.block i hi (by intro e; cases e; exact hn hg)⟩
theorem Kw.set (h : Kw P w w1) (p : Addr) (hp : p.block ∈ P) (x : Value) : Kw P w (w1.setCell p x) := ⟨h.os, h.tape, h.output, by simpa [World.setCell] using h.size, fun k hk hn => (Below.heap_setCell w1 p x k (fun e => hn (by rw [e]; exact hp))).trans (h.block k hk hn)⟩
theorem Kw.alloc (h : Kw P w w1) (o : Obj) : Kw P w (w1.alloc o) := h.below ((Below.refl _ _).alloc (Nat.le_refl _) o)
theorem Kw.drew (h : Kw P w w1) : Kw P w w1.drew := ⟨h.os, h.tape, h.output, h.size, h.block⟩
theorem Kw.toBelow {B : Nat} (h : Kw P w w1) (hB : B ≤ w.heap.size) (hP : ∀ i ∈ P, B ≤ i) : Below B w w1 := ⟨h.os, h.tape, h.output, h.size, fun i hi => h.block i (by omega) (fun hp => by have := hP i hp; omega)⟩
theorem Kw.less {P' : List Nat} (h : Kw P w w1) (hP : ∀ i ∈ P, i < w.heap.size → i ∈ P') : Kw P' w w1 := ⟨h.os, h.tape, h.output, h.size, fun i hi hn => h.block i hi (fun hp => hn (hP i hp hi))⟩
theorem Blk.kp {g : Nat} {cs : Array Value} {t : TypeId} (h : Blk w g cs t) (k : Kw P w w1) (hg : g ∉ P) : Blk w1 g cs t := (k.block g h.lt hg).trans h
end

/-- A row of samples that lies in none of some blocks. -/
structure Row (W : World) (P : List Nat) (v : Value) (n : Nat) (a b : Nat → Int) : Prop where
  at_ : ∃ A c, v = .slice A n c ∧ n ≤ c ∧ c ≤ maxLen ∧ (0 < n → ∃ g off, A = some ⟨g, off, none⟩ ∧ g < W.heap.size ∧ g ∉ P ∧ ∀ k, k < n → W.cell? ⟨g, off + k, none⟩ = some (cx (a k) (b k)))
  n4 : n ≤ 400
  one : ∀ k, (a k).natAbs ≤ 1 ∧ (b k).natAbs ≤ 1
theorem Row.sees {W : World} {P : List Nat} {v : Value} {n : Nat} {a b : Nat → Int} (h : Row W P v n a b) : ∃ A c, v = .slice A n c ∧ n ≤ c ∧ c ≤ maxLen ∧ Sees W W.heap.size A n fun k => cx (a k) (b k) := by
  obtain ⟨A, c, rfl, h1, h2, h3⟩ := h.at_
  refine ⟨A, c, rfl, h1, h2, fun h0 => ?_⟩
  obtain ⟨g, off, rfl, hg, -, hc⟩ := h3 h0
  exact ⟨g, off, rfl, hg, hc⟩
theorem Row.kp {W W' : World} {P : List Nat} {v : Value} {n : Nat} {a b : Nat → Int} (h : Row W P v n a b) (k : Kw P W W') : Row W' P v n a b := ⟨by
  obtain ⟨A, c, rfl, h1, h2, h3⟩ := h.at_
  refine ⟨A, c, rfl, h1, h2, fun h0 => ?_⟩
  obtain ⟨g, off, rfl, hg, hP, hc⟩ := h3 h0
  refine ⟨g, off, rfl, Nat.lt_of_lt_of_le hg k.size, hP, fun j hj => ?_⟩
  have := hc j hj
  unfold World.cell? at this ⊢
  rw [show W'.heap[(⟨g, off + j, none⟩ : Addr).block]? = W.heap[(⟨g, off + j, none⟩ : Addr).block]? from k.block g hg hP]
  exact this, h.n4, h.one⟩
/-- With a block more that is new. -/
theorem Row.cons {W : World} {P : List Nat} {v : Value} {n : Nat} {a b : Nat → Int} (h : Row W P v n a b) (x : Nat) (hx : W.heap.size ≤ x) : Row W (x :: P) v n a b := ⟨by
  obtain ⟨A, c, rfl, h1, h2, h3⟩ := h.at_
  refine ⟨A, c, rfl, h1, h2, fun h0 => ?_⟩
  obtain ⟨g, off, rfl, hg, hP, hc⟩ := h3 h0
  exact ⟨g, off, rfl, hg, by simp only [List.mem_cons, not_or]; exact ⟨by omega, hP⟩, hc⟩, h.n4, h.one⟩
theorem Row.sub {W : World} {P P' : List Nat} {v : Value} {n : Nat} {a b : Nat → Int} (h : Row W P v n a b) (hP : ∀ i ∈ P', i ∈ P ∨ W.heap.size ≤ i) : Row W P' v n a b := ⟨by
  obtain ⟨A, c, rfl, h1, h2, h3⟩ := h.at_
  refine ⟨A, c, rfl, h1, h2, fun h0 => ?_⟩
  obtain ⟨g, off, rfl, hg, hn, hc⟩ := h3 h0
  exact ⟨g, off, rfl, hg, fun e => by rcases hP g e with h | h; exact hn h; omega, hc⟩, h.n4, h.one⟩
theorem Row.nil (W : World) (P : List Nat) (a b : Nat → Int) (h : ∀ k, (a k).natAbs ≤ 1 ∧ (b k).natAbs ≤ 1) : Row W P (.slice none 0 0) 0 a b := ⟨⟨none, 0, rfl, Nat.le_refl _, Nat.zero_le _, fun h => absurd h (by omega)⟩, by omega, h⟩
/-- What was made behind some blocks lies in none of them. -/
theorem Row.ofOwns {W : World} {B : Nat} {P : List Nat} {v : Value} {n : Nat} {a b : Nat → Int} (h : Owns W B 239 v n fun k => cx (a k) (b k)) (hP : ∀ i ∈ P, i < B) (hn : n ≤ 400) (h1 : ∀ k, (a k).natAbs ≤ 1 ∧ (b k).natAbs ≤ 1) : Row W P v n a b := by
  obtain ⟨A, c, rfl, n1, n2, hs⟩ := h.form
  refine ⟨⟨A, c, rfl, n1, n2, fun h0 => ?_⟩, hn, h1⟩
  obtain ⟨g, off, rfl, hg, hc⟩ := hs h0
  refine ⟨g, off, rfl, hg, fun e => ?_, hc⟩
  have := (World.ownsRow.lt h g rfl).1
  have := hP g e
  omega

/-- The row of bytes. -/
def rn (l : List Int) : Nat := 8 * min l.length 50
def rq (l : List Int) : Nat → Int := lv true fun k => l.getD k 0
theorem rq_one (l : List Int) (k : Nat) : (rq l k).natAbs ≤ 1 := by
  rcases lv_unit (fun k => l.getD k 0) k with h | h <;> unfold rq <;> omega
theorem rn_le (l : List Int) : rn l ≤ 400 := by unfold rn; omega
theorem drive_sr (v : Value) (l : List Int) (w : World) (hv : SeesL w w.heap.size v l) (hl : bytesL l) :
    Calls Tryz.prog 174 #[v] w fun e w' => ∃ u, e = .returned u ∧ Owns w' w.heap.size 239 u (rn l) (fun k => cx (rq l k) (rq l k)) ∧ Below w.heap.size w w' := by
  obtain ⟨A, c, rfl, n1, n2, hs, -⟩ := hv.at_
  have hD := Lib.hid (drive_cx A l.length c (fun k => l.getD k 0) true true w hs (fun k _ => hl.getD k) n1 n2)
  change Hid (Calls _ _ _ _ (fun e w' => ∃ v, e = .returned v ∧ Owns w' w.heap.size 239 v (rn l) (fun k => cx (rq l k) (rq l k)) ∧ Below w.heap.size w w')) at hD
  go_enter Tryz.func174, Tryz.ntmps174
  go_wp2_with fail
  refine hD.out.mono ?_
  rintro e w1 ⟨u, rfl, ho, hb⟩
  go_wp2
  go_ret
  exact ⟨u, rfl, ho, hb⟩
/-- A row with a bit turned. -/
def gq (n : Nat) (q : Nat → Int) (a : Int) : Nat → Int := turned (max a (-a) % (n : Int)) q
theorem turned_one (t : Int) (q : Nat → Int) (h : ∀ k, (q k).natAbs ≤ 1) (k : Nat) : (turned t q k).natAbs ≤ 1 := by
  have := h k
  unfold turned
  split <;> omega
set_option maxRecDepth 100000 in
set_option maxHeartbeats 1000000 in
theorem garble_sr (v : Value) (n : Nat) (q : Nat → Int) (a : Int) (P : List Nat) (w : World) (h : Row w P v n q q) (hP : ∀ i ∈ P, i < w.heap.size) (ha : -1000 ≤ a ∧ a ≤ 1000) :
    Calls Tryz.prog 188 #[v, .int .i64 a] w fun e w' => ∃ u, e = .returned u ∧ Row w' P u n (gq n q a) (gq n q a) ∧ Below w.heap.size w w' := by
  have H := Lib.hid h
  obtain ⟨A, c, rfl, n1, n2, hs⟩ := h.sees
  have h4 := h.n4
  have h1 := h.one
  clear h
  by_cases h0 : n = 0
  · subst h0
    go_enter Tryz.func188, Tryz.ntmps188
    go_wp2
    go_ret
    exact ⟨_, rfl, Row.nil _ _ _ _ (fun k => ⟨turned_one _ _ (fun k => (h1 k).1) k, turned_one _ _ (fun k => (h1 k).1) k⟩), Below.refl _ _⟩
  · have q0 : ((n : Int) == 0) = false := by rw [beq_eq_false_iff_ne]; omega
    have q1 : ¬ (n : Int) = 0 := by omega
    have z1 : IntKind.i64.wrap (-a) = -a := IntWalk.i64_in _ (by omega)
    have z2 : Int.tmod (max a (-a)) (n : Int) = max a (-a) % (n : Int) := Int.tmod_eq_emod_of_nonneg (by omega)
    have z3 : 0 ≤ max a (-a) % (n : Int) ∧ max a (-a) % (n : Int) < n := ⟨Int.emod_nonneg _ q1, Int.emod_lt_of_pos _ (by omega)⟩
    have hT : ∀ X, X = max a (-a) → Hid (Calls Tryz.prog 198 #[.slice A n c, .int .i64 (X % (n : Int))] w fun e w' => ∃ v, e = .returned v ∧ Owns w' w.heap.size 239 v n (fun k => cx (gq n q a k) (gq n q a k)) ∧ Below w.heap.size w w') := by
      rintro X rfl
      exact Lib.hid (turn_any A n c q q (max a (-a) % (n : Int)) w hs (fun k _ => by have := (h1 k).1; omega) (fun k _ => by have := (h1 k).1; omega) (by omega) (by omega))
    have HP := Lib.hid hP
    have H1 := Lib.hid h1
    clear hs h1 hP
    go_enter Tryz.func188, Tryz.ntmps188
    go_wp2_with fail
    all_goals
      refine (hT _ (by omega)).out.mono ?_
      rintro e w1 ⟨u, rfl, ho, hb⟩
      go_wp2
      go_ret
      exact ⟨u, rfl, Row.ofOwns ho HP.out h4 (fun k => ⟨turned_one _ _ (fun k => (H1.out k).1) k, turned_one _ _ (fun k => (H1.out k).1) k⟩), hb⟩
/-- A row in channel i alone. -/
theorem gate_sr (v : Value) (n : Nat) (q : Nat → Int) (i : Nat) (P : List Nat) (w : World) (h : Row w P v n q q) (hP : ∀ i ∈ P, i < w.heap.size) :
    Calls Tryz.prog 179 #[v, .int .i64 (i : Nat)] w fun e w' => ∃ u, e = .returned u ∧ Row w' P u n (fun k => pf (decide (i = 0)) (q k)) (fun k => pf (decide (i = 1)) (q k)) ∧ Below w.heap.size w w' := by
  obtain ⟨A, c, rfl, n1, n2, hs⟩ := h.sees
  have h4 := h.n4
  have H1 := Lib.hid h.one
  have hG := Lib.hid (gate_any A n c q q (decide (i = 0)) (decide (i = 1)) w hs (by omega))
  have q0 : ((i : Int) == 0) = decide (i = 0) := by rw [Bool.eq_iff_iff]; simp
  have q1 : ((i : Int) == 1) = decide (i = 1) := by rw [Bool.eq_iff_iff]; simp; omega
  clear hs h
  generalize decide (i = 0) = x at *
  generalize decide (i = 1) = y at *
  go_enter Tryz.func179, Tryz.ntmps179
  go_wp2_with fail
  refine hG.out.mono ?_
  rintro e w1 ⟨u, rfl, ho, hb⟩
  go_wp2
  go_ret
  refine ⟨u, rfl, Row.ofOwns ho hP h4 (fun k => ?_), hb⟩
  have := H1.out k
  unfold pf
  cases x <;> cases y <;> simp [this]
/-- A sender. -/
structure Sd where
  n : Nat
  q : Nat → Int
  at_ : Int
  df : Bool
/-- Their cells. -/
def c3 : List (Value × Sd) → List Value
  | [] => []
  | (v, s) :: l => v :: .int .i64 s.at_ :: .bool s.df :: c3 l
theorem c3_get : ∀ (l : List (Value × Sd)) (k : Nat) (x : Value × Sd), l[k]? = some x → (c3 l)[k * 3]? = some x.1 ∧ (c3 l)[k * 3 + 1]? = some (.int .i64 x.2.at_) ∧ (c3 l)[k * 3 + 2]? = some (.bool x.2.df)
  | [], k, x, h => by simp at h
  | (v, s) :: l, 0, x, h => by simp at h; subst h; exact ⟨rfl, rfl, rfl⟩
  | (v, s) :: l, k + 1, x, h => by
    have := c3_get l k x (by simpa using h)
    rw [show (k + 1) * 3 = k * 3 + 3 by omega]
    exact this
theorem c3_set : ∀ (l : List (Value × Sd)) (k : Nat) (x y : Value × Sd), l[k]? = some y → (((c3 l).set (k * 3) x.1).set (k * 3 + 1) (.int .i64 x.2.at_)).set (k * 3 + 2) (.bool x.2.df) = c3 (l.set k x)
  | [], k, x, y, h => by simp at h
  | (v, s) :: l, 0, x, y, h => rfl
  | (v, s) :: l, k + 1, x, y, h => by
    have := c3_set l k x y (by simpa using h)
    rw [show (k + 1) * 3 = k * 3 + 3 by omega]
    simp only [c3, List.set_cons_succ, List.set]
    exact congrArg (fun z => v :: Value.int .i64 s.at_ :: Value.bool s.df :: z) this
theorem c3_v : ∀ (l : List (Value × Sd)) (k : Nat) (u v : Value) (s t : Sd), l[k]? = some (v, s) → t.at_ = s.at_ → t.df = s.df → (c3 l).set (k * 3) u = c3 (l.set k (u, t))
  | [], k, u, v, s, t, h, _, _ => by simp at h
  | (v', s') :: l, 0, u, v, s, t, h, h1, h2 => by simp at h; obtain ⟨rfl, rfl⟩ := h; simp [c3, h1, h2]
  | (v', s') :: l, k + 1, u, v, s, t, h, h1, h2 => by
    have := c3_v l k u v s t (by simpa using h) h1 h2
    rw [show (k + 1) * 3 = k * 3 + 3 by omega]
    simp only [c3, List.set_cons_succ, List.set]
    exact congrArg (fun z => v' :: Value.int .i64 s'.at_ :: Value.bool s'.df :: z) this
theorem c3_a : ∀ (l : List (Value × Sd)) (k : Nat) (v : Value) (s t : Sd), l[k]? = some (v, s) → t.df = s.df → (c3 l).set (k * 3 + 1) (.int .i64 t.at_) = c3 (l.set k (v, t))
  | [], k, v, s, t, h, _ => by simp at h
  | (v', s') :: l, 0, v, s, t, h, h1 => by simp at h; obtain ⟨rfl, rfl⟩ := h; simp [c3, h1]
  | (v', s') :: l, k + 1, v, s, t, h, h1 => by
    have := c3_a l k v s t (by simpa using h) h1
    rw [show (k + 1) * 3 + 1 = k * 3 + 1 + 3 by omega]
    simp only [c3, List.set_cons_succ, List.set]
    exact congrArg (fun z => v' :: Value.int .i64 s'.at_ :: Value.bool s'.df :: z) this
theorem c3_d : ∀ (l : List (Value × Sd)) (k : Nat) (v : Value) (s t : Sd), l[k]? = some (v, s) → t.at_ = s.at_ → (c3 l).set (k * 3 + 2) (.bool t.df) = c3 (l.set k (v, t))
  | [], k, v, s, t, h, _ => by simp at h
  | (v', s') :: l, 0, v, s, t, h, h1 => by simp at h; obtain ⟨rfl, rfl⟩ := h; simp [c3, h1]
  | (v', s') :: l, k + 1, v, s, t, h, h1 => by
    have := c3_d l k v s t (by simpa using h) h1
    rw [show (k + 1) * 3 + 2 = k * 3 + 2 + 3 by omega]
    simp only [c3, List.set_cons_succ, List.set]
    exact congrArg (fun z => v' :: Value.int .i64 s'.at_ :: Value.bool s'.df :: z) this
/-- Senders in memory: block b, their rows in none of the blocks of P. -/
structure SdAt (W : World) (P : List Nat) (b : Nat) (l : List (Value × Sd)) : Prop where
  blk : Blk W b (c3 l).toArray 229
  row : ∀ x ∈ l, Row W P x.1 x.2.n x.2.q x.2.q
  mem : b ∈ P
theorem SdAt.lt {W : World} {P : List Nat} {b : Nat} {l : List (Value × Sd)} (h : SdAt W P b l) : b < W.heap.size := h.blk.lt
theorem SdAt.cells {W : World} {P : List Nat} {b : Nat} {l : List (Value × Sd)} (h : SdAt W P b l) {k : Nat} {v : Value} {s : Sd} (hk : l[k]? = some (v, s)) : W.cell? ⟨b, k * 3, none⟩ = some v ∧ W.cell? ⟨b, k * 3 + 1, none⟩ = some (.int .i64 s.at_) ∧ W.cell? ⟨b, k * 3 + 2, none⟩ = some (.bool s.df) := by
  obtain ⟨h0, h1, h2⟩ := c3_get l k _ hk
  exact ⟨h.blk.cell (k * 3) (by simpa using h0), h.blk.cell (k * 3 + 1) (by simpa using h1), h.blk.cell (k * 3 + 2) (by simpa using h2)⟩
/-- Where other blocks of the call's own turn. -/
theorem SdAt.kp {W W' : World} {P : List Nat} {b : Nat} {l : List (Value × Sd)} (h : SdAt W P b l) (k : Kw P W W') (hb : W'.heap[b]? = W.heap[b]?) : SdAt W' P b l := ⟨hb.trans h.blk, fun x hx => (h.row x hx).kp k, h.mem⟩
theorem SdAt.below {W W' : World} {P : List Nat} {b : Nat} {l : List (Value × Sd)} (h : SdAt W P b l) (k : Below W.heap.size W W') : SdAt W' P b l := h.kp (Kw.ofBelow P k) (k.block b h.lt)
theorem SdAt.drew {W : World} {P : List Nat} {b : Nat} {l : List (Value × Sd)} (h : SdAt W P b l) : SdAt W.drew P b l := h.below ((Below.refl _ _).drew)
theorem SdAt.drewN {W : World} {P : List Nat} {b : Nat} {l : List (Value × Sd)} (h : SdAt W P b l) (n : Nat) : SdAt (W.drewN n) P b l := h.below (below_drewN (Below.refl _ W) n)
theorem mem_set_of {α : Type} {l : List α} {k : Nat} {x y : α} (h : y ∈ l.set k x) : y = x ∨ y ∈ l := by
  rcases List.mem_or_eq_of_mem_set h with h | h
  · exact .inr h
  · exact .inl h
theorem SdAt.v_ {W : World} {P : List Nat} {b : Nat} {l : List (Value × Sd)} (h : SdAt W P b l) {k : Nat} {u v : Value} {s t : Sd} (hk : l[k]? = some (v, s)) (h1 : t.at_ = s.at_) (h2 : t.df = s.df) (hr : Row W P u t.n t.q t.q) :
    SdAt (W.setCell ⟨b, k * 3, none⟩ u) P b (l.set k (u, t)) := ⟨(h.blk.set (k * 3) u).eq (by rw [List.setIfInBounds_toArray, c3_v l k u v s t hk h1 h2]), fun x hx => by
  have kp := (Kw.refl P W).set ⟨b, k * 3, none⟩ h.mem u
  rcases mem_set_of hx with rfl | hx
  · exact hr.kp kp
  · exact (h.row x hx).kp kp, h.mem⟩
theorem SdAt.a_ {W : World} {P : List Nat} {b : Nat} {l : List (Value × Sd)} (h : SdAt W P b l) {k : Nat} {v : Value} {s : Sd} (hk : l[k]? = some (v, s)) (a : Int) :
    SdAt (W.setCell ⟨b, k * 3 + 1, none⟩ (.int .i64 a)) P b (l.set k (v, { s with at_ := a })) := ⟨(h.blk.set (k * 3 + 1) (.int .i64 a)).eq (by rw [List.setIfInBounds_toArray, ← c3_a l k v s { s with at_ := a } hk rfl]), fun x hx => by
  have kp := (Kw.refl P W).set ⟨b, k * 3 + 1, none⟩ h.mem (.int .i64 a)
  rcases mem_set_of hx with rfl | hx
  · exact (h.row _ (List.mem_of_getElem? hk)).kp kp
  · exact (h.row x hx).kp kp, h.mem⟩
theorem SdAt.d_ {W : World} {P : List Nat} {b : Nat} {l : List (Value × Sd)} (h : SdAt W P b l) {k : Nat} {v : Value} {s : Sd} (hk : l[k]? = some (v, s)) (a : Bool) :
    SdAt (W.setCell ⟨b, k * 3 + 2, none⟩ (.bool a)) P b (l.set k (v, { s with df := a })) := ⟨(h.blk.set (k * 3 + 2) (.bool a)).eq (by rw [List.setIfInBounds_toArray, ← c3_d l k v s { s with df := a } hk rfl]), fun x hx => by
  have kp := (Kw.refl P W).set ⟨b, k * 3 + 2, none⟩ h.mem (.bool a)
  rcases mem_set_of hx with rfl | hx
  · exact (h.row _ (List.mem_of_getElem? hk)).kp kp
  · exact (h.row x hx).kp kp, h.mem⟩
/-- All three cells of one at once. -/
theorem SdAt.all {W : World} {P : List Nat} {b : Nat} {l : List (Value × Sd)} (h : SdAt W P b l) {k : Nat} {u v : Value} {s t : Sd} (hk : l[k]? = some (v, s)) (hr : Row W P u t.n t.q t.q) :
    SdAt (((W.setCell ⟨b, k * 3, none⟩ u).setCell ⟨b, k * 3 + 1, none⟩ (.int .i64 t.at_)).setCell ⟨b, k * 3 + 2, none⟩ (.bool t.df)) P b (l.set k (u, t)) := ⟨(((h.blk.set (k * 3) u).set (k * 3 + 1) (.int .i64 t.at_)).set (k * 3 + 2) (.bool t.df)).eq (by rw [List.setIfInBounds_toArray, List.setIfInBounds_toArray, List.setIfInBounds_toArray, c3_set l k (u, t) _ hk]), fun x hx => by
  have kp := (((Kw.refl P W).set ⟨b, k * 3, none⟩ h.mem u).set ⟨b, k * 3 + 1, none⟩ h.mem (.int .i64 t.at_)).set ⟨b, k * 3 + 2, none⟩ h.mem (.bool t.df)
  rcases mem_set_of hx with rfl | hx
  · exact hr.kp kp
  · exact (h.row x hx).kp kp, h.mem⟩
end Go.Proofs.YtpdenmcacaajkaaGreat

/-! ### SrC -/
namespace Go.Proofs.YtpdenmcacaajkaaGreat
open Go.RowKit

/-- A sender that a fault strikes. -/
def Sd.strike (f : Ft) (s : Sd) : Sd :=
  if f.k = 1 then { s with n := 0 }
  else if f.k = 2 then { s with q := gq s.n s.q f.a }
  else if f.k = 3 then { s with df := true }
  else if f.k = 5 then { s with n := rn f.d, q := rq f.d, at_ := s.at_ + f.a }
  else if f.k = 6 then { s with at_ := s.at_ + f.a }
  else s
def wide (x : Int) : Prop := -2305843009213693952 ≤ x ∧ x ≤ 2305843009213693952
theorem list_set_get {α : Type} (l : List α) (k : Nat) (x y : α) (h : l[k]? = some y) : (l.set k x)[k]? = some x := by
  rw [List.getElem?_set_self (List.getElem?_eq_some_iff.1 h).1]
def ftV (f : Ft) (v : Value) : Value := .agg #[.int .i64 f.k, .int .i64 f.n, .int .i64 f.a, v]

set_option maxRecDepth 100000 in
set_option maxHeartbeats 4000000 in
theorem strike_1 (b : Nat) (k : Nat) (l : List (Value × Sd)) (v dv : Value) (s : Sd) (n a : Int) (P : List Nat) (w : World) (h : SdAt w P b l) (hk : l[k]? = some (v, s)) :
    Calls Tryz.prog 175 #[.pointer (some ⟨b, k * 3, none⟩), .agg #[.int .i64 1, .int .i64 n, .int .i64 a, dv]] w fun e w' => ∃ u, e = .returned (.tuple #[]) ∧ SdAt w' P b (l.set k (u, { s with n := 0 })) ∧ Only b w w' := by
  have hb0 := (Below.refl w.heap.size w).alloc (Nat.le_refl _) (.cells #[.int .i64 1, .int .i64 n, .int .i64 a, dv] 206)
  have hX := Blk.new w _ rfl #[.int .i64 1, .int .i64 n, .int .i64 a, dv] 206
  have x0 := hX.cell 0 (x := .int .i64 1) rfl
  have H := h.below hb0
  have hO := Lib.hid (only_of_below b hb0)
  obtain ⟨y0, -, -⟩ := H.cells hk
  have f0 := H.blk.frozen (k * 3)
  have HH := Lib.hid (H.v_ (t := { s with n := 0 }) hk rfl rfl (Row.nil _ P _ _ (h.row _ (List.mem_of_getElem? hk)).one))
  clear hX h H
  go_enter Tryz.func175, Tryz.ntmps175
  go_wp2
  first
    | exact bodyPost_end (results_none (by rfl) _ _ _) rfl ⟨_, rfl, HH.out, hO.out.set _ _⟩
    | exact bodyPost_ret (results_none (by rfl) _ _ _) rfl ⟨_, rfl, HH.out, hO.out.set _ _⟩
set_option maxRecDepth 100000 in
set_option maxHeartbeats 4000000 in
theorem strike_3 (b : Nat) (k : Nat) (l : List (Value × Sd)) (v dv : Value) (s : Sd) (n a : Int) (P : List Nat) (w : World) (h : SdAt w P b l) (hk : l[k]? = some (v, s)) :
    Calls Tryz.prog 175 #[.pointer (some ⟨b, k * 3, none⟩), .agg #[.int .i64 3, .int .i64 n, .int .i64 a, dv]] w fun e w' => ∃ u, e = .returned (.tuple #[]) ∧ SdAt w' P b (l.set k (u, { s with df := true })) ∧ Only b w w' := by
  have hb0 := (Below.refl w.heap.size w).alloc (Nat.le_refl _) (.cells #[.int .i64 3, .int .i64 n, .int .i64 a, dv] 206)
  have hX := Blk.new w _ rfl #[.int .i64 3, .int .i64 n, .int .i64 a, dv] 206
  have x0 := hX.cell 0 (x := .int .i64 3) rfl
  have H := h.below hb0
  have hO := Lib.hid (only_of_below b hb0)
  obtain ⟨-, -, y0⟩ := H.cells hk
  have f0 := H.blk.frozen (k * 3 + 2)
  have HH := Lib.hid (H.d_ hk true)
  clear hX h H
  go_enter Tryz.func175, Tryz.ntmps175
  go_wp2
  first
    | exact bodyPost_end (results_none (by rfl) _ _ _) rfl ⟨_, rfl, HH.out, hO.out.set _ _⟩
    | exact bodyPost_ret (results_none (by rfl) _ _ _) rfl ⟨_, rfl, HH.out, hO.out.set _ _⟩
set_option maxRecDepth 100000 in
set_option maxHeartbeats 4000000 in
theorem strike_6 (b : Nat) (k : Nat) (l : List (Value × Sd)) (v dv : Value) (s : Sd) (n a : Int) (P : List Nat) (w : World) (h : SdAt w P b l) (hk : l[k]? = some (v, s)) (ha : -1000 ≤ a ∧ a ≤ 1000) (hs : wide s.at_) :
    Calls Tryz.prog 175 #[.pointer (some ⟨b, k * 3, none⟩), .agg #[.int .i64 6, .int .i64 n, .int .i64 a, dv]] w fun e w' => ∃ u, e = .returned (.tuple #[]) ∧ SdAt w' P b (l.set k (u, { s with at_ := s.at_ + a })) ∧ Only b w w' := by
  have hb0 := (Below.refl w.heap.size w).alloc (Nat.le_refl _) (.cells #[.int .i64 6, .int .i64 n, .int .i64 a, dv] 206)
  have hX := Blk.new w _ rfl #[.int .i64 6, .int .i64 n, .int .i64 a, dv] 206
  have x0 := hX.cell 0 (x := .int .i64 6) rfl
  have x2 := hX.cell 2 (x := .int .i64 a) rfl
  have H := h.below hb0
  have hO := Lib.hid (only_of_below b hb0)
  obtain ⟨-, y0, -⟩ := H.cells hk
  have f0 := H.blk.frozen (k * 3 + 1)
  have z1 : IntKind.i64.wrap (s.at_ + a) = s.at_ + a := IntWalk.i64_in _ (by unfold wide at hs; omega)
  have HH := Lib.hid (H.a_ hk (s.at_ + a))
  clear hX h H
  go_enter Tryz.func175, Tryz.ntmps175
  go_wp2
  go_region
  go_wp2
  first
    | exact bodyPost_end (results_none (by rfl) _ _ _) rfl ⟨_, rfl, HH.out.drew, (hO.out.set _ _).drew⟩
    | exact bodyPost_ret (results_none (by rfl) _ _ _) rfl ⟨_, rfl, HH.out.drew, (hO.out.set _ _).drew⟩
set_option maxRecDepth 100000 in
set_option maxHeartbeats 4000000 in
theorem strike_2 (b : Nat) (k : Nat) (l : List (Value × Sd)) (v dv : Value) (s : Sd) (n a : Int) (P : List Nat) (w : World) (h : SdAt w P b l) (hk : l[k]? = some (v, s)) (ha : -1000 ≤ a ∧ a ≤ 1000) (hP : ∀ i ∈ P, i < w.heap.size) :
    Calls Tryz.prog 175 #[.pointer (some ⟨b, k * 3, none⟩), .agg #[.int .i64 2, .int .i64 n, .int .i64 a, dv]] w fun e w' => ∃ u, e = .returned (.tuple #[]) ∧ SdAt w' P b (l.set k (u, { s with q := gq s.n s.q a })) ∧ Only b w w' := by
  have hb0 := (Below.refl w.heap.size w).alloc (Nat.le_refl _) (.cells #[.int .i64 2, .int .i64 n, .int .i64 a, dv] 206)
  have hX := Blk.new w _ rfl #[.int .i64 2, .int .i64 n, .int .i64 a, dv] 206
  have x0 := hX.cell 0 (x := .int .i64 2) rfl
  have x2 := hX.cell 2 (x := .int .i64 a) rfl
  have H := h.below hb0
  obtain ⟨y0, -, -⟩ := H.cells hk
  have HX : Hid (∀ W, Below (w.heap.size + 1) (w.alloc (.cells #[.int .i64 2, .int .i64 n, .int .i64 a, dv] 206)) W → W.cell? ⟨w.heap.size, 2, none⟩ = some (.int .i64 a) ∧ W.cell? ⟨b, k * 3, none⟩ = some v ∧ W.frozen? ⟨b, k * 3, none⟩ = false ∧ SdAt W P b l ∧ Only b w W) := Lib.hid fun W hW => by
    have H2 := H.below (hW.mono (by simp))
    exact ⟨(hX.below hW (by omega)).cell 2 rfl, (H2.cells hk).1, H2.blk.frozen _, H2, only_of_below b (hb0.trans (hW.mono (by omega)))⟩
  have hG := fun W (hW : Below (w.heap.size + 1) (w.alloc (.cells #[.int .i64 2, .int .i64 n, .int .i64 a, dv] 206)) W) => Lib.hid (garble_sr v s.n s.q a P W ((H.row _ (List.mem_of_getElem? hk)).kp (Kw.ofBelow P (hW.mono (by simp)))) (fun i hi => by have := hP i hi; have := hW.size; simp at this; omega) ha)
  have f0 := H.blk.frozen (k * 3)
  have hz : (w.alloc (.cells #[.int .i64 2, .int .i64 n, .int .i64 a, dv] 206)).heap.size = w.heap.size + 1 := by simp
  have hB := Below.refl (w.heap.size + 1) (w.alloc (.cells #[.int .i64 2, .int .i64 n, .int .i64 a, dv] 206))
  clear hX h H hb0
  go_enter Tryz.func175, Tryz.ntmps175
  go_wp2_with fail
  generalize hW0 : w.alloc (.cells #[.int .i64 2, .int .i64 n, .int .i64 a, dv] 206) = w0 at *
  clear hW0
  go_region_with (first
    | (go_at_call 188; refine (hG w0.drew hB.drew).out.mono ?_; rintro e w2 ⟨u, rfl, hr2, hb2⟩; obtain ⟨A2, d2, rfl, -, -, -⟩ := hr2.sees; obtain ⟨y2, y0, f0, H2, O2⟩ := HX.out w2 (hB.drew.trans (hb2.mono (Nat.le_of_eq hz.symm))))
    | fail)
  all_goals
    have HH := Lib.hid (H2.v_ (t := { s with q := gq s.n s.q a }) hk rfl rfl hr2)
    have O2 := Lib.hid O2
    clear H2 hr2 HX hG
    go_wp2
    exact bodyPost_end (results_none (by rfl) _ _ _) rfl ⟨_, rfl, HH.out, O2.out.set _ _⟩
set_option maxRecDepth 100000 in
set_option maxHeartbeats 4000000 in
theorem strike_5 (b : Nat) (k : Nat) (l : List (Value × Sd)) (v dv : Value) (s : Sd) (n a : Int) (d : List Int) (P : List Nat) (w : World) (h : SdAt w P b l) (hk : l[k]? = some (v, s)) (ha : -1000 ≤ a ∧ a ≤ 1000) (hs : wide s.at_) (hP : ∀ i ∈ P, i < w.heap.size) (hd : SeesL w w.heap.size dv d) (hy : bytesL d) :
    Calls Tryz.prog 175 #[.pointer (some ⟨b, k * 3, none⟩), .agg #[.int .i64 5, .int .i64 n, .int .i64 a, dv]] w fun e w' => ∃ u, e = .returned (.tuple #[]) ∧ SdAt w' P b (l.set k (u, { s with n := rn d, q := rq d, at_ := s.at_ + a })) ∧ Only b w w' := by
  have hb0 := (Below.refl w.heap.size w).alloc (Nat.le_refl _) (.cells #[.int .i64 5, .int .i64 n, .int .i64 a, dv] 206)
  have hX := Blk.new w _ rfl #[.int .i64 5, .int .i64 n, .int .i64 a, dv] 206
  have x0 := hX.cell 0 (x := .int .i64 5) rfl
  have x2 := hX.cell 2 (x := .int .i64 a) rfl
  obtain ⟨Ad, cd, rfl, -⟩ := hd.at_
  have x3 := hX.cell 3 (x := .slice Ad d.length cd) rfl
  have H := h.below hb0
  have hz : (w.alloc (.cells #[.int .i64 5, .int .i64 n, .int .i64 a, .slice Ad d.length cd] 206)).heap.size = w.heap.size + 1 := by simp
  have hD := Lib.hid (drive_sr _ d _ ((hd.below hb0).more (by rw [hz]; omega)) hy)
  have z1 : IntKind.i64.wrap (s.at_ + a) = s.at_ + a := IntWalk.i64_in _ (by unfold wide at hs; omega)
  go_enter Tryz.func175, Tryz.ntmps175
  go_wp2_with fail
  generalize hW0 : w.alloc (.cells #[.int .i64 5, .int .i64 n, .int .i64 a, .slice Ad d.length cd] 206) = w0 at *
  clear hW0
  refine hD.out.mono ?_
  rintro e w2 ⟨u, rfl, ho, hb2⟩
  have hr : Row w2 P u (rn d) (rq d) (rq d) := Row.ofOwns ho (fun i hi => by have := hP i hi; omega) (rn_le d) (fun k => ⟨rq_one d k, rq_one d k⟩)
  have H2 := H.below hb2
  have hX2 := hX.below hb2 (by rw [hz]; omega)
  have O2 := only_of_below b (hb0.trans (hb2.mono (by rw [hz]; omega)))
  obtain ⟨y0, y1, y2⟩ := H2.cells hk
  have f0 := H2.blk.frozen (k * 3)
  have H3 := H2.v_ (t := { s with n := rn d, q := rq d }) hk rfl rfl hr
  obtain ⟨A2, d2, rfl, -, -, -⟩ := hr.sees
  have hkl := list_set_get l k (Value.slice A2 (rn d) d2, ({ s with n := rn d, q := rq d } : Sd)) _ hk
  have HH := Lib.hid (H3.a_ hkl (s.at_ + a))
  obtain ⟨-, y3, -⟩ := H3.cells hkl
  have f3 := H3.blk.frozen (k * 3 + 1)
  have hne : b ≠ w.heap.size := by have := h.lt; omega
  have hX3 := hX2.other ⟨b, k * 3, none⟩ (by show w.heap.size ≠ b; omega) (Value.slice A2 (rn d) d2)
  have x2' := hX3.cell 2 (x := .int .i64 a) rfl
  have O3 := Lib.hid (O2.set (k * 3) (Value.slice A2 (rn d) d2))
  have hS : Hid ((l.set k (Value.slice A2 (rn d) d2, ({ s with n := rn d, q := rq d } : Sd))).set k (Value.slice A2 (rn d) d2, ({ s with n := rn d, q := rq d, at_ := s.at_ + a } : Sd)) = l.set k (Value.slice A2 (rn d) d2, ({ s with n := rn d, q := rq d, at_ := s.at_ + a } : Sd))) := Lib.hid (by simp)
  clear h H H2 H3 hX hX2 hX3 hr ho hb2 O2 hD hkl hd hb0
  go_wp2_with fail
  go_region
  go_wp2
  exact bodyPost_end (results_none (by rfl) _ _ _) rfl ⟨_, rfl, by rw [← hS.out]; exact HH.out.drew, (O3.out.set _ _).drew⟩
/-- What a sender's strike does. -/
theorem strike_sd (b : Nat) (k : Nat) (l : List (Value × Sd)) (v dv : Value) (s : Sd) (f : Ft) (P : List Nat) (w : World) (h : SdAt w P b l) (hk : l[k]? = some (v, s)) (ha : -1000 ≤ f.a ∧ f.a ≤ 1000) (hs : wide s.at_) (hP : ∀ i ∈ P, i < w.heap.size) (hd : SeesL w w.heap.size dv f.d) (hy : bytesL f.d)
    (hf : f.k = 1 ∨ f.k = 2 ∨ f.k = 3 ∨ f.k = 5 ∨ f.k = 6) :
    Calls Tryz.prog 175 #[.pointer (some ⟨b, k * 3, none⟩), ftV f dv] w fun e w' => ∃ u, e = .returned (.tuple #[]) ∧ SdAt w' P b (l.set k (u, s.strike f)) ∧ Only b w w' := by
  obtain ⟨fk, fn, fa, fd⟩ := f
  unfold ftV Sd.strike
  simp only at *
  rcases hf with rfl | rfl | rfl | rfl | rfl
  · simpa using strike_1 b k l v dv s fn fa P w h hk
  · simpa using strike_2 b k l v dv s fn fa P w h hk ha hP
  · simpa using strike_3 b k l v dv s fn fa P w h hk
  · simpa using strike_5 b k l v dv s fn fa fd P w h hk ha hs hP hd hy
  · simpa using strike_6 b k l v dv s fn fa P w h hk ha hs
end Go.Proofs.YtpdenmcacaajkaaGreat
