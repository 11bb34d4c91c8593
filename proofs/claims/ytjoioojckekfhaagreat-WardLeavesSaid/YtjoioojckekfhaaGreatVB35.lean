/- Texts SrC, SrD in one. For what each says in front of its theorems. -/
import Derived.Test.YtjoioojckekfhaaGreatVB34
/-! ### SrC -/
namespace Go.Proofs.YtjoioojckekfhaaGreat
open Go.RowKit

/-- A sender that a fault strikes. -/
def Sd.strike (f : Ft) (s : Sd) : Sd :=
  if f.k = 1 then { s with n := 0 }
  else if f.k = 2 then { s with q := gq s.n s.q f.a }
  else if f.k = 3 then { s with df := true }
  else if f.k = 5 then { s with n := rn f.d, q := rq f.d, at_ := s.at_ + f.a }
  else if f.k = 6 then { s with at_ := s.at_ + f.a }
  else s
def wide (x : Int) : Prop := -2305843009213693952 ≤ x ∧ x ≤ 2305843009213693952
theorem list_set_same {α : Type} : ∀ (l : List α) (k : Nat) (x : α), l[k]? = some x → l.set k x = l
  | [], _, _, h => by simp at h
  | y :: l, 0, x, h => by simp at h; subst h; rfl
  | y :: l, k + 1, x, h => by simp only [List.set]; rw [list_set_same l k x (by simpa using h)]
theorem list_set_get {α : Type} (l : List α) (k : Nat) (x y : α) (h : l[k]? = some y) : (l.set k x)[k]? = some x := by
  rw [List.getElem?_set_self (List.getElem?_eq_some_iff.1 h).1]
def ftV (f : Ft) (v : Value) : Value := .agg #[.int .i64 f.k, .int .i64 f.n, .int .i64 f.a, v]

set_option maxRecDepth 100000 in
set_option maxHeartbeats 4000000 in
theorem strike_1 (b : Nat) (k : Nat) (l : List (Value × Sd)) (v dv : Value) (s : Sd) (n a : Int) (P : List Nat) (w : World) (h : SdAt w P b l) (hk : l[k]? = some (v, s)) :
    Calls Tryz.prog 104 #[.pointer (some ⟨b, k * 3, none⟩), .agg #[.int .i64 1, .int .i64 n, .int .i64 a, dv]] w fun e w' => ∃ u, e = .returned (.tuple #[]) ∧ SdAt w' P b (l.set k (u, { s with n := 0 })) ∧ Only b w w' := by
  have hb0 := (Below.refl w.heap.size w).alloc (Nat.le_refl _) (.cells #[.int .i64 1, .int .i64 n, .int .i64 a, dv] 81)
  have hX := Blk.new w _ rfl #[.int .i64 1, .int .i64 n, .int .i64 a, dv] 81
  have x0 := hX.cell 0 (x := .int .i64 1) rfl
  have H := h.below hb0
  have hO := Lib.hid (only_of_below b hb0)
  obtain ⟨y0, -, -⟩ := H.cells hk
  have f0 := H.blk.frozen (k * 3)
  have HH := Lib.hid (H.v_ (t := { s with n := 0 }) hk rfl rfl (Row.nil _ P _ _ (h.row _ (List.mem_of_getElem? hk)).one))
  clear hX h H
  go_enter Tryz.func104, Tryz.ntmps104
  go_wp2
  first
    | exact bodyPost_end (results_none (by rfl) _ _ _) rfl ⟨_, rfl, HH.out, hO.out.set _ _⟩
    | exact bodyPost_ret (results_none (by rfl) _ _ _) rfl ⟨_, rfl, HH.out, hO.out.set _ _⟩
set_option maxRecDepth 100000 in
set_option maxHeartbeats 4000000 in
theorem strike_3 (b : Nat) (k : Nat) (l : List (Value × Sd)) (v dv : Value) (s : Sd) (n a : Int) (P : List Nat) (w : World) (h : SdAt w P b l) (hk : l[k]? = some (v, s)) :
    Calls Tryz.prog 104 #[.pointer (some ⟨b, k * 3, none⟩), .agg #[.int .i64 3, .int .i64 n, .int .i64 a, dv]] w fun e w' => ∃ u, e = .returned (.tuple #[]) ∧ SdAt w' P b (l.set k (u, { s with df := true })) ∧ Only b w w' := by
  have hb0 := (Below.refl w.heap.size w).alloc (Nat.le_refl _) (.cells #[.int .i64 3, .int .i64 n, .int .i64 a, dv] 81)
  have hX := Blk.new w _ rfl #[.int .i64 3, .int .i64 n, .int .i64 a, dv] 81
  have x0 := hX.cell 0 (x := .int .i64 3) rfl
  have H := h.below hb0
  have hO := Lib.hid (only_of_below b hb0)
  obtain ⟨-, -, y0⟩ := H.cells hk
  have f0 := H.blk.frozen (k * 3 + 2)
  have HH := Lib.hid (H.d_ hk true)
  clear hX h H
  go_enter Tryz.func104, Tryz.ntmps104
  go_wp2
  first
    | exact bodyPost_end (results_none (by rfl) _ _ _) rfl ⟨_, rfl, HH.out, hO.out.set _ _⟩
    | exact bodyPost_ret (results_none (by rfl) _ _ _) rfl ⟨_, rfl, HH.out, hO.out.set _ _⟩
set_option maxRecDepth 100000 in
set_option maxHeartbeats 4000000 in
theorem strike_6 (b : Nat) (k : Nat) (l : List (Value × Sd)) (v dv : Value) (s : Sd) (n a : Int) (P : List Nat) (w : World) (h : SdAt w P b l) (hk : l[k]? = some (v, s)) (ha : -1000 ≤ a ∧ a ≤ 1000) (hs : wide s.at_) :
    Calls Tryz.prog 104 #[.pointer (some ⟨b, k * 3, none⟩), .agg #[.int .i64 6, .int .i64 n, .int .i64 a, dv]] w fun e w' => ∃ u, e = .returned (.tuple #[]) ∧ SdAt w' P b (l.set k (u, { s with at_ := s.at_ + a })) ∧ Only b w w' := by
  have hb0 := (Below.refl w.heap.size w).alloc (Nat.le_refl _) (.cells #[.int .i64 6, .int .i64 n, .int .i64 a, dv] 81)
  have hX := Blk.new w _ rfl #[.int .i64 6, .int .i64 n, .int .i64 a, dv] 81
  have x0 := hX.cell 0 (x := .int .i64 6) rfl
  have x2 := hX.cell 2 (x := .int .i64 a) rfl
  have H := h.below hb0
  have hO := Lib.hid (only_of_below b hb0)
  obtain ⟨-, y0, -⟩ := H.cells hk
  have f0 := H.blk.frozen (k * 3 + 1)
  have z1 : IntKind.i64.wrap (s.at_ + a) = s.at_ + a := IntWalk.i64_in _ (by unfold wide at hs; omega)
  have HH := Lib.hid (H.a_ hk (s.at_ + a))
  clear hX h H
  go_enter Tryz.func104, Tryz.ntmps104
  go_wp2
  go_region
  go_wp2
  first
    | exact bodyPost_end (results_none (by rfl) _ _ _) rfl ⟨_, rfl, HH.out.drew, (hO.out.set _ _).drew⟩
    | exact bodyPost_ret (results_none (by rfl) _ _ _) rfl ⟨_, rfl, HH.out.drew, (hO.out.set _ _).drew⟩
set_option maxRecDepth 100000 in
set_option maxHeartbeats 4000000 in
theorem strike_2 (b : Nat) (k : Nat) (l : List (Value × Sd)) (v dv : Value) (s : Sd) (n a : Int) (P : List Nat) (w : World) (h : SdAt w P b l) (hk : l[k]? = some (v, s)) (ha : -1000 ≤ a ∧ a ≤ 1000) (hP : ∀ i ∈ P, i < w.heap.size) :
    Calls Tryz.prog 104 #[.pointer (some ⟨b, k * 3, none⟩), .agg #[.int .i64 2, .int .i64 n, .int .i64 a, dv]] w fun e w' => ∃ u, e = .returned (.tuple #[]) ∧ SdAt w' P b (l.set k (u, { s with q := gq s.n s.q a })) ∧ Only b w w' := by
  have hb0 := (Below.refl w.heap.size w).alloc (Nat.le_refl _) (.cells #[.int .i64 2, .int .i64 n, .int .i64 a, dv] 81)
  have hX := Blk.new w _ rfl #[.int .i64 2, .int .i64 n, .int .i64 a, dv] 81
  have x0 := hX.cell 0 (x := .int .i64 2) rfl
  have x2 := hX.cell 2 (x := .int .i64 a) rfl
  have H := h.below hb0
  obtain ⟨y0, -, -⟩ := H.cells hk
  have HX : Hid (∀ W, Below (w.heap.size + 1) (w.alloc (.cells #[.int .i64 2, .int .i64 n, .int .i64 a, dv] 81)) W → W.cell? ⟨w.heap.size, 2, none⟩ = some (.int .i64 a) ∧ W.cell? ⟨b, k * 3, none⟩ = some v ∧ W.frozen? ⟨b, k * 3, none⟩ = false ∧ SdAt W P b l ∧ Only b w W) := Lib.hid fun W hW => by
    have H2 := H.below (hW.mono (by simp))
    exact ⟨(hX.below hW (by omega)).cell 2 rfl, (H2.cells hk).1, H2.blk.frozen _, H2, only_of_below b (hb0.trans (hW.mono (by omega)))⟩
  have hG := fun W (hW : Below (w.heap.size + 1) (w.alloc (.cells #[.int .i64 2, .int .i64 n, .int .i64 a, dv] 81)) W) => Lib.hid (garble_sr v s.n s.q a P W ((H.row _ (List.mem_of_getElem? hk)).kp (Kw.ofBelow P (hW.mono (by simp)))) (fun i hi => by have := hP i hi; have := hW.size; simp at this; omega) ha)
  have f0 := H.blk.frozen (k * 3)
  have hz : (w.alloc (.cells #[.int .i64 2, .int .i64 n, .int .i64 a, dv] 81)).heap.size = w.heap.size + 1 := by simp
  have hB := Below.refl (w.heap.size + 1) (w.alloc (.cells #[.int .i64 2, .int .i64 n, .int .i64 a, dv] 81))
  clear hX h H hb0
  go_enter Tryz.func104, Tryz.ntmps104
  go_wp2_with fail
  generalize hW0 : w.alloc (.cells #[.int .i64 2, .int .i64 n, .int .i64 a, dv] 81) = w0 at *
  clear hW0
  go_region_with (first
    | (go_at_call 133; refine (hG w0.drew hB.drew).out.mono ?_; rintro e w2 ⟨u, rfl, hr2, hb2⟩; obtain ⟨A2, d2, rfl, -, -, -⟩ := hr2.sees; obtain ⟨y2, y0, f0, H2, O2⟩ := HX.out w2 (hB.drew.trans (hb2.mono (Nat.le_of_eq hz.symm))))
    | fail)
  all_goals
    have HH := Lib.hid (H2.v_ (t := { s with q := gq s.n s.q a }) hk rfl rfl hr2)
    have O2 := Lib.hid O2
    clear H2 hr2 HX hG
    go_wp2
    exact bodyPost_end (results_none (by rfl) _ _ _) rfl ⟨_, rfl, HH.out, O2.out.set _ _⟩
set_option maxRecDepth 100000 in
set_option maxHeartbeats 4000000 in
theorem strike_5 (b : Nat) (k : Nat) (l : List (Value × Sd)) (v dv : Value) (s : Sd) (n a : Int) (d : List Int) (P : List Nat) (w : World) (h : SdAt w P b l) (hk : l[k]? = some (v, s)) (ha : -1000 ≤ a ∧ a ≤ 1000) (hs : wide s.at_) (hP : ∀ i ∈ P, i < w.heap.size) (hd : SeesL w w.heap.size dv d) (hy : bytesL d) :
    Calls Tryz.prog 104 #[.pointer (some ⟨b, k * 3, none⟩), .agg #[.int .i64 5, .int .i64 n, .int .i64 a, dv]] w fun e w' => ∃ u, e = .returned (.tuple #[]) ∧ SdAt w' P b (l.set k (u, { s with n := rn d, q := rq d, at_ := s.at_ + a })) ∧ Only b w w' := by
  have hb0 := (Below.refl w.heap.size w).alloc (Nat.le_refl _) (.cells #[.int .i64 5, .int .i64 n, .int .i64 a, dv] 81)
  have hX := Blk.new w _ rfl #[.int .i64 5, .int .i64 n, .int .i64 a, dv] 81
  have x0 := hX.cell 0 (x := .int .i64 5) rfl
  have x2 := hX.cell 2 (x := .int .i64 a) rfl
  obtain ⟨Ad, cd, rfl, -⟩ := hd.at_
  have x3 := hX.cell 3 (x := .slice Ad d.length cd) rfl
  have H := h.below hb0
  have hz : (w.alloc (.cells #[.int .i64 5, .int .i64 n, .int .i64 a, .slice Ad d.length cd] 81)).heap.size = w.heap.size + 1 := by simp
  have hD := Lib.hid (drive_sr _ d _ ((hd.below hb0).more (by rw [hz]; omega)) hy)
  have z1 : IntKind.i64.wrap (s.at_ + a) = s.at_ + a := IntWalk.i64_in _ (by unfold wide at hs; omega)
  go_enter Tryz.func104, Tryz.ntmps104
  go_wp2_with fail
  generalize hW0 : w.alloc (.cells #[.int .i64 5, .int .i64 n, .int .i64 a, .slice Ad d.length cd] 81) = w0 at *
  clear hW0
  refine hD.out.mono ?_
  rintro e w2 ⟨u, rfl, ho, hb2⟩
  have hr : Row w2 P u (rn d) (rq d) (rq d) := Row.ofOwns ho (fun i hi => by have := hP i hi; omega) (rn_le d) (fun k => ⟨rq_one d k, rq_one d k⟩)
  have H2 := H.below hb2
  have hX2 := hX.below hb2 (by rw [hz]; omega)
  have O2 := only_of_below b (hb0.trans (hb2.mono (by rw [hz]; omega)))
  obtain ⟨y0, y1, y2⟩ := H2.cells hk
  have f0 := H2.blk.frozen (k * 3)
  have H3 := H2.v_ (t := { s with n := rn d, q := rq d }) hk rfl rfl hr
  obtain ⟨A2, d2, rfl, -, -, -⟩ := hr.sees
  have hkl := list_set_get l k (Value.slice A2 (rn d) d2, ({ s with n := rn d, q := rq d } : Sd)) _ hk
  have HH := Lib.hid (H3.a_ hkl (s.at_ + a))
  obtain ⟨-, y3, -⟩ := H3.cells hkl
  have f3 := H3.blk.frozen (k * 3 + 1)
  have hne : b ≠ w.heap.size := by have := h.lt; omega
  have hX3 := hX2.other ⟨b, k * 3, none⟩ (by show w.heap.size ≠ b; omega) (Value.slice A2 (rn d) d2)
  have x2' := hX3.cell 2 (x := .int .i64 a) rfl
  have O3 := Lib.hid (O2.set (k * 3) (Value.slice A2 (rn d) d2))
  have hS : Hid ((l.set k (Value.slice A2 (rn d) d2, ({ s with n := rn d, q := rq d } : Sd))).set k (Value.slice A2 (rn d) d2, ({ s with n := rn d, q := rq d, at_ := s.at_ + a } : Sd)) = l.set k (Value.slice A2 (rn d) d2, ({ s with n := rn d, q := rq d, at_ := s.at_ + a } : Sd))) := Lib.hid (by simp)
  clear h H H2 H3 hX hX2 hX3 hr ho hb2 O2 hD hkl hd hb0
  go_wp2_with fail
  go_region
  go_wp2
  exact bodyPost_end (results_none (by rfl) _ _ _) rfl ⟨_, rfl, by rw [← hS.out]; exact HH.out.drew, (O3.out.set _ _).drew⟩
/-- What a sender's strike does. -/
theorem strike_sd (b : Nat) (k : Nat) (l : List (Value × Sd)) (v dv : Value) (s : Sd) (f : Ft) (P : List Nat) (w : World) (h : SdAt w P b l) (hk : l[k]? = some (v, s)) (ha : -1000 ≤ f.a ∧ f.a ≤ 1000) (hs : wide s.at_) (hP : ∀ i ∈ P, i < w.heap.size) (hd : SeesL w w.heap.size dv f.d) (hy : bytesL f.d)
    (hf : f.k = 1 ∨ f.k = 2 ∨ f.k = 3 ∨ f.k = 5 ∨ f.k = 6) :
    Calls Tryz.prog 104 #[.pointer (some ⟨b, k * 3, none⟩), ftV f dv] w fun e w' => ∃ u, e = .returned (.tuple #[]) ∧ SdAt w' P b (l.set k (u, s.strike f)) ∧ Only b w w' := by
  obtain ⟨fk, fn, fa, fd⟩ := f
  unfold ftV Sd.strike
  simp only at *
  rcases hf with rfl | rfl | rfl | rfl | rfl
  · simpa using strike_1 b k l v dv s fn fa P w h hk
  · simpa using strike_2 b k l v dv s fn fa P w h hk ha hP
  · simpa using strike_3 b k l v dv s fn fa P w h hk
  · simpa using strike_5 b k l v dv s fn fa fd P w h hk ha hs hP hd hy
  · simpa using strike_6 b k l v dv s fn fa P w h hk ha hs
end Go.Proofs.YtjoioojckekfhaaGreat

/-! ### SrD -/
namespace Go.Proofs.YtjoioojckekfhaaGreat
open Go.RowKit

/-- A channel. -/
structure Ch where
  bl : Bool
  lk : Bool
  v : Value
  fr : Int
def xcs (b N : Nat) (c d : Ch) : Array Value := #[.slice (some ⟨b, 0, none⟩) N N, .bool c.bl, .bool c.lk, c.v, .int .i64 c.fr, .bool d.bl, .bool d.lk, d.v, .int .i64 d.fr]
/-- A slot in memory. -/
structure XAt (W : World) (P : List Nat) (x b : Nat) (l : List (Value × Sd)) (c d : Ch) : Prop where
  blk : Blk W x (xcs b l.length c d) 147
  sd : SdAt W P b l
  mem : x ∈ P
  ne : x ≠ b
theorem XAt.below {W W' : World} {P : List Nat} {x b : Nat} {l : List (Value × Sd)} {c d : Ch} (h : XAt W P x b l c d) (k : Below W.heap.size W W') : XAt W' P x b l c d := ⟨h.blk.below k h.blk.lt, h.sd.below k, h.mem, h.ne⟩
theorem XAt.drew {W : World} {P : List Nat} {x b : Nat} {l : List (Value × Sd)} {c d : Ch} (h : XAt W P x b l c d) : XAt W.drew P x b l c d := h.below ((Below.refl _ _).drew)
theorem XAt.drewN {W : World} {P : List Nat} {x b : Nat} {l : List (Value × Sd)} {c d : Ch} (h : XAt W P x b l c d) (n : Nat) : XAt (W.drewN n) P x b l c d := h.below (below_drewN (Below.refl _ _) n)
/-- The slot's own cells turn. -/
theorem XAt.put {W : World} {P : List Nat} {x b : Nat} {l : List (Value × Sd)} {c d c' d' : Ch} (h : XAt W P x b l c d) (i : Nat) (u : Value) (e : (xcs b l.length c d).setIfInBounds i u = xcs b l.length c' d') : XAt (W.setCell ⟨x, i, none⟩ u) P x b l c' d' :=
  ⟨(h.blk.set i u).eq e, h.sd.kp ((Kw.refl P W).set ⟨x, i, none⟩ h.mem u) (Below.heap_setCell W ⟨x, i, none⟩ u b (fun e => h.ne e.symm)), h.mem, h.ne⟩
/-- A sender's cells turn. -/
theorem XAt.only {W W' : World} {P : List Nat} {x b : Nat} {l l' : List (Value × Sd)} {c d : Ch} (h : XAt W P x b l c d) (k : Only b W W') (hs : SdAt W' P b l') (hl : l'.length = l.length) : XAt W' P x b l' c d :=
  ⟨hl ▸ h.blk.only k h.ne, hs, h.mem, h.ne⟩
/-- Senders that a fault strikes. -/
def strikeL (f : Ft) (m : List Sd) : List Sd := if f.k = 4 then m else match m[f.n.toNat]? with
  | some s => m.set f.n.toNat (s.strike f)
  | none => m
theorem strikeL_length (f : Ft) (m : List Sd) : (strikeL f m).length = m.length := by
  unfold strikeL
  split
  · rfl
  · split <;> simp
/-- Is channel i blocked by it? -/
def blocks (f : Ft) (i : Nat) : Bool := decide (f.k = 4 ∧ f.n = i)
set_option maxRecDepth 100000 in
set_option maxHeartbeats 4000000 in
theorem strike_x (x b : Nat) (l : List (Value × Sd)) (c d : Ch) (dv : Value) (f : Ft) (P : List Nat) (w : World) (h : XAt w P x b l c d) (hm : f.may = true) (h7 : f.k ≠ 7) (hs : ∀ s ∈ l, wide s.2.at_) (hP : ∀ i ∈ P, i < w.heap.size) (hd : SeesL w w.heap.size dv f.d) (hy : bytesL f.d) (_hl : l.length ≤ 8) :
    Calls Tryz.prog 83 #[.pointer (some ⟨x, 0, none⟩), ftV f dv] w fun e w' => e = .returned (.tuple #[]) ∧ ∃ l' : List (Value × Sd), l'.map Prod.snd = strikeL f (l.map Prod.snd) ∧ XAt w' P x b l' { c with bl := c.bl || blocks f 0 } { d with bl := d.bl || blocks f 1 } ∧ Kw [x, b] w w' := by
  obtain ⟨fk, fn, fa, fd⟩ := f
  unfold Ft.may at hm
  rw [ftMay_iff] at hm
  simp only at hm h7 hd hy
  unfold ftV blocks strikeL
  simp only
  have hb0 := (Below.refl w.heap.size w).alloc (Nat.le_refl _) (.cells #[.int .i64 fk, .int .i64 fn, .int .i64 fa, dv] 81)
  have hX := Blk.new w _ rfl #[.int .i64 fk, .int .i64 fn, .int .i64 fa, dv] 81
  obtain ⟨Ad, cd, rfl, -⟩ := hd.at_
  have H := h.below hb0
  have kp0 := Kw.ofBelow [x, b] hb0
  have hz : (w.alloc (.cells #[.int .i64 fk, .int .i64 fn, .int .i64 fa, .slice Ad fd.length cd] 81)).heap.size = w.heap.size + 1 := by simp
  by_cases h4 : fk = 4
  · subst h4
    have hj : fn = 0 ∨ fn = 1 := by simp at hm; omega
    rcases hj with rfl | rfl
    · have x0 := hX.cell 0 (x := .int .i64 4) rfl
      have x1 := hX.cell 1 (x := .int .i64 0) rfl
      have y := H.blk.cell 1 (x := .bool c.bl) rfl
      have fz := H.blk.frozen 1
      have HH := Lib.hid ((H.put 1 (.bool true) (c' := { c with bl := true }) (d' := d) rfl).drew)
      have KK := Lib.hid ((kp0.set ⟨x, 1, none⟩ (by simp) (.bool true)).drew)
      clear hX h H hb0 hd kp0
      go_enter Tryz.func83, Tryz.ntmps83
      go_wp2_with fail
      go_region
      go_wp2
      exact bodyPost_end (results_none (by rfl) _ _ _) rfl ⟨rfl, l, by simp, by simpa using HH.out, KK.out⟩
    · have x0 := hX.cell 0 (x := .int .i64 4) rfl
      have x1 := hX.cell 1 (x := .int .i64 1) rfl
      have y := H.blk.cell 5 (x := .bool d.bl) rfl
      have fz := H.blk.frozen 5
      have HH := Lib.hid ((H.put 5 (.bool true) (c' := c) (d' := { d with bl := true }) rfl).drew)
      have KK := Lib.hid ((kp0.set ⟨x, 5, none⟩ (by simp) (.bool true)).drew)
      clear hX h H hb0 hd kp0
      go_enter Tryz.func83, Tryz.ntmps83
      go_wp2_with fail
      go_region
      go_wp2
      exact bodyPost_end (results_none (by rfl) _ _ _) rfl ⟨rfl, l, by simp, by simpa using HH.out, KK.out⟩
  · obtain ⟨j, rfl⟩ : ∃ j : Nat, fn = j := ⟨fn.toNat, by omega⟩
    simp only [Int.toNat_natCast]
    have q4 : (fk == 4) = false := by rw [beq_eq_false_iff_ne]; exact h4
    have q7 : (fk == 7) = false := by rw [beq_eq_false_iff_ne]; exact h7
    have x0 := hX.cell 0 (x := .int .i64 fk) rfl
    have x1 := hX.cell 1 (x := .int .i64 j) rfl
    have x2 := hX.cell 2 (x := .int .i64 fa) rfl
    have x3 := hX.cell 3 (x := .slice Ad fd.length cd) rfl
    have y0 := H.blk.cell 0 (x := .slice (some ⟨b, 0, none⟩) l.length l.length) rfl
    by_cases hj : j < l.length
    · have q1 : decide ((j : Int) < (l.length : Nat)) = true := by simp; omega
      obtain ⟨⟨v, s⟩, hk⟩ : ∃ y, l[j]? = some y := ⟨_, List.getElem?_eq_getElem hj⟩
      have hk2 : (l.map Prod.snd)[j]? = some s := by simp [hk]
      rw [hk2]
      have hwd := hs _ (List.mem_of_getElem? hk)
      have hsz : ∀ W, Below (w.alloc (.cells #[.int .i64 fk, .int .i64 j, .int .i64 fa, .slice Ad fd.length cd] 81)).heap.size (w.alloc (.cells #[.int .i64 fk, .int .i64 j, .int .i64 fa, .slice Ad fd.length cd] 81)) W → w.heap.size ≤ W.heap.size := fun W hW => by have := hW.size; omega
      have hd1 : ∀ W, Below (w.alloc (.cells #[.int .i64 fk, .int .i64 j, .int .i64 fa, .slice Ad fd.length cd] 81)).heap.size (w.alloc (.cells #[.int .i64 fk, .int .i64 j, .int .i64 fa, .slice Ad fd.length cd] 81)) W → SeesL W W.heap.size (.slice Ad fd.length cd) fd := fun W hW => (hd.below (hb0.trans (hW.mono (by omega)))).more (hsz W hW)
      have hC := fun W hW => Lib.hid (strike_sd b j l v (.slice Ad fd.length cd) s ⟨fk, j, fa, fd⟩ P W (H.sd.below hW) hk (by simp only; omega) hwd (fun i hi => by have := hP i hi; have := hsz W hW; omega) (hd1 W hW) hy (by simp only; omega))
      have HN : Hid (∀ W, Below (w.alloc (.cells #[.int .i64 fk, .int .i64 j, .int .i64 fa, .slice Ad fd.length cd] 81)).heap.size (w.alloc (.cells #[.int .i64 fk, .int .i64 j, .int .i64 fa, .slice Ad fd.length cd] 81)) W → XAt W P x b l c d ∧ Kw [x, b] w W ∧ W.cell? ⟨x, 0, none⟩ = some (.slice (some ⟨b, 0, none⟩) l.length l.length) ∧ W.cell? ⟨w.heap.size, 0, none⟩ = some (.int .i64 fk) ∧ W.cell? ⟨w.heap.size, 1, none⟩ = some (.int .i64 j) ∧ W.cell? ⟨w.heap.size, 2, none⟩ = some (.int .i64 fa) ∧ W.cell? ⟨w.heap.size, 3, none⟩ = some (.slice Ad fd.length cd)) := Lib.hid fun W hW => by
        have hX2 := hX.below hW hX.lt
        exact ⟨H.below hW, kp0.below hW, (H.below hW).blk.cell 0 rfl, hX2.cell 0 rfl, hX2.cell 1 rfl, hX2.cell 2 rfl, hX2.cell 3 rfl⟩
      unfold ftV at hC
      simp only at hC
      have hS := Lib.hid (show strikeL ⟨fk, j, fa, fd⟩ (l.map Prod.snd) = (l.map Prod.snd).set j (s.strike ⟨fk, j, fa, fd⟩) by unfold strikeL; simp only; rw [if_neg h4]; simp only [Int.toNat_natCast]; rw [hk2])
      have e4 : ∀ i : Nat, decide (fk = 4 ∧ (j : Int) = i) = false := fun i => by simp [h4]
      simp only [h4, false_and, decide_false, Bool.or_false, if_false]
      go_enter Tryz.func83, Tryz.ntmps83
      go_wp2_with fail
      generalize (w.alloc (.cells #[.int .i64 fk, .int .i64 j, .int .i64 fa, .slice Ad fd.length cd] 81)) = w0 at *
      have HB : Hid (∀ n, Below w0.heap.size w0 (w0.drewN n)) := Lib.hid fun n => below_drewN (Below.refl _ _) n
      clear h H hX hb0 kp0 hd hd1 hsz
      go_quiet (fail)
      clear x0 x1 x2 x3 y0
      have hB := HB.out nq
      clear HB
      generalize w0.drewN nq = w1 at *
      obtain ⟨-, -, y0, x0, x1, x2, x3⟩ := HN.out w1 hB
      go_wp2_with fail
      go_region_with (first
        | (go_at_call 104; refine (hC w1.drew hB.drew).out.mono ?_; rintro e w2 ⟨u, rfl, hs2, hO2⟩)
        | fail)
      all_goals
        obtain ⟨H2, K2, -⟩ := HN.out w1.drew hB.drew
        have H3 := Lib.hid (H2.only hO2 hs2 (by simp))
        have K3 := Lib.hid (K2.trans (Kw.only hO2 (by simp)))
        clear H2 K2 hs2 hO2 hC HN
        go_wp2
        exact bodyPost_end (results_none (by rfl) _ _ _) rfl ⟨rfl, _, by simp, H3.out, K3.out⟩
    · have q1 : decide ((j : Int) < (l.length : Nat)) = false := by simp; omega
      have hk2 : (l.map Prod.snd)[j]? = none := by simp; omega
      rw [hk2]
      simp only [h4, false_and, decide_false, Bool.or_false, if_false]
      have HN : Hid (∀ n, XAt ((w.alloc (.cells #[.int .i64 fk, .int .i64 j, .int .i64 fa, .slice Ad fd.length cd] 81)).drewN n) P x b l c d ∧ Kw [x, b] w ((w.alloc (.cells #[.int .i64 fk, .int .i64 j, .int .i64 fa, .slice Ad fd.length cd] 81)).drewN n)) := Lib.hid fun n => ⟨H.drewN n, kp0.below (below_drewN (Below.refl _ _) n)⟩
      go_enter Tryz.func83, Tryz.ntmps83
      go_wp2_with fail
      go_quiet (fail)
      all_goals
        go_wp2
        exact bodyPost_end (results_none (by rfl) _ _ _) rfl ⟨rfl, l, rfl, (HN.out _).1, (HN.out _).2⟩
end Go.Proofs.YtjoioojckekfhaaGreat
