/- Texts SrA, FtO, AcO in one. For what each says in front of its theorems. -/
import Derived.Test.YtkaeikjfegjpjaaAB2
import Derived.Test.YtkaeikjfegjpjaaAB3
/-! ### SrA -/
namespace Go.Proofs.Ytkaeikjfegjpjaa
open Go.RowKit

/-- A fault. -/
structure Ft where
  k : Int
  n : Int
  a : Int
  d : List Int
instance : Inhabited Ft := ⟨⟨0, 0, 0, []⟩⟩
/-- May it be? -/
def ftMay (k n a : Int) (len : Nat) : Bool := decide (1 ≤ k) && decide (k ≤ 7) && decide (0 ≤ n) && decide (n ≤ if k = 4 ∨ k = 7 then 1 else 7) && decide (-1000 ≤ a) && decide (a ≤ 1000) && decide (len ≤ 24)
theorem ftMay_iff (k n a : Int) (d : Nat) : ftMay k n a d = true ↔ 1 ≤ k ∧ k ≤ 7 ∧ 0 ≤ n ∧ n ≤ (if k = 4 ∨ k = 7 then 1 else 7) ∧ -1000 ≤ a ∧ a ≤ 1000 ∧ d ≤ 24 := by
  unfold ftMay
  simp only [Bool.and_eq_true, decide_eq_true_eq]
  omega
def Ft.may (f : Ft) : Bool := ftMay f.k f.n f.a f.d.length
/-- Faults in memory. -/
structure SeesF (W : World) (B : Nat) (v : Value) (l : List Ft) : Prop where
  at_ : ∃ A c, v = .slice A l.length c ∧ l.length ≤ c ∧ c ≤ maxLen ∧ (0 < l.length → ∃ b off, A = some ⟨b, off, none⟩ ∧ b < B ∧ ∀ i, i < l.length → W.cell? ⟨b, off + i * 4, none⟩ = some (.int .i64 (l.getD i default).k) ∧ W.cell? ⟨b, off + i * 4 + 1, none⟩ = some (.int .i64 (l.getD i default).n) ∧ W.cell? ⟨b, off + i * 4 + 2, none⟩ = some (.int .i64 (l.getD i default).a) ∧
    ∃ v, W.cell? ⟨b, off + i * 4 + 3, none⟩ = some v ∧ SeesL W B v (l.getD i default).d)
  by_ : ∀ f ∈ l, bytesL f.d
theorem SeesF.below {W W' : World} {B : Nat} {v : Value} {l : List Ft} (h : SeesF W B v l) (hb : Below B W W') : SeesF W' B v l := ⟨by
  obtain ⟨A, c, rfl, h1, h2, h3⟩ := h.at_
  refine ⟨A, c, rfl, h1, h2, fun h0 => ?_⟩
  obtain ⟨b, off, rfl, hbB, hc⟩ := h3 h0
  refine ⟨b, off, rfl, hbB, fun i hi => ?_⟩
  obtain ⟨c0, c1, c2, u, c3, hu⟩ := hc i hi
  exact ⟨(hb.cell (p := ⟨b, off + i * 4, none⟩) hbB).trans c0, (hb.cell (p := ⟨b, off + i * 4 + 1, none⟩) hbB).trans c1, (hb.cell (p := ⟨b, off + i * 4 + 2, none⟩) hbB).trans c2, u, (hb.cell (p := ⟨b, off + i * 4 + 3, none⟩) hbB).trans c3, hu.below hb⟩, h.by_⟩
theorem SeesF.more {W : World} {B B' : Nat} {v : Value} {l : List Ft} (h : SeesF W B v l) (hB : B ≤ B') : SeesF W B' v l := ⟨by
  obtain ⟨A, c, rfl, h1, h2, h3⟩ := h.at_
  refine ⟨A, c, rfl, h1, h2, fun h0 => ?_⟩
  obtain ⟨b, off, rfl, hbB, hc⟩ := h3 h0
  refine ⟨b, off, rfl, by omega, fun i hi => ?_⟩
  obtain ⟨c0, c1, c2, u, c3, hu⟩ := hc i hi
  exact ⟨c0, c1, c2, u, c3, hu.more hB⟩, h.by_⟩
theorem SeesF.nil {W : World} {B : Nat} : SeesF W B (.slice none 0 0) [] := ⟨⟨none, 0, rfl, Nat.le_refl _, Nat.zero_le _, fun h => absurd h (by simp)⟩, fun _ h => by cases h⟩

set_option maxRecDepth 100000 in
set_option maxHeartbeats 4000000 in
theorem isNone_sr (k n a : Int) (A : Option Addr) (d c : Nat) (w : World) :
    Calls Try.prog 29 #[.agg #[.int .i64 k, .int .i64 n, .int .i64 a, .slice A d c]] w fun e w' => e = .returned (.bool (!ftMay k n a d)) ∧ Below w.heap.size w w' := by
  have hb0 := (Below.refl w.heap.size w).alloc (Nat.le_refl _) (.cells #[.int .i64 k, .int .i64 n, .int .i64 a, .slice A d c] 32)
  have hX := Blk.new w _ rfl #[.int .i64 k, .int .i64 n, .int .i64 a, .slice A d c] 32
  have x0 := hX.cell 0 (x := .int .i64 k) rfl
  have x1 := hX.cell 1 (x := .int .i64 n) rfl
  have x2 := hX.cell 2 (x := .int .i64 a) rfl
  have x3 := hX.cell 3 (x := .slice A d c) rfl
  have K := Lib.hid (ftMay_iff k n a d)
  clear hX
  generalize ftMay k n a d = q at *
  by_cases h4 : k = 4
  · subst h4
    go_enter Try.func29, Try.ntmps29
    go_wp2
    all_goals
      go_ret
      refine ⟨?_, hb0⟩
      have K := K.out
      cases q <;> simp at K ⊢ <;> omega
  · by_cases h7 : k = 7
    · subst h7
      go_enter Try.func29, Try.ntmps29
      go_wp2
      all_goals
        go_ret
        refine ⟨?_, hb0⟩
        have K := K.out
        cases q <;> simp at K ⊢ <;> omega
    · have q4 : (k == 4) = false := by rw [beq_eq_false_iff_ne]; exact h4
      have q7 : (k == 7) = false := by rw [beq_eq_false_iff_ne]; exact h7
      go_enter Try.func29, Try.ntmps29
      go_wp2
      all_goals
        go_ret
        refine ⟨?_, hb0⟩
        have K := K.out
        cases q <;> simp at K ⊢ <;> omega

theorem ftAt (l : List Ft) (k : Nat) (hk : k < l.length) : l.getD k default ∈ l := by
  rw [List.getD_eq_getElem?_getD, List.getElem?_eq_getElem hk]
  exact List.getElem_mem hk
/-- All of the first k may be. -/
def ftAll (l : List Ft) (k : Nat) : Bool := (l.take k).all Ft.may
theorem ftAll_succ (l : List Ft) (k : Nat) (hk : k < l.length) : ftAll l (k + 1) = (ftAll l k && (l.getD k default).may) := by
  unfold ftAll
  rw [List.take_add_one, List.all_append, List.getD_eq_getElem?_getD, List.getElem?_eq_getElem hk]
  simp
theorem ftAll_more (l : List Ft) (k : Nat) (_hk : k ≤ l.length) (h : ftAll l k = false) : ftAll l l.length = false := by
  unfold ftAll at *
  rw [Bool.eq_false_iff] at h ⊢
  intro e
  refine h ?_
  rw [List.all_eq_true] at e ⊢
  intro x hx
  exact e x (by rw [List.take_length]; exact List.mem_of_mem_take hx)
set_option maxRecDepth 100000 in
set_option maxHeartbeats 4000000 in
theorem indexF_sr (v : Value) (l : List Ft) (w : World) (hs : SeesF w w.heap.size v l) :
    Calls Try.prog 32 #[v, .func (.func 29) #[] #[]] w fun e w' =>
      ∃ r : Int, e = .returned (.int .i64 r) ∧ decide (0 ≤ r) = !ftAll l l.length ∧ Below w.heap.size w w' := by
  obtain ⟨A, c, rfl, hlen, hc, hs⟩ := hs.at_
  unfold maxLen at hc
  have h0 : Hid (ftAll l 0 = true) := Lib.hid (by simp [ftAll])
  have hS := fun k h => Lib.hid (ftAll_succ l k h)
  have hM := fun k h => Lib.hid (ftAll_more l k h)
  go_enter Try.func32, Try.ntmps32
  go_wp2
  go_loopw [8] (fun i wr => ∃ k : Nat, k ≤ l.length ∧ i = .int .i64 k ∧ Hid (ftAll l k = true) ∧ Below w.heap.size w wr) (fun i _ => l.length - (intOf i).toNat)
  case atStart => exact ⟨0, by omega, rfl, h0, Below.refl _ _⟩
  case round =>
    obtain ⟨k, hk, rfl, hn, hb⟩ := hrel
    by_cases hlt : k < l.length
    · obtain ⟨b, off, rfl, hbb, hd⟩ := hs (by omega)
      obtain ⟨c0, c1, c2, u, c3, hu⟩ := hd k hlt
      have c0 := (hb.cell (p := ⟨b, off + k * 4, none⟩) hbb).trans c0
      have c1 := (hb.cell (p := ⟨b, off + k * 4 + 1, none⟩) hbb).trans c1
      have c2 := (hb.cell (p := ⟨b, off + k * 4 + 2, none⟩) hbb).trans c2
      have c3 := (hb.cell (p := ⟨b, off + k * 4 + 3, none⟩) hbb).trans c3
      obtain ⟨A', cc, rfl, -⟩ := hu.at_
      have q1 : decide ((k : Int) < (l.length : Nat)) = true := by simp; omega
      have hS := hS k hlt
      have hM := hM (k + 1) (by omega)
      unfold Ft.may at hS
      generalize l.getD k default = f at *
      have hcall := Lib.hid (isNone_sr f.k f.n f.a A' f.d.length cc wr)
      clear hd hu
      cases hdn : ftMay f.k f.n f.a f.d.length
      all_goals
        rw [hdn] at hcall hS
        go_wp2_with fail
        refine hcall.out.mono ?_
        rintro e w1 ⟨rfl, hb1⟩
        have hb2 := hb.trans (hb1.mono hb.size)
        clear hcall
        go_wp2
      · go_ret
        refine ⟨k, rfl, ?_, hb2⟩
        rw [hM.out (by rw [hS.out]; simp)]
        simp
      · go_roundw
        case rel => exact ⟨k + 1, by omega, by go_num, Lib.hid (by rw [hS.out, hn.out]; rfl), hb2⟩
        case measure => simp [intOf]; omega
    · obtain rfl : k = l.length := by omega
      have q1 : decide ((l.length : Int) < (l.length : Nat)) = false := by simp
      go_wp2
      go_ret
      exact ⟨-1, rfl, by rw [hn.out]; decide, hb⟩
set_option maxRecDepth 100000 in
set_option maxHeartbeats 4000000 in
theorem containsF_sr (v : Value) (l : List Ft) (w : World) (hs : SeesF w w.heap.size v l) :
    Calls Try.prog 28 #[v, .func (.func 29) #[] #[]] w fun e w' =>
      e = .returned (.bool (!ftAll l l.length)) ∧ Below w.heap.size w w' := by
  have hI := Lib.hid (indexF_sr v l w hs)
  generalize ftAll l l.length = h at *
  obtain ⟨A, c, rfl, -⟩ := hs.at_
  go_enter Try.func28, Try.ntmps28
  go_wp2_with fail
  refine hI.out.mono ?_
  rintro e w1 ⟨r, rfl, hr, hb⟩
  have hr2 : decide (r ≥ 0) = !h := by rw [← hr]
  clear hI
  go_wp2
  go_ret
  exact ⟨by simp [← hr], hb⟩
/-- May faults be? -/
def ftIs (l : List Ft) : Bool := decide (l.length ≤ 4) && l.all Ft.may
set_option maxRecDepth 100000 in
set_option maxHeartbeats 4000000 in
theorem is_sr (v : Value) (l : List Ft) (w : World) (hs : SeesF w w.heap.size v l) :
    Calls Try.prog 25 #[v] w fun e w' => e = .returned (.bool (ftIs l)) ∧ Below w.heap.size w w' := by
  have hC := Lib.hid (containsF_sr v l w hs)
  have e1 : ftAll l l.length = l.all Ft.may := by simp [ftAll]
  rw [e1] at hC
  unfold ftIs
  generalize l.all Ft.may = h at *
  obtain ⟨A, c, rfl, -⟩ := hs.at_
  by_cases h4 : l.length ≤ 4
  · have q1 : decide ((l.length : Int) ≤ 4) = true := by simp; omega
    rw [show decide (l.length ≤ 4) = true from decide_eq_true h4]
    go_enter Try.func25, Try.ntmps25
    go_wp2_with fail
    refine hC.out.mono ?_
    rintro e w1 ⟨rfl, hb⟩
    go_wp2
    go_ret
    exact ⟨by simp, hb⟩
  · have q1 : decide ((l.length : Int) ≤ 4) = false := by simp; omega
    rw [show decide (l.length ≤ 4) = false from decide_eq_false h4]
    go_enter Try.func25, Try.ntmps25
    go_wp2
    go_ret
    exact ⟨by simp, Below.refl _ _⟩
end Go.Proofs.Ytkaeikjfegjpjaa

/-! ### FtO -/
namespace Go.Proofs.Ytkaeikjfegjpjaa
open Go.ChangeShapes Go.WideShapes Go.ChangeAt Go.RowKit Go.Joins Go.Deep

section
variable {H : Type} {enc : TypeId × Value → H} {P : Program} {w : World} {base : Nat} {spare : Nat → Bool} {held : Bool}
theorem sees_fault {r : Reach} {b0 : Nat} {t ti ts te : TypeId} {f0 f1 f2 f3 : Field} {v : Value} {d : DataW H} {ps : List MemPlace} (hs : P.underlying t = some (.struct #[f0, f1, f2, f3])) (hC : P.cellsOf t = 4) (t0 : f0.type = ti ∧ f0.offset = 0) (t1 : f1.type = ti ∧ f1.offset = 1) (t2 : f2.type = ti ∧ f2.offset = 2) (t3 : f3.type = ts ∧ f3.offset = 3)
    (hi : P.underlying ti = some (.int .i64)) (hsl : P.underlying ts = some (.slice te)) (hu : P.underlying te = some (.int .u8)) (hc : P.cellsOf ti = 1) (hcs : P.cellsOf ts = 1) (hce : P.cellsOf te = 1)
    (hv : Value.okWide P w r b0 t v) (h : DataW.Trod enc P w base spare held t v d ps) : ∃ (f : Ft) (A : Option Addr) (c : Nat), v = .agg #[.int .i64 f.k, .int .i64 f.n, .int .i64 f.a, .slice A f.d.length c] ∧ SeesL w w.heap.size (.slice A f.d.length c) f.d ∧ bytesL f.d := by
  obtain ⟨cs, rfl, hsz⟩ := okWide_struct hs hv
  obtain ⟨c0, c1, c2, c3, rfl⟩ := array4 (hsz.trans hC)
  obtain ⟨fuel, hf⟩ := h
  obtain ⟨y0, y1, y2, y3, q, _, _, g0, g1, g2, g3⟩ := trod_struct4 hs hf
  rw [t0.1, t0.2, hc] at g0
  rw [t1.1, t1.2, hc] at g1
  rw [t2.1, t2.2, hc] at g2
  rw [t3.1, t3.2, hcs] at g3
  obtain ⟨z0, rfl⟩ := int_cella hi g0
  obtain ⟨z1, rfl⟩ := int_cella hi g1
  obtain ⟨z2, rfl⟩ := int_cella hi g2
  obtain ⟨A, c, l, rfl, hS, hB⟩ := sees_list hsl hu hce g3
  exact ⟨⟨z0, z1, z2, l⟩, A, c, rfl, hS, hB⟩
end
set_option maxRecDepth 100000 in
set_option maxHeartbeats 4000000 in
theorem may_srr (k n a : Int) (A : Option Addr) (d c : Nat) (w : World) :
    Calls Try.prog 26 #[.agg #[.int .i64 k, .int .i64 n, .int .i64 a, .slice A d c]] w fun e w' => e = .returned (.bool (ftMay k n a d)) ∧ Below w.heap.size w w' := by
  have hb0 := (Below.refl w.heap.size w).alloc (Nat.le_refl _) (.cells #[.int .i64 k, .int .i64 n, .int .i64 a, .slice A d c] 32)
  have hX := Blk.new w _ rfl #[.int .i64 k, .int .i64 n, .int .i64 a, .slice A d c] 32
  have x0 := hX.cell 0 (x := .int .i64 k) rfl
  have x1 := hX.cell 1 (x := .int .i64 n) rfl
  have x2 := hX.cell 2 (x := .int .i64 a) rfl
  have x3 := hX.cell 3 (x := .slice A d c) rfl
  have K := Lib.hid (ftMay_iff k n a d)
  clear hX
  generalize ftMay k n a d = q at *
  by_cases h4 : k = 4
  · subst h4
    go_enter Try.func26, Try.ntmps26
    go_wp2
    all_goals
      go_ret
      refine ⟨?_, hb0⟩
      have K := K.out
      cases q <;> simp at K ⊢ <;> omega
  · by_cases h7 : k = 7
    · subst h7
      go_enter Try.func26, Try.ntmps26
      go_wp2
      all_goals
        go_ret
        refine ⟨?_, hb0⟩
        have K := K.out
        cases q <;> simp at K ⊢ <;> omega
    · have q4 : (k == 4) = false := by rw [beq_eq_false_iff_ne]; exact h4
      have q7 : (k == 7) = false := by rw [beq_eq_false_iff_ne]; exact h7
      go_enter Try.func26, Try.ntmps26
      go_wp2
      all_goals
        go_ret
        refine ⟨?_, hb0⟩
        have K := K.out
        cases q <;> simp at K ⊢ <;> omega


end Go.Proofs.Ytkaeikjfegjpjaa

/-! ### AcO -/
namespace Go.Proofs.Ytkaeikjfegjpjaa
open Go.ChangeShapes Go.WideShapes Go.ChangeAt Go.RowKit Go.Joins Go.Deep

/-- An act. -/
structure Ac where
  k : Int
  i : Int
  n : Int
  d : List Int
  f : List Ft
instance : Inhabited Ac := ⟨⟨0, 0, 0, [], []⟩⟩
/-- An act's five cells. -/
structure AcAt (W : World) (B b off : Nat) (x : Ac) : Prop where
  c0 : W.cell? ⟨b, off, none⟩ = some (.int .i64 x.k)
  c1 : W.cell? ⟨b, off + 1, none⟩ = some (.int .i64 x.i)
  c2 : W.cell? ⟨b, off + 2, none⟩ = some (.int .i64 x.n)
  c3 : ∃ v, W.cell? ⟨b, off + 3, none⟩ = some v ∧ SeesL W B v x.d
  c4 : ∃ v, W.cell? ⟨b, off + 4, none⟩ = some v ∧ SeesF W B v x.f
/-- Acts in memory. -/
structure SeesAc (W : World) (B : Nat) (v : Value) (l : List Ac) : Prop where
  at_ : ∃ A c, v = .slice A l.length c ∧ l.length ≤ c ∧ c ≤ maxLen ∧ (0 < l.length → ∃ b off, A = some ⟨b, off, none⟩ ∧ b < B ∧ ∀ i, i < l.length → AcAt W B b (off + i * 5) (l.getD i default))
  by_ : ∀ x ∈ l, bytesL x.d
theorem AcAt.below {W W' : World} {B b off : Nat} {x : Ac} (h : AcAt W B b off x) (hb : Below B W W') (hl : b < B) : AcAt W' B b off x := by
  obtain ⟨c0, c1, c2, ⟨v3, c3, s3⟩, v4, c4, s4⟩ := h
  exact ⟨(hb.cell (p := ⟨b, off, none⟩) hl).trans c0, (hb.cell (p := ⟨b, off + 1, none⟩) hl).trans c1, (hb.cell (p := ⟨b, off + 2, none⟩) hl).trans c2, ⟨v3, (hb.cell (p := ⟨b, off + 3, none⟩) hl).trans c3, s3.below hb⟩, v4, (hb.cell (p := ⟨b, off + 4, none⟩) hl).trans c4, s4.below hb⟩
theorem AcAt.more {W : World} {B B' b off : Nat} {x : Ac} (h : AcAt W B b off x) (hB : B ≤ B') : AcAt W B' b off x := by
  obtain ⟨c0, c1, c2, ⟨v3, c3, s3⟩, v4, c4, s4⟩ := h
  exact ⟨c0, c1, c2, ⟨v3, c3, s3.more hB⟩, v4, c4, s4.more hB⟩
theorem SeesAc.below {W W' : World} {B : Nat} {v : Value} {l : List Ac} (h : SeesAc W B v l) (hb : Below B W W') : SeesAc W' B v l := ⟨by
  obtain ⟨A, c, rfl, h1, h2, h3⟩ := h.at_
  refine ⟨A, c, rfl, h1, h2, fun h0 => ?_⟩
  obtain ⟨b, off, rfl, hbB, hc⟩ := h3 h0
  exact ⟨b, off, rfl, hbB, fun i hi => (hc i hi).below hb hbB⟩, h.by_⟩
theorem SeesAc.more {W : World} {B B' : Nat} {v : Value} {l : List Ac} (h : SeesAc W B v l) (hB : B ≤ B') : SeesAc W B' v l := ⟨by
  obtain ⟨A, c, rfl, h1, h2, h3⟩ := h.at_
  refine ⟨A, c, rfl, h1, h2, fun h0 => ?_⟩
  obtain ⟨b, off, rfl, hbB, hc⟩ := h3 h0
  exact ⟨b, off, rfl, by omega, fun i hi => (hc i hi).more hB⟩, h.by_⟩
theorem SeesAc.nil {W : World} {B : Nat} : SeesAc W B (.slice none 0 0) [] := ⟨⟨none, 0, rfl, Nat.le_refl _, Nat.zero_le _, fun h => absurd h (by simp)⟩, fun _ h => by cases h⟩
theorem acAt (l : List Ac) (k : Nat) (hk : k < l.length) : l.getD k default ∈ l := by
  rw [List.getD_eq_getElem?_getD, List.getElem?_eq_getElem hk]
  exact List.getElem_mem hk

section
variable {H : Type} {enc : TypeId × Value → H} {P : Program} {w : World} {base : Nat} {spare : Nat → Bool} {held : Bool}
theorem array5 {α : Type} {cs : Array α} (h : cs.size = 5) : ∃ c0 c1 c2 c3 c4, cs = #[c0, c1, c2, c3, c4] := by
  obtain ⟨l⟩ := cs
  match l, h with
  | [c0, c1, c2, c3, c4], _ => exact ⟨c0, c1, c2, c3, c4, rfl⟩
theorem trod_struct5 {t : TypeId} {f0 f1 f2 f3 f4 : Field} {fuel : Nat} {cs : List Value} {x : DataW H × List MemPlace} (ht : P.underlying t = some (.struct #[f0, f1, f2, f3, f4])) (h : DataW.trod enc P w base spare held fuel t cs = some x) :
    ∃ y0 y1 y2 y3 y4 n, cs.length = P.cellsOf t ∧ DataW.trod enc P w base spare held n f0.type ((cs.drop f0.offset).take (P.cellsOf f0.type)) = some y0 ∧
      DataW.trod enc P w base spare held n f1.type ((cs.drop f1.offset).take (P.cellsOf f1.type)) = some y1 ∧ DataW.trod enc P w base spare held n f2.type ((cs.drop f2.offset).take (P.cellsOf f2.type)) = some y2 ∧
      DataW.trod enc P w base spare held n f3.type ((cs.drop f3.offset).take (P.cellsOf f3.type)) = some y3 ∧ DataW.trod enc P w base spare held n f4.type ((cs.drop f4.offset).take (P.cellsOf f4.type)) = some y4 := by
  obtain ⟨xs, n, _, rfl, hl, hlen, hf⟩ := DataW.trod_struct ht h
  match xs, hlen with
  | [y0, y1, y2, y3, y4], _ => exact ⟨y0, y1, y2, y3, y4, n, hl, by simpa using hf 0 f0 rfl, by simpa using hf 1 f1 rfl, by simpa using hf 2 f2 rfl, by simpa using hf 3 f3 rfl, by simpa using hf 4 f4 rfl⟩
/-- Faults that came in. -/
theorem sees_faults {t e ti ts te : TypeId} {f0 f1 f2 f3 : Field} {n : Nat} {v : Value} {y : DataW H × List MemPlace} (ht : P.underlying t = some (.slice e)) (he : P.underlying e = some (.struct #[f0, f1, f2, f3])) (ce : P.cellsOf e = 4) (t0 : f0.type = ti ∧ f0.offset = 0) (t1 : f1.type = ti ∧ f1.offset = 1) (t2 : f2.type = ti ∧ f2.offset = 2) (t3 : f3.type = ts ∧ f3.offset = 3)
    (hi : P.underlying ti = some (.int .i64)) (hs : P.underlying ts = some (.slice te)) (hu : P.underlying te = some (.int .u8)) (hc : P.cellsOf ti = 1) (hcs : P.cellsOf ts = 1) (hce : P.cellsOf te = 1)
    (h : DataW.trod enc P w base spare held n t [v] = some y) : ∃ l : List Ft, SeesF w w.heap.size v l := by
  rcases open_slice ht h with ⟨hv, -⟩ | ⟨a, len, cap, m, k, Dt, Pl, hv, -, hl, hm, hmm, -, hx⟩
  · obtain rfl : v = .slice none 0 0 := by simpa using hv
    exact ⟨[], SeesF.nil⟩
  · obtain rfl : v = .slice (some a) len cap := by simpa using hv
    have hlm : len ≤ m := by rw [hmm]; split <;> omega
    have each : ∀ i, i < len → ∃ x : Ft × Value, (w.cell? (a.add (i * 4)) = some (.int .i64 x.1.k) ∧ w.cell? (a.add (i * 4 + 1)) = some (.int .i64 x.1.n) ∧ w.cell? (a.add (i * 4 + 2)) = some (.int .i64 x.1.a) ∧ w.cell? (a.add (i * 4 + 3)) = some x.2) ∧ SeesL w w.heap.size x.2 x.1.d ∧ bytesL x.1.d := by
      intro i hi'
      obtain ⟨cs', h1, h2⟩ := hx i (by omega)
      rw [ce] at h1
      obtain ⟨_, hlen, hcell⟩ := World.cells?_some h1
      match cs', hlen with
      | [v0, v1, v2, v3], _ =>
        obtain ⟨y0, y1, y2, y3, q, _, _, g0, g1, g2, g3⟩ := trod_struct4 he h2
        rw [t0.1, t0.2, hc] at g0
        rw [t1.1, t1.2, hc] at g1
        rw [t2.1, t2.2, hc] at g2
        rw [t3.1, t3.2, hcs] at g3
        obtain ⟨z0, rfl⟩ := int_cella hi g0
        obtain ⟨z1, rfl⟩ := int_cella hi g1
        obtain ⟨z2, rfl⟩ := int_cella hi g2
        obtain ⟨A', c', l, rfl, hS, hB⟩ := sees_list hs hu hce g3
        have e0 := hcell 0 (by omega)
        have e1 := hcell 1 (by omega)
        have e2 := hcell 2 (by omega)
        have e3 := hcell 3 (by omega)
        rw [add_add] at e0 e1 e2 e3
        exact ⟨(⟨z0, z1, z2, l⟩, _), ⟨by simpa using e0, by simpa using e1, by simpa using e2, by simpa using e3⟩, hS, hB⟩
    obtain ⟨f, hf⟩ := choose_lt each
    have hg : ∀ k, k < len → ((List.range len).map fun i => (f i).1).getD k default = (f k).1 := fun k hk => by simp [List.getD_eq_getElem?_getD, hk]
    refine ⟨(List.range len).map fun i => (f i).1, ⟨⟨some a, cap, by simp, by simpa using hl, hm, fun h0 => ?_⟩, fun x hx => ?_⟩⟩
    · simp only [List.length_map, List.length_range] at h0 ⊢
      have h00 := (hf 0 h0).1.1
      obtain ⟨b, off, rfl, hbb⟩ := addr_at (v := .int .i64 (f 0).1.k) (by simpa using h00)
      have hadd : ∀ j, (⟨b, off, none⟩ : Addr).add j = ⟨b, off + j, none⟩ := fun j => by unfold Addr.add; split <;> simp_all
      simp only [hadd] at hf
      refine ⟨b, off, rfl, hbb, fun k hk => ?_⟩
      obtain ⟨⟨e0, e1, e2, e3⟩, hS, -⟩ := hf k hk
      rw [hg k hk]
      exact ⟨e0, by rw [Nat.add_assoc]; exact e1, by rw [Nat.add_assoc]; exact e2, _, by rw [Nat.add_assoc]; exact e3, hS⟩
    · simp only [List.mem_map, List.mem_range] at hx
      obtain ⟨i, hi', rfl⟩ := hx
      exact (hf i hi').2.2
/-- An act's cells that came in. -/
theorem act_cells {t ti ts te tf ef : TypeId} {a0 a1 a2 a3 a4 f0 f1 f2 f3 : Field} {n : Nat} {v0 v1 v2 v3 v4 : Value} {y : DataW H × List MemPlace} (ha : P.underlying t = some (.struct #[a0, a1, a2, a3, a4])) (u0 : a0.type = ti ∧ a0.offset = 0) (u1 : a1.type = ti ∧ a1.offset = 1) (u2 : a2.type = ti ∧ a2.offset = 2) (u3 : a3.type = ts ∧ a3.offset = 3) (u4 : a4.type = tf ∧ a4.offset = 4)
    (ht : P.underlying tf = some (.slice ef)) (he : P.underlying ef = some (.struct #[f0, f1, f2, f3])) (ce : P.cellsOf ef = 4) (t0 : f0.type = ti ∧ f0.offset = 0) (t1 : f1.type = ti ∧ f1.offset = 1) (t2 : f2.type = ti ∧ f2.offset = 2) (t3 : f3.type = ts ∧ f3.offset = 3)
    (hi : P.underlying ti = some (.int .i64)) (hs : P.underlying ts = some (.slice te)) (hu : P.underlying te = some (.int .u8)) (hc : P.cellsOf ti = 1) (hcs : P.cellsOf ts = 1) (hcf : P.cellsOf tf = 1) (hce : P.cellsOf te = 1)
    (h : DataW.trod enc P w base spare held n t [v0, v1, v2, v3, v4] = some y) : ∃ x : Ac, v0 = .int .i64 x.k ∧ v1 = .int .i64 x.i ∧ v2 = .int .i64 x.n ∧ SeesL w w.heap.size v3 x.d ∧ SeesF w w.heap.size v4 x.f ∧ bytesL x.d := by
  obtain ⟨y0, y1, y2, y3, y4, q, _, g0, g1, g2, g3, g4⟩ := trod_struct5 ha h
  rw [u0.1, u0.2, hc] at g0
  rw [u1.1, u1.2, hc] at g1
  rw [u2.1, u2.2, hc] at g2
  rw [u3.1, u3.2, hcs] at g3
  rw [u4.1, u4.2, hcf] at g4
  obtain ⟨z0, rfl⟩ := int_cella hi g0
  obtain ⟨z1, rfl⟩ := int_cella hi g1
  obtain ⟨z2, rfl⟩ := int_cella hi g2
  obtain ⟨A', c', l, rfl, hS, hB⟩ := sees_list hs hu hce g3
  obtain ⟨lf, hF⟩ := sees_faults (v := v4) ht he ce t0 t1 t2 t3 hi hs hu hc hcs hce g4
  exact ⟨⟨z0, z1, z2, l, lf⟩, rfl, rfl, rfl, hS, hF, hB⟩
theorem sees_acs {t e ti ts te tf ef : TypeId} {a0 a1 a2 a3 a4 f0 f1 f2 f3 : Field} {A : Option Addr} {n c : Nat} {d : DataW H} {ps : List MemPlace} (hts : P.underlying t = some (.slice e)) (ha : P.underlying e = some (.struct #[a0, a1, a2, a3, a4])) (ca : P.cellsOf e = 5) (u0 : a0.type = ti ∧ a0.offset = 0) (u1 : a1.type = ti ∧ a1.offset = 1) (u2 : a2.type = ti ∧ a2.offset = 2) (u3 : a3.type = ts ∧ a3.offset = 3) (u4 : a4.type = tf ∧ a4.offset = 4)
    (ht : P.underlying tf = some (.slice ef)) (he : P.underlying ef = some (.struct #[f0, f1, f2, f3])) (ce : P.cellsOf ef = 4) (t0 : f0.type = ti ∧ f0.offset = 0) (t1 : f1.type = ti ∧ f1.offset = 1) (t2 : f2.type = ti ∧ f2.offset = 2) (t3 : f3.type = ts ∧ f3.offset = 3)
    (hi : P.underlying ti = some (.int .i64)) (hs : P.underlying ts = some (.slice te)) (hu : P.underlying te = some (.int .u8)) (hc : P.cellsOf ti = 1) (hcs : P.cellsOf ts = 1) (hcf : P.cellsOf tf = 1) (hce : P.cellsOf te = 1)
    (h : DataW.Trod enc P w base spare held t (.slice A n c) d ps) : ∃ l, SeesAc w w.heap.size (.slice A n c) l := by
  obtain ⟨fuel, h⟩ := h
  rcases open_slice hts h with ⟨hv, -⟩ | ⟨a, len, cap, m, k, Dt, Pl, hv, -, hl, hm, hmm, -, hx⟩
  · simp [Value.cells] at hv
    obtain ⟨rfl, rfl, rfl⟩ := hv
    exact ⟨[], SeesAc.nil⟩
  · simp [Value.cells] at hv
    obtain ⟨rfl, rfl, rfl⟩ := hv
    have hlm : n ≤ m := by rw [hmm]; split <;> omega
    have each : ∀ i, i < n → ∃ x : Ac × Value × Value, (w.cell? (a.add (i * 5)) = some (.int .i64 x.1.k) ∧ w.cell? (a.add (i * 5 + 1)) = some (.int .i64 x.1.i) ∧ w.cell? (a.add (i * 5 + 2)) = some (.int .i64 x.1.n) ∧ w.cell? (a.add (i * 5 + 3)) = some x.2.1 ∧ w.cell? (a.add (i * 5 + 4)) = some x.2.2) ∧ SeesL w w.heap.size x.2.1 x.1.d ∧ SeesF w w.heap.size x.2.2 x.1.f ∧ bytesL x.1.d := by
      intro i hi'
      obtain ⟨cs', h1, h2⟩ := hx i (by omega)
      rw [ca] at h1
      obtain ⟨_, hlen, hcell⟩ := World.cells?_some h1
      match cs', hlen with
      | [v0, v1, v2, v3, v4], _ =>
        obtain ⟨x, rfl, rfl, rfl, hS, hF, hB⟩ := act_cells ha u0 u1 u2 u3 u4 ht he ce t0 t1 t2 t3 hi hs hu hc hcs hcf hce h2
        have e0 := hcell 0 (by omega)
        have e1 := hcell 1 (by omega)
        have e2 := hcell 2 (by omega)
        have e3 := hcell 3 (by omega)
        have e4 := hcell 4 (by omega)
        rw [add_add] at e0 e1 e2 e3 e4
        exact ⟨(x, v3, v4), ⟨by simpa using e0, by simpa using e1, by simpa using e2, by simpa using e3, by simpa using e4⟩, hS, hF, hB⟩
    obtain ⟨f, hf⟩ := choose_lt each
    have hg : ∀ k, k < n → ((List.range n).map fun i => (f i).1).getD k default = (f k).1 := fun k hk => by simp [List.getD_eq_getElem?_getD, hk]
    refine ⟨(List.range n).map fun i => (f i).1, ⟨⟨some a, c, by simp, by simpa using hl, hm, fun h0 => ?_⟩, fun x hx => ?_⟩⟩
    · simp only [List.length_map, List.length_range] at h0 ⊢
      have h00 := (hf 0 h0).1.1
      obtain ⟨b, off, rfl, hbb⟩ := addr_at (v := .int .i64 (f 0).1.k) (by simpa using h00)
      have hadd : ∀ j, (⟨b, off, none⟩ : Addr).add j = ⟨b, off + j, none⟩ := fun j => by unfold Addr.add; split <;> simp_all
      simp only [hadd] at hf
      refine ⟨b, off, rfl, hbb, fun k hk => ?_⟩
      obtain ⟨⟨e0, e1, e2, e3, e4⟩, hS, hF, -⟩ := hf k hk
      rw [hg k hk]
      exact ⟨e0, by rw [Nat.add_assoc]; exact e1, by rw [Nat.add_assoc]; exact e2, ⟨_, by rw [Nat.add_assoc]; exact e3, hS⟩, _, by rw [Nat.add_assoc]; exact e4, hF⟩
    · simp only [List.mem_map, List.mem_range] at hx
      obtain ⟨i, hi', rfl⟩ := hx
      exact (hf i hi').2.2.2
/-- An act that came in by value. -/
theorem sees_ac {r : Reach} {b0 : Nat} {t ti ts te tf ef : TypeId} {a0 a1 a2 a3 a4 f0 f1 f2 f3 : Field} {v : Value} {d : DataW H} {ps : List MemPlace} (ha : P.underlying t = some (.struct #[a0, a1, a2, a3, a4])) (ca : P.cellsOf t = 5) (u0 : a0.type = ti ∧ a0.offset = 0) (u1 : a1.type = ti ∧ a1.offset = 1) (u2 : a2.type = ti ∧ a2.offset = 2) (u3 : a3.type = ts ∧ a3.offset = 3) (u4 : a4.type = tf ∧ a4.offset = 4)
    (ht : P.underlying tf = some (.slice ef)) (he : P.underlying ef = some (.struct #[f0, f1, f2, f3])) (ce : P.cellsOf ef = 4) (t0 : f0.type = ti ∧ f0.offset = 0) (t1 : f1.type = ti ∧ f1.offset = 1) (t2 : f2.type = ti ∧ f2.offset = 2) (t3 : f3.type = ts ∧ f3.offset = 3)
    (hi : P.underlying ti = some (.int .i64)) (hs : P.underlying ts = some (.slice te)) (hu : P.underlying te = some (.int .u8)) (hc : P.cellsOf ti = 1) (hcs : P.cellsOf ts = 1) (hcf : P.cellsOf tf = 1) (hce : P.cellsOf te = 1)
    (hv : Value.okWide P w r b0 t v) (h : DataW.Trod enc P w base spare held t v d ps) : ∃ (x : Ac) (vd vf : Value), v = .agg #[.int .i64 x.k, .int .i64 x.i, .int .i64 x.n, vd, vf] ∧ SeesL w w.heap.size vd x.d ∧ SeesF w w.heap.size vf x.f ∧ bytesL x.d := by
  obtain ⟨cs, rfl, hsz⟩ := okWide_struct ha hv
  obtain ⟨v0, v1, v2, v3, v4, rfl⟩ := array5 (hsz.trans ca)
  obtain ⟨fuel, hf⟩ := h
  have hf' : DataW.trod enc P w base spare held fuel t [v0, v1, v2, v3, v4] = some (d, ps) := by simpa [Value.cells] using hf
  obtain ⟨x, rfl, rfl, rfl, hS, hF, hB⟩ := act_cells ha u0 u1 u2 u3 u4 ht he ce t0 t1 t2 t3 hi hs hu hc hcs hcf hce hf'
  exact ⟨x, v3, v4, rfl, hS, hF, hB⟩
end
end Go.Proofs.Ytkaeikjfegjpjaa
