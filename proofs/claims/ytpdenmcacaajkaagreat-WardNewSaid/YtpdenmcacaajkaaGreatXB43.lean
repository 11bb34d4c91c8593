/- Texts RfN in one. For what each says in front of its theorems. -/
import Derived.Deep.RegionHeld3
import Derived.RegionTactic
import Derived.Laws.MakeOwn
import Derived.Test.YtpdenmcacaajkaaGreatXB5
import Derived.Test.YtpdenmcacaajkaaGreatXB24
import Derived.Test.YtpdenmcacaajkaaGreatXB42
/-! ### RfN -/
namespace Go.Proofs.YtpdenmcacaajkaaGreat
open Go.RowKit
open Tb (D T)

theorem in_r9 (n a b : Int) (w : World) : Calls Tryz.prog 60 #[.int .i64 n, .int .i64 a, .int .i64 b] w fun e w' => e = .returned (.bool (Tb.wi n a b)) ∧ w = w' := by
  unfold Tb.wi
  by_cases h : a ≤ n
  all_goals
    go_enter Tryz.func60, Tryz.ntmps60
    go_wp2
    go_ret
    exact ⟨by simp [*] <;> omega, rfl⟩
theorem new_r7 (w : World) : Calls Tryz.prog 23 #[.int .i64 0] w fun e w' => (∃ g, e = .returned (.pointer (some ⟨g, 0, none⟩))) ∧ Below w.heap.size w w' := by
  have h0 : bits BinOp.and IntKind.i64 0 255 = 0 := by decide
  go_enter Tryz.func23, Tryz.ntmps23
  go_wp2
  go_ret
  exact ⟨⟨_, rfl⟩, (Below.refl _ _).alloc (Nat.le_refl _) _⟩
theorem new_r8 (w : World) : Calls Tryz.prog 24 #[] w fun e w' => (∃ g, e = .returned (.pointer (some ⟨g, 0, none⟩))) ∧ Below w.heap.size w w' :=
  (new_rf w).mono fun _ _ ⟨g, h, _, _, b⟩ => ⟨⟨g, h⟩, b⟩
/-- Does a rule break off? -/
def mayB (q : R4) : Bool := Tb.wi q.n 0 7 && Tb.wi q.lo 0 255 && Tb.wi q.hi q.lo 255 && Tb.wi q.st 0 65535
theorem mayB_iff (q : R4) : mayB q = decide q.may := by
  have h : mayB q = true ↔ q.may := by
    unfold mayB R4.may
    simp only [Bool.and_eq_true, Tb.wi_iff, and_assoc]
  rw [Bool.eq_iff_iff, h]
  exact decide_eq_true_iff.symm
theorem run_make_rowN {P : Program} (t e : TypeId) (i : TypeInfo) (z : Value) (ht : P.underlying t = some (.slice e)) (hi : P.info? e = some i) (hz : i.zero = some z)
    (kl kc : IntKind) (n c : Nat) (hnc : n ≤ c) (hbytes : i.bytes * c ≤ 281474976710656) (h63 : c ≤ 9223372036854775807) (w : World) :
    (Instr.makeSlice t (.int kl (n : Int)) (.int kc (c : Int))).run P w = .ok (.slice (some ⟨w.heap.size, 0, none⟩) n c) (w.alloc (.cells (madeCells z.cells (c * i.size)) e)) := by
  have hb : (i.bytes : Int) * (c : Int) ≤ 281474976710656 := by
    have h : ((i.bytes * c : Nat) : Int) ≤ 281474976710656 := by omega
    rwa [Int.natCast_mul] at h
  have hr := run_make (P := P) w t e i z ht hi hz kl kc n c (by omega) (by omega) hb (by omega)
  simp only [Int.toNat_natCast] at hr
  exact hr
set_option maxRecDepth 100000 in
set_option maxHeartbeats 4000000 in
theorem new_r9_no (l : List R4) (v : Value) (w : World) (hv : SeesRs w w.heap.size v l) (h : ¬ rulesOk l) :
    Calls Tryz.prog 21 #[v] w fun e w' => e = .returned (.tuple #[.pointer none, .int .i64 1]) ∧ Below w.heap.size w w' := by
  obtain ⟨A, c, rfl, v1, v2, v3, -⟩ := hv.at_
  unfold maxLen at v2
  by_cases h8 : 8 < l.length
  · have d0 : decide ((8 : Int) < ((l.length : Nat) : Int)) = true := decide_eq_true (by omega)
    clear v3 hv h
    go_enter Tryz.func21, Tryz.ntmps21
    go_wp2
    go_ret2
    exact ⟨rfl, Below.refl _ _⟩
  have d0 : decide ((8 : Int) < ((l.length : Nat) : Int)) = false := decide_eq_false (by omega)
  have HX : Hid (0 < l.length → ∃ b off, A = some ⟨b, off, none⟩ ∧ ∀ W, Below w.heap.size w W → ∀ k, k < l.length → AtRl W b (off + k * 4) (l.getD k default)) := Lib.hid fun h0 => by
    obtain ⟨b, off, hA, hb, hc⟩ := v3 h0
    exact ⟨b, off, hA, fun W hW k hk => (hc k hk).keep fun o => hW.cell (p := ⟨b, o, none⟩) (by show b < _; omega)⟩
  have hm : Hid (¬ ∀ k, k < l.length → (l.getD k default).may) := Lib.hid fun h' => h ⟨by omega, h'⟩
  clear v3 hv h
  go_enter Tryz.func21, Tryz.ntmps21
  go_wp2_with fail
  go_loopw [4] (fun i wr => ∃ k : Nat, k ≤ l.length ∧ i = .int .i64 k ∧ (∀ j, j < k → (l.getD j default).may) ∧ Below w.heap.size w wr) (fun i _ => l.length - (intOf i).toNat)
  case atStart => exact ⟨0, by omega, rfl, fun j hj => by omega, Below.refl _ _⟩
  case round =>
    obtain ⟨k, hk, rfl, hM, b⟩ := hrel
    by_cases hlt : k < l.length
    · have r1 : decide ((k : Int) < ((l.length : Nat) : Int)) = true := decide_eq_true (by omega)
      obtain ⟨bl, off, rfl, HG⟩ := HX.out (by omega)
      obtain ⟨x0, x1, x2, x3⟩ := HG _ b k hlt
      have hK : Hid ((l.getD k default).may → ∀ j, j < k + 1 → (l.getD j default).may) := Lib.hid fun h j hj => by
        by_cases e : j = k
        · subst e; exact h
        · exact hM j (by omega)
      clear HG HX hM
      generalize l.getD k default = q at *
      have hq := Lib.hid (mayB_iff q)
      obtain ⟨qn, ql, qh, qs⟩ := q
      have hq2 : ∀ n a b t, Tb.wi n a b = t → ∀ W, Hid (Calls Tryz.prog 60 #[.int .i64 n, .int .i64 a, .int .i64 b] W fun e w' => e = .returned (.bool t) ∧ W = w') := by
        rintro n a b t rfl W
        exact Lib.hid (in_r9 n a b W)
      simp only at x0 x1 x2 x3
      have hb2 := b.alloc b.size (.cells #[.int .i64 qn, .int .i64 ql, .int .i64 qh, .int .i64 qs] 80)
      cases q0 : Tb.wi qn 0 7
      · have f0 := hq2 _ _ _ _ q0
        clear q0 hq2 hK hq
        go_wp2_with fail
        refine (f0 _).out.mono ?_
        rintro _ w2 ⟨rfl, rfl⟩
        go_wp2
        go_ret2
        exact ⟨rfl, hb2⟩
      cases q1 : Tb.wi ql 0 255
      · have f0 := hq2 _ _ _ _ q0
        have f1 := hq2 _ _ _ _ q1
        clear q0 q1 hq2 hK hq
        go_wp2_with fail
        refine (f0 _).out.mono ?_
        rintro _ w2 ⟨rfl, rfl⟩
        go_wp2_with fail
        refine (f1 _).out.mono ?_
        rintro _ w3 ⟨rfl, rfl⟩
        go_wp2
        go_ret2
        exact ⟨rfl, hb2⟩
      cases q2 : Tb.wi qh ql 255
      · have f0 := hq2 _ _ _ _ q0
        have f1 := hq2 _ _ _ _ q1
        have f2 := hq2 _ _ _ _ q2
        clear q0 q1 q2 hq2 hK hq
        go_wp2_with fail
        refine (f0 _).out.mono ?_
        rintro _ w2 ⟨rfl, rfl⟩
        go_wp2_with fail
        refine (f1 _).out.mono ?_
        rintro _ w3 ⟨rfl, rfl⟩
        go_wp2_with fail
        refine (f2 _).out.mono ?_
        rintro _ w4 ⟨rfl, rfl⟩
        go_wp2
        go_ret2
        exact ⟨rfl, hb2⟩
      cases q3 : Tb.wi qs 0 65535
      · have f0 := hq2 _ _ _ _ q0
        have f1 := hq2 _ _ _ _ q1
        have f2 := hq2 _ _ _ _ q2
        have f3 := hq2 _ _ _ _ q3
        clear q0 q1 q2 q3 hq2 hK hq
        go_wp2_with fail
        refine (f0 _).out.mono ?_
        rintro _ w2 ⟨rfl, rfl⟩
        go_wp2_with fail
        refine (f1 _).out.mono ?_
        rintro _ w3 ⟨rfl, rfl⟩
        go_wp2_with fail
        refine (f2 _).out.mono ?_
        rintro _ w4 ⟨rfl, rfl⟩
        go_wp2_with fail
        refine (f3 _).out.mono ?_
        rintro _ w5 ⟨rfl, rfl⟩
        go_wp2
        go_ret2
        exact ⟨rfl, hb2⟩
      have hK := hK.out (by have := hq.out; unfold mayB at this; simp only [q0, q1, q2, q3] at this; exact of_decide_eq_true this.symm)
      have f0 := hq2 _ _ _ _ q0
      have f1 := hq2 _ _ _ _ q1
      have f2 := hq2 _ _ _ _ q2
      have f3 := hq2 _ _ _ _ q3
      clear q0 q1 q2 q3 hq2 hq
      go_wp2_with fail
      refine (f0 _).out.mono ?_
      rintro _ w2 ⟨rfl, rfl⟩
      go_wp2_with fail
      refine (f1 _).out.mono ?_
      rintro _ w3 ⟨rfl, rfl⟩
      go_wp2_with fail
      refine (f2 _).out.mono ?_
      rintro _ w4 ⟨rfl, rfl⟩
      go_wp2_with fail
      refine (f3 _).out.mono ?_
      rintro _ w5 ⟨rfl, rfl⟩
      go_wp2
      go_roundw
      case rel => exact ⟨k + 1, by omega, by go_num, hK, hb2⟩
      case measure => simp [intOf]; omega
    · obtain rfl : k = l.length := by omega
      exact absurd hM hm.out
set_option maxRecDepth 100000 in
set_option maxHeartbeats 4000000 in
theorem new_r9_ok (l : List R4) (v : Value) (w : World) (hv : SeesRs w w.heap.size v l) (h : rulesOk l) :
    Calls Tryz.prog 21 #[v] w fun e w' => (∃ g, e = .returned (.tuple #[.pointer (some ⟨g, 0, none⟩), .int .i64 0])) ∧ Below w.heap.size w w' := by
  obtain ⟨A, c, rfl, v1, v2, v3, -⟩ := hv.at_
  unfold maxLen at v2
  have h8 := h.1
  have d0 : decide ((8 : Int) < ((l.length : Nat) : Int)) = false := decide_eq_false (by omega)
  have HX : Hid (0 < l.length → ∃ b off, A = some ⟨b, off, none⟩ ∧ ∀ W, Below w.heap.size w W → ∀ k, k < l.length → AtRl W b (off + k * 4) (l.getD k default)) := Lib.hid fun h0 => by
    obtain ⟨b, off, hA, hb, hc⟩ := v3 h0
    exact ⟨b, off, hA, fun W hW k hk => (hc k hk).keep fun o => hW.cell (p := ⟨b, o, none⟩) (by show b < _; omega)⟩
  have hm := Lib.hid h.2
  obtain ⟨i0, hi, hz0, hz1, hz2⟩ := info_parts infoInt
  have hmk := fun W => Lib.hid (run_make_rowN (P := Tryz.prog) 46 3 i0 (.int .i64 0) Tryz.underlying46 hi hz0 .i64 .i64 l.length l.length (Nat.le_refl _) (by rw [hz2]; omega) (by omega) W)
  clear v3 hv h
  go_enter Tryz.func21, Tryz.ntmps21
  go_wp2_with fail
  go_loopw [4] (fun i wr => ∃ k : Nat, k ≤ l.length ∧ i = .int .i64 k ∧ Below w.heap.size w wr) (fun i _ => l.length - (intOf i).toNat)
  case atStart => exact ⟨0, by omega, rfl, Below.refl _ _⟩
  case round =>
    obtain ⟨k, hk, rfl, b⟩ := hrel
    by_cases hlt : k < l.length
    · have r1 : decide ((k : Int) < ((l.length : Nat) : Int)) = true := decide_eq_true (by omega)
      obtain ⟨bl, off, rfl, HG⟩ := HX.out (by omega)
      obtain ⟨x0, x1, x2, x3⟩ := HG _ b k hlt
      have hmk0 := hm.out k hlt
      clear HG HX hm hmk
      generalize l.getD k default = q at *
      have hq := mayB_iff q
      rw [decide_eq_true hmk0] at hq
      clear hmk0
      obtain ⟨qn, ql, qh, qs⟩ := q
      have hq2 : ∀ n a b t, Tb.wi n a b = t → ∀ W, Hid (Calls Tryz.prog 60 #[.int .i64 n, .int .i64 a, .int .i64 b] W fun e w' => e = .returned (.bool t) ∧ W = w') := by
        rintro n a b t rfl W
        exact Lib.hid (in_r9 n a b W)
      simp only at x0 x1 x2 x3
      have hb2 := b.alloc b.size (.cells #[.int .i64 qn, .int .i64 ql, .int .i64 qh, .int .i64 qs] 80)
      unfold mayB at hq
      simp only [Bool.and_eq_true] at hq
      obtain ⟨⟨⟨q0, q1⟩, q2⟩, q3⟩ := hq
      have f0 := hq2 _ _ _ _ q0
      have f1 := hq2 _ _ _ _ q1
      have f2 := hq2 _ _ _ _ q2
      have f3 := hq2 _ _ _ _ q3
      clear q0 q1 q2 q3 hq2
      go_wp2_with fail
      refine (f0 _).out.mono ?_
      rintro _ w2 ⟨rfl, rfl⟩
      go_wp2_with fail
      refine (f1 _).out.mono ?_
      rintro _ w3 ⟨rfl, rfl⟩
      go_wp2_with fail
      refine (f2 _).out.mono ?_
      rintro _ w4 ⟨rfl, rfl⟩
      go_wp2_with fail
      refine (f3 _).out.mono ?_
      rintro _ w5 ⟨rfl, rfl⟩
      go_wp2
      go_roundw
      case rel => exact ⟨k + 1, by omega, by go_num, hb2⟩
      case measure => simp [intOf]; omega
    · obtain rfl : k = l.length := by omega
      have m0 := fun W => (hmk W).out
      clear HX hm hmk
      go_wp2_with fail
      go_region
      all_goals
        go_wp2
        go_ret2
        refine ⟨⟨_, rfl⟩, ?_⟩
        have hs := b.size
        exact (((b.alloc hs _).alloc (by simp; omega) _).alloc (by simp; omega) _).drew
/-- matronref10.New: what it asks first. -/
def N10 (t : Tb.T) (v u : Value) (i dr : Int) (w : World) (R : Value → Prop) : Prop :=
    Calls Tryz.prog 8 #[tabV t v, .int .i64 i, .int .i64 dr, u] w fun e w' => (∃ x, R x ∧ e = .returned x) ∧ Below w.heap.size w w'
def N10no (x : Value) : Prop := x = .tuple #[.pointer none, .int .i64 1]
def N10ok (x : Value) : Prop := ∃ g, x = .tuple #[.pointer (some ⟨g, 0, none⟩), .int .i64 0]
set_option maxRecDepth 100000 in
set_option maxHeartbeats 4000000 in
theorem n10_1 (t : Tb.T) (v u : Value) (i dr : Int) (l : List R4) (w : World) (hv : SeesT w w.heap.size v t.ns) (hu : SeesRs w w.heap.size u l) (h : ¬ rulesOk l) : N10 t v u i dr w N10no := by
  unfold N10 N10no
  obtain ⟨A, c, rfl, n1, n2, -, -⟩ := hv.at_
  obtain ⟨Ar, cr, rfl, r1, r2, -, -⟩ := hu.at_
  have hb0 := (Below.refl w.heap.size w).alloc (Nat.le_refl _) (.cells #[.slice A t.ns.length c, .int .i64 t.dr, .int .i64 t.wi, .int .i64 t.lm] 29)
  have hX := Blk.new w w.heap.size rfl #[.slice A t.ns.length c, .int .i64 t.dr, .int .i64 t.wi, .int .i64 t.lm] 29
  have hu1 := (hu.below hb0).more hb0.size
  have hI := fun W (hW : Below w.heap.size w W) => Lib.hid (is_rf t (.slice A t.ns.length c) W W.heap.size (Nat.le_refl _) ((hv.below hW).more hW.size))
  have hN := Lib.hid (new_r9_no l _ _ hu1 h)
  unfold tabV
  clear hX hu1 hI hv hu h
  go_enter Tryz.func8, Tryz.ntmps8
  go_wp2_with fail
  refine hN.out.mono ?_
  rintro _ w2 ⟨rfl, b2⟩
  have b2 := hb0.trans (b2.mono hb0.size)
  go_wp2
  go_ret2
  exact ⟨⟨_, rfl, rfl⟩, b2⟩
set_option maxRecDepth 100000 in
set_option maxHeartbeats 4000000 in
theorem n10_2 (t : Tb.T) (v u : Value) (i dr : Int) (l : List R4) (w : World) (hv : SeesT w w.heap.size v t.ns) (hu : SeesRs w w.heap.size u l) (h : rulesOk l) (ht : ¬ t.is = true) : N10 t v u i dr w N10no := by
  unfold N10 N10no
  obtain ⟨A, c, rfl, n1, n2, -, -⟩ := hv.at_
  obtain ⟨Ar, cr, rfl, r1, r2, -, -⟩ := hu.at_
  have hb0 := (Below.refl w.heap.size w).alloc (Nat.le_refl _) (.cells #[.slice A t.ns.length c, .int .i64 t.dr, .int .i64 t.wi, .int .i64 t.lm] 29)
  have hX := Blk.new w w.heap.size rfl #[.slice A t.ns.length c, .int .i64 t.dr, .int .i64 t.wi, .int .i64 t.lm] 29
  have hu1 := (hu.below hb0).more hb0.size
  have hI := fun W (hW : Below w.heap.size w W) => Lib.hid (is_rf t (.slice A t.ns.length c) W W.heap.size (Nat.le_refl _) ((hv.below hW).more hW.size))
  have hN := Lib.hid (new_r9_ok l _ _ hu1 h)
  rw [show t.is = false by simpa using ht] at hI
  unfold tabV at *
  clear hu1 hv hu h
  go_enter Tryz.func8, Tryz.ntmps8
  go_wp2_with fail
  refine hN.out.mono ?_
  rintro _ w2 ⟨⟨ga, rfl⟩, b2⟩
  have hX2 := hX.below b2 (by simp)
  have b2 := hb0.trans (b2.mono hb0.size)
  have x0 := hX2.cell 0 (x := .slice A t.ns.length c) rfl
  have x1 := hX2.cell 1 (x := .int .i64 t.dr) rfl
  have x2 := hX2.cell 2 (x := .int .i64 t.wi) rfl
  have x3 := hX2.cell 3 (x := .int .i64 t.lm) rfl
  have hI := hI w2 b2
  clear hX hb0
  go_wp2_with fail
  refine hI.out.mono ?_
  rintro _ w3 ⟨rfl, b3⟩
  have hX3 := hX2.below b3 hX2.lt
  have b3 := b2.trans (b3.mono b2.size)
  clear x0 x1 x2 x3
  have x0 := hX3.cell 0 (x := .slice A t.ns.length c) rfl
  have x1 := hX3.cell 1 (x := .int .i64 t.dr) rfl
  have x2 := hX3.cell 2 (x := .int .i64 t.wi) rfl
  have x3 := hX3.cell 3 (x := .int .i64 t.lm) rfl
  go_wp2
  go_ret2
  exact ⟨⟨_, rfl, rfl⟩, b3⟩
set_option maxRecDepth 100000 in
set_option maxHeartbeats 4000000 in
theorem n10_3 (t : Tb.T) (v u : Value) (i dr : Int) (l : List R4) (w : World) (hv : SeesT w w.heap.size v t.ns) (hu : SeesRs w w.heap.size u l) (h : rulesOk l) (ht : t.is = true) (hi : i < 0) : N10 t v u i dr w N10no := by
  unfold N10 N10no
  obtain ⟨A, c, rfl, n1, n2, -, -⟩ := hv.at_
  obtain ⟨Ar, cr, rfl, r1, r2, -, -⟩ := hu.at_
  have hb0 := (Below.refl w.heap.size w).alloc (Nat.le_refl _) (.cells #[.slice A t.ns.length c, .int .i64 t.dr, .int .i64 t.wi, .int .i64 t.lm] 29)
  have hX := Blk.new w w.heap.size rfl #[.slice A t.ns.length c, .int .i64 t.dr, .int .i64 t.wi, .int .i64 t.lm] 29
  have hu1 := (hu.below hb0).more hb0.size
  have hI := fun W (hW : Below w.heap.size w W) => Lib.hid (is_rf t (.slice A t.ns.length c) W W.heap.size (Nat.le_refl _) ((hv.below hW).more hW.size))
  have hN := Lib.hid (new_r9_ok l _ _ hu1 h)
  have tm := Tb.T.may ht
  have n8 := tm.n8
  have d1 := tm.dr.1
  have d2 := tm.dr.2
  rw [ht] at hI
  unfold tabV at *
  clear hu1 hv hu h
  go_enter Tryz.func8, Tryz.ntmps8
  go_wp2_with fail
  refine hN.out.mono ?_
  rintro _ w2 ⟨⟨ga, rfl⟩, b2⟩
  have hX2 := hX.below b2 (by simp)
  have b2 := hb0.trans (b2.mono hb0.size)
  have x0 := hX2.cell 0 (x := .slice A t.ns.length c) rfl
  have x1 := hX2.cell 1 (x := .int .i64 t.dr) rfl
  have x2 := hX2.cell 2 (x := .int .i64 t.wi) rfl
  have x3 := hX2.cell 3 (x := .int .i64 t.lm) rfl
  have hI := hI w2 b2
  clear hX hb0
  go_wp2_with fail
  refine hI.out.mono ?_
  rintro _ w3 ⟨rfl, b3⟩
  have hX3 := hX2.below b3 hX2.lt
  have b3 := b2.trans (b3.mono b2.size)
  clear x0 x1 x2 x3
  have x0 := hX3.cell 0 (x := .slice A t.ns.length c) rfl
  have x1 := hX3.cell 1 (x := .int .i64 t.dr) rfl
  have x2 := hX3.cell 2 (x := .int .i64 t.wi) rfl
  have x3 := hX3.cell 3 (x := .int .i64 t.lm) rfl
  go_wp2
  go_ret2
  exact ⟨⟨_, rfl, rfl⟩, b3⟩
set_option maxRecDepth 100000 in
set_option maxHeartbeats 4000000 in
theorem n10_4 (t : Tb.T) (v u : Value) (i dr : Int) (l : List R4) (w : World) (hv : SeesT w w.heap.size v t.ns) (hu : SeesRs w w.heap.size u l) (h : rulesOk l) (ht : t.is = true) (hi : 0 ≤ i) (hj : (t.ns.length : Int) ≤ i) : N10 t v u i dr w N10no := by
  unfold N10 N10no
  obtain ⟨A, c, rfl, n1, n2, -, -⟩ := hv.at_
  obtain ⟨Ar, cr, rfl, r1, r2, -, -⟩ := hu.at_
  have hb0 := (Below.refl w.heap.size w).alloc (Nat.le_refl _) (.cells #[.slice A t.ns.length c, .int .i64 t.dr, .int .i64 t.wi, .int .i64 t.lm] 29)
  have hX := Blk.new w w.heap.size rfl #[.slice A t.ns.length c, .int .i64 t.dr, .int .i64 t.wi, .int .i64 t.lm] 29
  have hu1 := (hu.below hb0).more hb0.size
  have hI := fun W (hW : Below w.heap.size w W) => Lib.hid (is_rf t (.slice A t.ns.length c) W W.heap.size (Nat.le_refl _) ((hv.below hW).more hW.size))
  have hN := Lib.hid (new_r9_ok l _ _ hu1 h)
  have tm := Tb.T.may ht
  have n8 := tm.n8
  have d1 := tm.dr.1
  have d2 := tm.dr.2
  rw [ht] at hI
  unfold tabV at *
  clear hu1 hv hu h
  go_enter Tryz.func8, Tryz.ntmps8
  go_wp2_with fail
  refine hN.out.mono ?_
  rintro _ w2 ⟨⟨ga, rfl⟩, b2⟩
  have hX2 := hX.below b2 (by simp)
  have b2 := hb0.trans (b2.mono hb0.size)
  have x0 := hX2.cell 0 (x := .slice A t.ns.length c) rfl
  have x1 := hX2.cell 1 (x := .int .i64 t.dr) rfl
  have x2 := hX2.cell 2 (x := .int .i64 t.wi) rfl
  have x3 := hX2.cell 3 (x := .int .i64 t.lm) rfl
  have hI := hI w2 b2
  clear hX hb0
  go_wp2_with fail
  refine hI.out.mono ?_
  rintro _ w3 ⟨rfl, b3⟩
  have hX3 := hX2.below b3 hX2.lt
  have b3 := b2.trans (b3.mono b2.size)
  clear x0 x1 x2 x3
  have x0 := hX3.cell 0 (x := .slice A t.ns.length c) rfl
  have x1 := hX3.cell 1 (x := .int .i64 t.dr) rfl
  have x2 := hX3.cell 2 (x := .int .i64 t.wi) rfl
  have x3 := hX3.cell 3 (x := .int .i64 t.lm) rfl
  go_wp2
  go_ret2
  exact ⟨⟨_, rfl, rfl⟩, b3⟩
set_option maxRecDepth 100000 in
set_option maxHeartbeats 4000000 in
theorem n10_5 (t : Tb.T) (v u : Value) (i dr : Int) (l : List R4) (w : World) (hv : SeesT w w.heap.size v t.ns) (hu : SeesRs w w.heap.size u l) (h : rulesOk l) (ht : t.is = true) (hi : 0 ≤ i) (hj : i < (t.ns.length : Int)) (hd : dr < -t.dr) : N10 t v u i dr w N10no := by
  unfold N10 N10no
  obtain ⟨A, c, rfl, n1, n2, -, -⟩ := hv.at_
  obtain ⟨Ar, cr, rfl, r1, r2, -, -⟩ := hu.at_
  have hb0 := (Below.refl w.heap.size w).alloc (Nat.le_refl _) (.cells #[.slice A t.ns.length c, .int .i64 t.dr, .int .i64 t.wi, .int .i64 t.lm] 29)
  have hX := Blk.new w w.heap.size rfl #[.slice A t.ns.length c, .int .i64 t.dr, .int .i64 t.wi, .int .i64 t.lm] 29
  have hu1 := (hu.below hb0).more hb0.size
  have hI := fun W (hW : Below w.heap.size w W) => Lib.hid (is_rf t (.slice A t.ns.length c) W W.heap.size (Nat.le_refl _) ((hv.below hW).more hW.size))
  have hN := Lib.hid (new_r9_ok l _ _ hu1 h)
  have tm := Tb.T.may ht
  have n8 := tm.n8
  have d1 := tm.dr.1
  have d2 := tm.dr.2
  rw [ht] at hI
  unfold tabV at *
  clear hu1 hv hu h
  go_enter Tryz.func8, Tryz.ntmps8
  go_wp2_with fail
  refine hN.out.mono ?_
  rintro _ w2 ⟨⟨ga, rfl⟩, b2⟩
  have hX2 := hX.below b2 (by simp)
  have b2 := hb0.trans (b2.mono hb0.size)
  have x0 := hX2.cell 0 (x := .slice A t.ns.length c) rfl
  have x1 := hX2.cell 1 (x := .int .i64 t.dr) rfl
  have x2 := hX2.cell 2 (x := .int .i64 t.wi) rfl
  have x3 := hX2.cell 3 (x := .int .i64 t.lm) rfl
  have hI := hI w2 b2
  clear hX hb0
  go_wp2_with fail
  refine hI.out.mono ?_
  rintro _ w3 ⟨rfl, b3⟩
  have hX3 := hX2.below b3 hX2.lt
  have b3 := b2.trans (b3.mono b2.size)
  clear x0 x1 x2 x3
  have x0 := hX3.cell 0 (x := .slice A t.ns.length c) rfl
  have x1 := hX3.cell 1 (x := .int .i64 t.dr) rfl
  have x2 := hX3.cell 2 (x := .int .i64 t.wi) rfl
  have x3 := hX3.cell 3 (x := .int .i64 t.lm) rfl
  go_wp2
  go_ret2
  exact ⟨⟨_, rfl, rfl⟩, b3⟩
set_option maxRecDepth 100000 in
set_option maxHeartbeats 4000000 in
theorem n10_6 (t : Tb.T) (v u : Value) (i dr : Int) (l : List R4) (w : World) (hv : SeesT w w.heap.size v t.ns) (hu : SeesRs w w.heap.size u l) (h : rulesOk l) (ht : t.is = true) (hi : 0 ≤ i) (hj : i < (t.ns.length : Int)) (hd : -t.dr ≤ dr) (he : t.dr < dr) : N10 t v u i dr w N10no := by
  unfold N10 N10no
  obtain ⟨A, c, rfl, n1, n2, -, -⟩ := hv.at_
  obtain ⟨Ar, cr, rfl, r1, r2, -, -⟩ := hu.at_
  have hb0 := (Below.refl w.heap.size w).alloc (Nat.le_refl _) (.cells #[.slice A t.ns.length c, .int .i64 t.dr, .int .i64 t.wi, .int .i64 t.lm] 29)
  have hX := Blk.new w w.heap.size rfl #[.slice A t.ns.length c, .int .i64 t.dr, .int .i64 t.wi, .int .i64 t.lm] 29
  have hu1 := (hu.below hb0).more hb0.size
  have hI := fun W (hW : Below w.heap.size w W) => Lib.hid (is_rf t (.slice A t.ns.length c) W W.heap.size (Nat.le_refl _) ((hv.below hW).more hW.size))
  have hN := Lib.hid (new_r9_ok l _ _ hu1 h)
  have tm := Tb.T.may ht
  have n8 := tm.n8
  have d1 := tm.dr.1
  have d2 := tm.dr.2
  rw [ht] at hI
  unfold tabV at *
  clear hu1 hv hu h
  go_enter Tryz.func8, Tryz.ntmps8
  go_wp2_with fail
  refine hN.out.mono ?_
  rintro _ w2 ⟨⟨ga, rfl⟩, b2⟩
  have hX2 := hX.below b2 (by simp)
  have b2 := hb0.trans (b2.mono hb0.size)
  have x0 := hX2.cell 0 (x := .slice A t.ns.length c) rfl
  have x1 := hX2.cell 1 (x := .int .i64 t.dr) rfl
  have x2 := hX2.cell 2 (x := .int .i64 t.wi) rfl
  have x3 := hX2.cell 3 (x := .int .i64 t.lm) rfl
  have hI := hI w2 b2
  clear hX hb0
  go_wp2_with fail
  refine hI.out.mono ?_
  rintro _ w3 ⟨rfl, b3⟩
  have hX3 := hX2.below b3 hX2.lt
  have b3 := b2.trans (b3.mono b2.size)
  clear x0 x1 x2 x3
  have x0 := hX3.cell 0 (x := .slice A t.ns.length c) rfl
  have x1 := hX3.cell 1 (x := .int .i64 t.dr) rfl
  have x2 := hX3.cell 2 (x := .int .i64 t.wi) rfl
  have x3 := hX3.cell 3 (x := .int .i64 t.lm) rfl
  go_wp2
  go_ret2
  exact ⟨⟨_, rfl, rfl⟩, b3⟩
set_option maxRecDepth 100000 in
set_option maxHeartbeats 4000000 in
theorem n10_ok (t : Tb.T) (v u : Value) (i dr : Int) (l : List R4) (w : World) (hv : SeesT w w.heap.size v t.ns) (hu : SeesRs w w.heap.size u l) (h : rulesOk l) (ht : t.is = true) (hi : 0 ≤ i) (hj : i < (t.ns.length : Int)) (hd : -t.dr ≤ dr) (he : dr ≤ t.dr) : N10 t v u i dr w N10ok := by
  unfold N10 N10ok
  obtain ⟨A, c, rfl, n1, n2, -, -⟩ := hv.at_
  obtain ⟨Ar, cr, rfl, r1, r2, -, -⟩ := hu.at_
  have hb0 := (Below.refl w.heap.size w).alloc (Nat.le_refl _) (.cells #[.slice A t.ns.length c, .int .i64 t.dr, .int .i64 t.wi, .int .i64 t.lm] 29)
  have hX := Blk.new w w.heap.size rfl #[.slice A t.ns.length c, .int .i64 t.dr, .int .i64 t.wi, .int .i64 t.lm] 29
  have hu1 := (hu.below hb0).more hb0.size
  have hI := fun W (hW : Below w.heap.size w W) => Lib.hid (is_rf t (.slice A t.ns.length c) W W.heap.size (Nat.le_refl _) ((hv.below hW).more hW.size))
  have hN := Lib.hid (new_r9_ok l _ _ hu1 h)
  have tm := Tb.T.may ht
  have n8 := tm.n8
  have d1 := tm.dr.1
  have d2 := tm.dr.2
  rw [ht] at hI
  unfold tabV at *
  clear hu1 hv hu h
  go_enter Tryz.func8, Tryz.ntmps8
  go_wp2_with fail
  refine hN.out.mono ?_
  rintro _ w2 ⟨⟨ga, rfl⟩, b2⟩
  have hX2 := hX.below b2 (by simp)
  have b2 := hb0.trans (b2.mono hb0.size)
  have x0 := hX2.cell 0 (x := .slice A t.ns.length c) rfl
  have x1 := hX2.cell 1 (x := .int .i64 t.dr) rfl
  have x2 := hX2.cell 2 (x := .int .i64 t.wi) rfl
  have x3 := hX2.cell 3 (x := .int .i64 t.lm) rfl
  have hI := hI w2 b2
  clear hX hb0
  go_wp2_with fail
  refine hI.out.mono ?_
  rintro _ w3 ⟨rfl, b3⟩
  have hX3 := hX2.below b3 hX2.lt
  have b3 := b2.trans (b3.mono b2.size)
  clear x0 x1 x2 x3
  have R7 := fun W => Lib.hid (new_r7 W)
  have R8 := fun W => Lib.hid (new_r8 W)
  have x0 := hX3.cell 0 (x := .slice A t.ns.length c) rfl
  have x1 := hX3.cell 1 (x := .int .i64 t.dr) rfl
  have x2 := hX3.cell 2 (x := .int .i64 t.wi) rfl
  have x3 := hX3.cell 3 (x := .int .i64 t.lm) rfl
  have HS : ∀ W, Below w3.heap.size w3 W → W.cell? ⟨w.heap.size, 0, none⟩ = some (.slice A t.ns.length c) ∧ W.cell? ⟨w.heap.size, 1, none⟩ = some (.int .i64 t.dr) ∧ W.cell? ⟨w.heap.size, 2, none⟩ = some (.int .i64 t.wi) ∧ W.cell? ⟨w.heap.size, 3, none⟩ = some (.int .i64 t.lm) := fun W hW => by
    have hY := hX3.below hW hX3.lt
    exact ⟨hY.cell 0 rfl, hY.cell 1 rfl, hY.cell 2 rfl, hY.cell 3 rfl⟩
  have hb1 := Below.refl w3.heap.size w3
  go_wp2_with fail
  have S0 := Lib.hid (HS _ hb1.drew)
  have HH := Lib.hid (And.intro hX3 HS)
  clear hX3 HS hX2
  go_region_held3 (fun W => W.cell? ⟨w.heap.size, 0, none⟩ = some (.slice A t.ns.length c) ∧ W.cell? ⟨w.heap.size, 1, none⟩ = some (.int .i64 t.dr) ∧ W.cell? ⟨w.heap.size, 2, none⟩ = some (.int .i64 t.wi) ∧ W.cell? ⟨w.heap.size, 3, none⟩ = some (.int .i64 t.lm)) ((first | exact S0.out | exact S1.out | exact S2.out | exact HH.out.2 _ (b7.alloc b7.size _)))
    (first
      | (go_at_call 23; refine (R7 _).out.mono ?_; rintro _ w4 ⟨⟨g7, rfl⟩, b4⟩; (have b5 := hb1.drew.trans (b4.mono (by simp))); (have S1 := Lib.hid (HH.out.2 _ b5)))
      | (go_at_call 24; refine (R8 _).out.mono ?_; rintro _ w6 ⟨⟨g8, rfl⟩, b6⟩; (have b7 := b5.trans (b6.mono b5.size)); (have S2 := Lib.hid (HH.out.2 _ b7)))
      | fail)
  clear S0 S1 S2
  go_wp2
  go_ret2
  exact ⟨⟨_, ⟨_, rfl⟩, rfl⟩, b3.trans ((b7.alloc b7.size _).mono b3.size)⟩
theorem n10_yes (t : Tb.T) (v u : Value) (i dr : Int) (l : List R4) (w : World) (hv : SeesT w w.heap.size v t.ns) (hu : SeesRs w w.heap.size u l) (h : NM.may t i dr l) : N10 t v u i dr w N10ok :=
  n10_ok t v u i dr l w hv hu ⟨h.2.2.2.1, h.2.2.2.2⟩ h.1 h.2.1.1 h.2.1.2 h.2.2.1.1 h.2.2.1.2
theorem n10_no (t : Tb.T) (v u : Value) (i dr : Int) (l : List R4) (w : World) (hv : SeesT w w.heap.size v t.ns) (hu : SeesRs w w.heap.size u l) (h : ¬ NM.may t i dr l) : N10 t v u i dr w N10no := by
  by_cases h1 : rulesOk l
  case neg => exact n10_1 t v u i dr l w hv hu h1
  by_cases h2 : t.is = true
  case neg => exact n10_2 t v u i dr l w hv hu h1 h2
  by_cases h3 : 0 ≤ i
  case neg => exact n10_3 t v u i dr l w hv hu h1 h2 (by omega)
  by_cases h4 : i < t.ns.length
  case neg => exact n10_4 t v u i dr l w hv hu h1 h2 h3 (by omega)
  by_cases h5 : -t.dr ≤ dr
  case neg => exact n10_5 t v u i dr l w hv hu h1 h2 h3 h4 (by omega)
  by_cases h6 : dr ≤ t.dr
  case neg => exact n10_6 t v u i dr l w hv hu h1 h2 h3 h4 h5 (by omega)
  exact absurd ⟨h2, ⟨h3, h4⟩, ⟨h5, h6⟩, h1.1, h1.2⟩ h
end Go.Proofs.YtpdenmcacaajkaaGreat
