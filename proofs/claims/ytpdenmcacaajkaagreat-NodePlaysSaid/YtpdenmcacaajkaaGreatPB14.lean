/- Texts AlD, AlE, NdM, Pb in one. For what each says in front of its theorems. -/
import Derived.Test.YtpdenmcacaajkaaGreatPB4
import Derived.Test.YtpdenmcacaajkaaGreatPB7
import Derived.Test.YtpdenmcacaajkaaGreatPB10
import Derived.Test.YtpdenmcacaajkaaGreatPB11
import Derived.Test.YtpdenmcacaajkaaGreatPB13
/-! ### AlD -/
namespace Go.Proofs.YtpdenmcacaajkaaGreat
open Go.RowKit

/-- What rings that is not so now. -/
def andn (m n : Nat) : Nat := m &&& (15 ^^^ n)
theorem andn_16 {m n : Nat} (hm : m < 16) (hn : n < 16) : bits BinOp.andNot IntKind.i64 (m : Nat) (n : Nat) = ((andn m n : Nat) : Int) := by
  have : ∀ (a b : Fin 16), bits BinOp.andNot IntKind.i64 (a.val : Nat) (b.val : Nat) = ((andn a.val b.val : Nat) : Int) := by decide +kernel
  exact this ⟨m, hm⟩ ⟨n, hn⟩
def ackM (l : List R4) (n r : Nat → Nat) (i : Int) : Int := if isR l i then (if andn (r i.toNat) (n i.toNat) = 0 then 4 else 0) else 1
def ackR (l : List R4) (n r : Nat → Nat) (i : Int) : Nat → Nat := if isR l i then (if andn (r i.toNat) (n i.toNat) = 0 then r else upd r i.toNat (n i.toNat)) else r
set_option maxRecDepth 100000 in
set_option maxHeartbeats 2000000 in
theorem ack_al (F : List Nat) (g : Nat) (l : List R4) (n r : Nat → Nat) (i : Int) (w : World) (h : AAt F w g l n r) (hg : g ∈ F) :
    Calls Tryz.prog 65 #[.pointer (some ⟨g, 0, none⟩), .int .i64 i] w fun e w' => e = .returned (.int .i64 (ackM l n r i)) ∧ AAt F w' g l n (ackR l n r i) ∧ Only g w w' := by
  have HN := Lib.hid (has_al F g l n r i w h)
  by_cases hn : isR l i
  case neg =>
    rw [decide_eq_false hn] at HN
    rw [show ackM l n r i = 1 by unfold ackM; rw [if_neg hn], show ackR l n r i = r by unfold ackR; rw [if_neg hn]]
    go_enter Tryz.func65, Tryz.ntmps65
    go_wp2_with fail
    refine HN.out.mono ?_
    rintro _ _ ⟨rfl, rfl⟩
    go_wp2
    go_ret
    exact ⟨rfl, h, Only.refl _ _⟩
  rw [decide_eq_true hn] at HN
  have hn' := hn
  unfold isR at hn
  have h8 := h.len
  obtain ⟨i, rfl⟩ : ∃ k : Nat, i = k := ⟨i.toNat, by omega⟩
  have hi : i < 8 := by omega
  have c1 := h.cn hi
  have c2 := h.cr hi
  have f2 := h.frozen (9 + i)
  have ha := andn_16 (h.r16 i hi) (h.n16 i hi)
  have hk : Hid (AAt F w g l n r) := Lib.hid h
  have hx := h.n16 i hi
  clear h
  by_cases h0 : andn (r i) (n i) = 0
  · rw [show ackM l n r i = 4 by unfold ackM; rw [if_pos hn', Int.toNat_natCast, if_pos h0], show ackR l n r i = r by unfold ackR; rw [if_pos hn', Int.toNat_natCast, if_pos h0]]
    rw [h0] at ha
    go_enter Tryz.func65, Tryz.ntmps65
    go_wp2_with fail
    refine HN.out.mono ?_
    rintro _ _ ⟨rfl, rfl⟩
    go_wp2_with fail
    go_quiet (fail)
    go_wp2
    go_ret
    exact ⟨rfl, hk.out.below (below_drewN (Below.refl _ _) _), only_of_below g (below_drewN (Below.refl _ _) _)⟩
  · rw [show ackM l n r i = 0 by unfold ackM; rw [if_pos hn', Int.toNat_natCast, if_neg h0], show ackR l n r i = upd r i (n i) by unfold ackR; rw [if_pos hn', Int.toNat_natCast, if_neg h0]]
    have q0 : (((andn (r i) (n i) : Nat) : Int) == 0) = false := by rw [beq_eq_false_iff_ne]; omega
    go_enter Tryz.func65, Tryz.ntmps65
    go_wp2_with fail
    refine HN.out.mono ?_
    rintro _ _ ⟨rfl, rfl⟩
    go_wp2_with fail
    go_quiet (fail)
    go_wp2_with fail
    go_region
    all_goals
      go_wp2
      go_ret
      exact ⟨rfl, AAt.setr (hk.out.below (below_drewN (Below.refl _ _) _)) hg hi hx, (only_of_below g (below_drewN (Below.refl _ _) _)).set _ _⟩
set_option maxRecDepth 100000 in
set_option maxHeartbeats 2000000 in
theorem rings_al_nil (i : Int) (w : World) :
    Calls Tryz.prog 97 #[.pointer none, .int .i64 i] w fun e w' => e = .returned (.int .i64 0) ∧ w' = w := by
  go_enter Tryz.func97, Tryz.ntmps97
  go_wp2
  go_ret
  exact ⟨rfl, rfl⟩
set_option maxRecDepth 100000 in
set_option maxHeartbeats 2000000 in
theorem ack_al_nil (i : Int) (w : World) :
    Calls Tryz.prog 65 #[.pointer none, .int .i64 i] w fun e w' => e = .returned (.int .i64 1) ∧ w' = w := by
  go_enter Tryz.func65, Tryz.ntmps65
  go_wp2
  go_ret
  exact ⟨rfl, rfl⟩
set_option maxRecDepth 100000 in
set_option maxHeartbeats 2000000 in
theorem new_al (l : List R4) (v : Value) (B : Nat) (w : World) (hv : SeesRs w B v l) (hB : B ≤ w.heap.size) (h8 : l.length ≤ 8) (hm : ∀ i, i < l.length → (l.getD i default).may) :
    Calls Tryz.prog 16 #[v] w fun e w' => ∃ g, e = .returned (.tuple #[.pointer (some ⟨g, 0, none⟩), .int .i64 0]) ∧ w.heap.size ≤ g ∧ (∀ F, (∀ f, f ∈ F → f < w.heap.size ∨ f = g) → AAt F w' g l (fun _ => 0) (fun _ => 0)) ∧ Below w.heap.size w w' := by
  obtain ⟨A, c, rfl, v1, v2, v3, v4⟩ := hv.at_
  unfold maxLen at v2
  have d0 : decide ((8 : Int) < ((l.length : Nat) : Int)) = false := decide_eq_false (by omega)
  have hS := Lib.hid hv
  have HC := fun W (hb : Below w.heap.size w W) => Lib.hid (clone_rl l _ W B (hS.out.below (hb.mono hB)) (by omega))
  have HX : Hid (0 < l.length → ∃ b off, A = some ⟨b, off, none⟩ ∧ ∀ W, Below w.heap.size w W → ∀ k, k < l.length → AtRl W b (off + k * 4) (l.getD k default)) := Lib.hid fun h0 => by
    obtain ⟨b, off, hA, hb, hc⟩ := v3 h0
    exact ⟨b, off, hA, fun W hW k hk => (hc k hk).keep fun o => hW.cell (p := ⟨b, o, none⟩) (by show b < _; omega)⟩
  clear v3 v4 hv
  go_enter Tryz.func16, Tryz.ntmps16
  go_wp2_with fail
  go_loopw [11] (fun i wr => ∃ k : Nat, k ≤ l.length ∧ i = .int .i64 k ∧ Below w.heap.size w wr) (fun i _ => l.length - (intOf i).toNat)
  case atStart => exact ⟨0, by omega, rfl, Below.refl _ _⟩
  case round =>
    obtain ⟨k, hk, rfl, b⟩ := hrel
    by_cases hlt : k < l.length
    · have r1 : decide ((k : Int) < ((l.length : Nat) : Int)) = true := decide_eq_true (by omega)
      obtain ⟨bl, off, rfl, HG⟩ := HX.out (by omega)
      obtain ⟨x0, x1, x2, x3⟩ := HG _ b k hlt
      have hmk := hm k hlt
      clear HG HX HC
      generalize l.getD k default = q at *
      have HM := fun W => Lib.hid (mayBe_al q W)
      rw [decide_eq_true hmk] at HM
      obtain ⟨qn, ql, qh, qs⟩ := q
      unfold R4.v at HM
      clear hmk hm
      go_wp2_with fail
      refine (HM _).out.mono ?_
      rintro _ w2 ⟨rfl, b2⟩
      have b2 := (b.alloc b.size _).trans (b2.mono (by have := b.size; simp; omega))
      go_wp2
      go_roundw
      case rel => exact ⟨k + 1, by omega, by go_num, b2⟩
      case measure => simp [intOf]; omega
    · obtain rfl : k = l.length := by omega
      go_wp2_with fail
      refine (HC _ b).out.mono ?_
      rintro _ w2 ⟨v2, rfl, ho, b2⟩
      have b3 := b.trans (b2.mono b.size)
      have hlt := World.ownsRow.lt ho
      have hs := ho.sees
      obtain ⟨A2, c2, rfl, -⟩ := hs.at_
      have hb := Lib.hid (b3.alloc b3.size (.cells (alc (.slice A2 l.length c2) (fun _ => 0) (fun _ => 0)) 68))
      clear ho
      go_wp2
      go_ret2
      refine ⟨_, rfl, b3.size, fun F hF => ⟨⟨.slice A2 l.length c2, Blk.new _ _ rfl _ _, (hs.alloc _).more (by simp), fun f hf _ e => ?_⟩, h8, fun _ _ => by omega, fun _ _ => by omega⟩, hb.out⟩
      have h1 := hlt f e
      have h2 := b.size
      rcases hF f hf with h | h <;> omega
set_option maxRecDepth 100000 in
set_option maxHeartbeats 2000000 in
theorem new_no (l : List R4) (v : Value) (B : Nat) (w : World) (hv : SeesRs w B v l) (hB : B ≤ w.heap.size) (h8 : l.length ≤ 8) (hm : ¬ ∀ i, i < l.length → (l.getD i default).may) :
    Calls Tryz.prog 16 #[v] w fun e w' => e = .returned (.tuple #[.pointer none, .int .i64 1]) ∧ Below w.heap.size w w' := by
  obtain ⟨A, c, rfl, v1, v2, v3, v4⟩ := hv.at_
  unfold maxLen at v2
  have d0 : decide ((8 : Int) < ((l.length : Nat) : Int)) = false := decide_eq_false (by omega)
  have HX : Hid (0 < l.length → ∃ b off, A = some ⟨b, off, none⟩ ∧ ∀ W, Below w.heap.size w W → ∀ k, k < l.length → AtRl W b (off + k * 4) (l.getD k default)) := Lib.hid fun h0 => by
    obtain ⟨b, off, hA, hb, hc⟩ := v3 h0
    exact ⟨b, off, hA, fun W hW k hk => (hc k hk).keep fun o => hW.cell (p := ⟨b, o, none⟩) (by show b < _; omega)⟩
  have HM := Lib.hid hm
  clear v3 v4 hv hm
  go_enter Tryz.func16, Tryz.ntmps16
  go_wp2_with fail
  go_loopw [11] (fun i wr => ∃ k : Nat, k ≤ l.length ∧ i = .int .i64 k ∧ (∀ j, j < k → (l.getD j default).may) ∧ Below w.heap.size w wr) (fun i _ => l.length - (intOf i).toNat)
  case atStart => exact ⟨0, by omega, rfl, fun j hj => by omega, Below.refl _ _⟩
  case round =>
    obtain ⟨k, hk, rfl, hM, b⟩ := hrel
    by_cases hlt : k < l.length
    · have r1 : decide ((k : Int) < ((l.length : Nat) : Int)) = true := decide_eq_true (by omega)
      obtain ⟨bl, off, rfl, HG⟩ := HX.out (by omega)
      obtain ⟨x0, x1, x2, x3⟩ := HG _ b k hlt
      have hK : Hid ((l.getD k default).may → ∀ j, j < k + 1 → (l.getD j default).may) := Lib.hid fun h j hj => by
        by_cases e : j = k
        · subst e; exact h
        · exact hM j (by omega)
      clear HG HX hM HM
      generalize l.getD k default = q at *
      have HM := fun W => Lib.hid (mayBe_al q W)
      obtain ⟨qn, ql, qh, qs⟩ := q
      unfold R4.v at HM
      by_cases hmk : (⟨qn, ql, qh, qs⟩ : R4).may
      · rw [decide_eq_true hmk] at HM
        have hK := Lib.hid (hK.out hmk)
        clear hmk
        go_wp2_with fail
        refine (HM _).out.mono ?_
        rintro _ w2 ⟨rfl, b2⟩
        have b2 := (b.alloc b.size _).trans (b2.mono (by have := b.size; simp; omega))
        go_wp2
        go_roundw
        case rel => exact ⟨k + 1, by omega, by go_num, hK.out, b2⟩
        case measure => simp [intOf]; omega
      · rw [decide_eq_false hmk] at HM
        clear hmk hK
        go_wp2_with fail
        refine (HM _).out.mono ?_
        rintro _ w2 ⟨rfl, b2⟩
        have b2 := (b.alloc b.size _).trans (b2.mono (by have := b.size; simp; omega))
        go_wp2
        go_ret2
        exact ⟨rfl, b2⟩
    · obtain rfl : k = l.length := by omega
      exact absurd hM HM.out
set_option maxRecDepth 100000 in
set_option maxHeartbeats 2000000 in
/-- What Look defers, of a frame that returns: nothing. -/
theorem rec_al (w : World) :
    CallsD Tryz.prog 170 #[] .returning w fun e u' w' => e = .returned (.tuple #[]) ∧ u' = .returning ∧ w' = w := by
  refine callsD_of_wpS Tryz.func170 rfl fun c₀ cs hu => ?_
  apply wpS_region
  simp [wpOpsS, go_sem, recoverD, hu, Tryz.ntmps170]
  cases c₀
  simp_all [bodyPostS, results, Tryz.results170]
end Go.Proofs.YtpdenmcacaajkaaGreat

/-! ### AlE -/
namespace Go.Proofs.YtpdenmcacaajkaaGreat
open Go.RowKit

/-- Code that ends as it is to end, and by no panic. -/
def onlyN (K : Act → World → Prop) : Exit → Act → World → Prop
  | .normal, a, w => K a w
  | _, _, _ => False
theorem wp_onlyN {P : Program} {c : Code} {Q : Exit → Act → World → Prop} {a : Act} {w : World} (h : c.wp P (onlyN (Q .normal)) a w) : c.wp P Q a w := wp_mono h fun e a w h => by
  cases e <;> first | exact h | exact h.elim
/-- What is so now. -/
def nowM (l : List R4) (s : MS) (i : Nat) : Nat := if i < l.length then whyM (l.getD i default) (s.gd (l.getD i default).n) (s.ga (l.getD i default).n) (s.gg (l.getD i default).n) else 0
theorem nowM_lt (l : List R4) (s : MS) (i : Nat) : nowM l s i < 16 := by
  unfold nowM
  split
  · exact whyM_lt _ _ _ _
  · omega
theorem AAt.set8 {F : List Nat} {W : World} {g : Nat} {l : List R4} {n r : Nat → Nat} (h : AAt F W g l n r) (hg : g ∈ F) (N : Nat → Nat) (hN : ∀ i, N i < 16) : AAt F ((((((((W.setCell ⟨g, 1, none⟩ (.int .i64 (N 0 : Nat))).setCell ⟨g, 2, none⟩ (.int .i64 (N 1 : Nat))).setCell ⟨g, 3, none⟩ (.int .i64 (N 2 : Nat))).setCell ⟨g, 4, none⟩ (.int .i64 (N 3 : Nat))).setCell ⟨g, 5, none⟩ (.int .i64 (N 4 : Nat))).setCell ⟨g, 6, none⟩ (.int .i64 (N 5 : Nat))).setCell ⟨g, 7, none⟩ (.int .i64 (N 6 : Nat))).setCell ⟨g, 8, none⟩ (.int .i64 (N 7 : Nat))) g l N r ∧ Only g W ((((((((W.setCell ⟨g, 1, none⟩ (.int .i64 (N 0 : Nat))).setCell ⟨g, 2, none⟩ (.int .i64 (N 1 : Nat))).setCell ⟨g, 3, none⟩ (.int .i64 (N 2 : Nat))).setCell ⟨g, 4, none⟩ (.int .i64 (N 3 : Nat))).setCell ⟨g, 5, none⟩ (.int .i64 (N 4 : Nat))).setCell ⟨g, 6, none⟩ (.int .i64 (N 5 : Nat))).setCell ⟨g, 7, none⟩ (.int .i64 (N 6 : Nat))).setCell ⟨g, 8, none⟩ (.int .i64 (N 7 : Nat))) :=
  ⟨(((((((((h).setn hg (i := 0) (by omega) (hN 0)).setn hg (i := 1) (by omega) (hN 1)).setn hg (i := 2) (by omega) (hN 2)).setn hg (i := 3) (by omega) (hN 3)).setn hg (i := 4) (by omega) (hN 4)).setn hg (i := 5) (by omega) (hN 5)).setn hg (i := 6) (by omega) (hN 6)).setn hg (i := 7) (by omega) (hN 7)).alike (fun i hi => under8 (p := fun i => _ = N i) hi rfl rfl rfl rfl rfl rfl rfl rfl) (fun _ _ => rfl), ((((((((Only.refl g W).set _ _).set _ _).set _ _).set _ _).set _ _).set _ _).set _ _).set _ _⟩
set_option maxRecDepth 100000 in
theorem index8 (f : Nat → Nat) {k : Nat} (hk : k < 8) (w : World) : (Instr.index 66 (.agg #[.int .i64 (f 0 : Nat), .int .i64 (f 1 : Nat), .int .i64 (f 2 : Nat), .int .i64 (f 3 : Nat), .int .i64 (f 4 : Nat), .int .i64 (f 5 : Nat), .int .i64 (f 6 : Nat), .int .i64 (f 7 : Nat)]) (.int .i64 k)).run Tryz.prog w = .ok (.int .i64 (f k : Nat)) w :=
  under8 (p := fun k => (Instr.index 66 (.agg #[.int .i64 (f 0 : Nat), .int .i64 (f 1 : Nat), .int .i64 (f 2 : Nat), .int .i64 (f 3 : Nat), .int .i64 (f 4 : Nat), .int .i64 (f 5 : Nat), .int .i64 (f 6 : Nat), .int .i64 (f 7 : Nat)]) (.int .i64 (k : Nat))).run Tryz.prog w = .ok (.int .i64 (f k : Nat)) w) hk rfl rfl rfl rfl rfl rfl rfl rfl
set_option maxRecDepth 100000 in
set_option maxHeartbeats 4000000 in
theorem look_al_nil (v : Value) (w : World) :
    Calls Tryz.prog 151 #[.pointer none, v] w fun e w' => e = .returned (.tuple #[]) ∧ w' = w := by
  go_enter_defers Tryz.func151, Tryz.ntmps151
  go_wp2
  simp [Leaves, results, Tryz.results151, go_sem, bodyPostD]
end Go.Proofs.YtpdenmcacaajkaaGreat

/-! ### NdM -/
namespace Go.Proofs.YtpdenmcacaajkaaGreat
open Go.RowKit

/-- What is heard. -/
structure Hn where
  a : Int
  b : Int
  x : List Int
  y : List Int
  o : Int
structure NM where
  t : Tb.T
  i : Nat
  dr : Int
  al : List R4
  st : Nat
  rd : Int
  sl : Nat
  ty : TS
  tm : Int
  ck : List Int
  so : MS
  an : Nat → Nat
  ar : Nat → Nat
  da : List Int
  wt : Nat
  se : Bool
namespace NM
def new (t : Tb.T) (i : Nat) (dr : Int) (l : List R4) : NM := ⟨t, i, dr, l, 0, 0, 0, ⟨0, 0, 0⟩, 0, [], MS.new, fun _ => 0, fun _ => 0, [], 0, false⟩
/-- May it be? -/
def may (t : Tb.T) (i : Int) (dr : Int) (l : List R4) : Prop := t.is = true ∧ (0 ≤ i ∧ i < t.ns.length) ∧ (-t.dr ≤ dr ∧ dr ≤ t.dr) ∧ l.length ≤ 8 ∧ ∀ k, k < l.length → (l.getD k default).may
def anew (s : NM) (k : Nat) : NM := { s with st := k, rd := 0, sl := 0, ty := ⟨0, 0, 0⟩, ck := [], so := MS.new, wt := 0, se := false }
def me (s : NM) : Tb.D := s.t.ns.getD s.i default
def at_ (s : NM) (k : Nat) : Tb.D := s.t.ns.getD k default
def view (s : NM) : Fr.St := ⟨s.rd, s.sl, s.ty.m⟩
def onE (s : NM) (a : Int) : Int := if a < -1000 ∨ 1000 < a then 1 else if s.st ≠ 0 ∧ s.st ≠ 5 then 4 else 0
def on (s : NM) (a : Int) : NM := if s.onE a = 0 then { s.anew 1 with tm := a } else s
def off (s : NM) : NM := s.anew 0
def writeE (s : NM) (l : List Int) : Int := if s.me.sz < l.length then 1 else 0
def write (s : NM) (l : List Int) : NM := if s.me.sz < l.length then s else { s with da := l }
def frm (s : NM) (k : Int) : Fr.F := ⟨k, s.view, s.da⟩
def alone (s : NM) : Prop := s.ty.a = 0
def clique (s : NM) : Prop := s.ty.f ≤ s.ty.a
instance (s : NM) : Decidable s.alone := inferInstanceAs (Decidable (_ = _))
instance (s : NM) : Decidable s.clique := inferInstanceAs (Decidable (_ ≤ _))
/-- In its own slot. -/
def enter (s : NM) : NM :=
  if s.st = 2 then (if s.alone then s.anew 1 else { s with st := 4 })
  else if s.st = 3 then (if ¬ s.alone ∧ s.clique then { s with st := 4 } else { s with ty := s.ty.clear })
  else if ¬ s.clique then { s with st := 5 } else if s.alone then s.anew 1 else s
def begun (s : NM) : NM := { s.anew 2 with sl := s.i, ty := (⟨0, 0, 0⟩ : TS).join s.i }
def joined (s : NM) : NM := { s with ty := (s.ty.join s.i).clear }
/-- What is sent, 0: nothing: a kind; and what it is then. -/
def sendK (s : NM) : Int :=
  if s.st = 1 then (if (s.wt : Int) + 1 < s.me.li then 0 else 3)
  else if s.st = 0 ∨ s.st = 5 ∨ s.sl ≠ s.i then 0
  else if s.enter.st ≠ 4 then 0
  else if s.me.inf = true ∨ s.st ≠ 4 ∨ s.rd % 2 = 0 then 2 else 1
def sendS (s : NM) : NM :=
  if s.st = 1 then (if (s.wt : Int) + 1 < s.me.li then { s with wt := s.wt + 1, se := false } else { s.begun with se := true })
  else if s.st = 0 ∨ s.st = 5 ∨ s.sl ≠ s.i then { s with se := false }
  else if s.enter.st ≠ 4 then { s.enter with se := false }
  else { s.enter.joined with se := true }
def sent (s : NM) : List Int := if s.sendK = 0 then [] else (s.sendS.frm s.sendK).bytes
/-- The rows that tell bytes. -/
def rows (h : Hn) : List (List Int) := (if h.a = 2 then [h.x] else []) ++ (if h.b = 2 then [h.y] else [])
def z3 : Fr.St := ⟨0, 0, 0⟩
/-- Does it tell a state? -/
def tells (s : NM) (l : List Int) : Prop := Fr.err l z3 = 0 ∧ (Fr.res l z3).k ≠ 1 ∧ (Fr.res l z3).st.s < s.t.ns.length ∧ (Fr.res l z3).st.s ≠ s.i
instance (s : NM) (l : List Int) : Decidable (s.tells l) := inferInstanceAs (Decidable (_ ∧ _))
def own (s : NM) : Fr.St := ⟨s.rd, s.sl, (Go.Proofs.YtpdenmcacaajkaaGreat.ins s.ty.m s.sl : Nat)⟩
/-- Is it right? -/
def isRight (s : NM) (l : List Int) : Prop := Fr.err l s.own = 0 ∧ (Fr.res l s.own).k ≠ 3 ∧ (Fr.res l s.own).st = s.own
instance (a b : Fr.St) : Decidable (a = b) := decidable_of_iff (a.r = b.r ∧ a.s = b.s ∧ a.m = b.m) (by cases a; cases b; simp)
instance (s : NM) (l : List Int) : Decidable (s.isRight l) := inferInstanceAs (Decidable (_ ∧ _))
def firstL (s : NM) (h : Hn) : Option (List Int) := (rows h).find? fun l => decide (s.tells l)
def rightL (s : NM) (h : Hn) : Option (List Int) := (rows h).find? fun l => decide (s.isRight l)
/-- The slot goes on. -/
def goOn (s : NM) : NM :=
  let sl := nxS s.t.ns.length s.sl
  let s1 := { s with rd := nxR s.t.ns.length s.rd s.sl, sl := sl.toNat, se := false }
  if sl ≠ 0 then s1 else
  let s2 := if wiB s.t.lm (Clk.avg s.ck) then { s1 with tm := s.tm + termV s.t.lm s.ck + s.dr } else { s1 with st := 5 }
  { s2 with ck := [], so := s.so.age, an := nowM s.al s.so.age, ar := fun i => s.ar i ||| nowM s.al s.so.age i }
/-- All members are Good. -/
def goods (so : MS) (m : Nat) : MS := { so with g := fun i => if i < 8 then isB m i else so.g i }
/-- It knows a state. -/
def knows (s : NM) (f : Fr.F) (o : Int) : NM :=
  let ty := (⟨(f.st.m % 256).toNat, 0, 0⟩ : TS).right f.st.s
  { s.anew 3 with rd := f.st.r, sl := f.st.s.toNat, ty := ty, tm := s.tm + o, so := goods (MS.new.put f.st.s f.d) ty.m }
def meas (s : NM) (k : Nat) (o : Int) : List Int := if (s.at_ k).sy = true then keep4 s.ck o else s.ck
def took (s : NM) (ty : TS) (so : MS) (ck : List Int) : NM := { s with ty := ty, so := so.member s.sl (isB ty.m s.sl), ck := ck }
def take (s : NM) (h : Hn) : NM :=
  if s.st = 0 ∨ s.st = 5 then s
  else if s.st = 1 then
    match s.firstL h with
    | some l => (s.knows (Fr.res l z3) h.o).goOn
    | none => if h.a ≠ 0 ∨ h.b ≠ 0 then { s with wt := 0 } else s
  else if s.sl = s.i then ({ s with ck := if s.se = true then s.meas s.i 0 else s.ck }).goOn
  else
    match s.rightL h with
    | some l => (s.took (s.ty.right s.sl) (s.so.put s.sl (Fr.res l s.own).d) (s.meas s.sl h.o)).goOn
    | none => if h.a = 0 ∧ h.b = 0 then (s.took (s.ty.miss s.sl) s.so s.ck).goOn else (s.took (s.ty.wrong s.sl) s.so s.ck).goOn
end NM
end Go.Proofs.YtpdenmcacaajkaaGreat

/-! ### Pb -/
namespace Go.Proofs.YtpdenmcacaajkaaGreat
open Go.RowKit

/-- What lies ahead of a part of a block, and behind it; the part begins at o. -/
structure Cx (o : Nat) where
  a : Array Value
  b : Array Value
  t : TypeId
  sz : a.size = o
/-- A part of a block. -/
def PB {o : Nat} (c : Cx o) (W : World) (g : Nat) (cs : Array Value) : Prop := Blk W g (c.a ++ cs ++ c.b) c.t
section
variable {o : Nat} {c : Cx o} {W W' : World} {g : Nat} {cs : Array Value}
theorem PB.lt (h : PB c W g cs) : g < W.heap.size := Blk.lt h
theorem PB.cell (h : PB c W g cs) (i : Nat) {x : Value} (hx : cs[i]? = some x) : W.cell? ⟨g, o + i, none⟩ = some x := by
  refine Blk.cell h (o + i) ?_
  have hs := c.sz
  have hi : i < cs.size := (Array.getElem?_eq_some_iff.1 hx).1
  rw [Array.getElem?_append_left (by simp; omega), Array.getElem?_append_right (by omega), ← hx]
  congr 1
  omega
theorem PB.frozen (h : PB c W g cs) (i : Nat) : W.frozen? ⟨g, i, none⟩ = false := Blk.frozen h i
theorem PB.below (h : PB c W g cs) {B : Nat} (hb : Below B W W') (hB : g < B) : PB c W' g cs := Blk.below h hb hB
theorem PB.alloc (h : PB c W g cs) (o : Obj) : PB c (W.alloc o) g cs := Blk.alloc h o
theorem PB.drew (h : PB c W g cs) : PB c W.drew g cs := h
theorem PB.drewN (h : PB c W g cs) (n : Nat) : PB c (W.drewN n) g cs := Blk.drewN h n
theorem PB.set (h : PB c W g cs) (i : Nat) (hi : i < cs.size) (x : Value) : PB c (W.setCell ⟨g, o + i, none⟩ x) g (cs.setIfInBounds i x) := by
  refine (Blk.set h (o + i) x).eq ?_
  have hs := c.sz
  apply Array.ext
  · simp
  · intro j h1 h2
    by_cases e : o + i = j
    · subst e
      simp only [Array.getElem_setIfInBounds_self, Array.getElem_append, Array.size_append, Array.size_setIfInBounds]
      rw [dif_pos (by omega), dif_neg (by omega)]
      simp only [hs, Nat.add_sub_cancel_left, Array.getElem_setIfInBounds_self]
    · rw [Array.getElem_setIfInBounds_ne (by simpa using h1) e]
      simp only [Array.getElem_append, Array.size_append, Array.size_setIfInBounds]
      split
      · split
        · rfl
        · rename_i h3 h4
          rw [Array.getElem_setIfInBounds_ne (by omega) (by omega)]
      · rfl
theorem PB.eq {cs' : Array Value} (h : PB c W g cs) (e : cs = cs') : PB c W g cs' := e ▸ h
theorem PB.other (h : PB c W g cs) (p : Addr) (hp : g ≠ p.block) (x : Value) : PB c (W.setCell p x) g cs := Blk.other h p hp x
theorem PB.only {g' : Nat} (h : PB c W g cs) (k : Only g' W W') (hne : g ≠ g') : PB c W' g cs := Blk.only h k hne
end
theorem PBa {W : World} {g o o' : Nat} {x : Option Value} (h : W.cell? ⟨g, o, none⟩ = x) (e : o = o') : W.cell? ⟨g, o', none⟩ = x := e ▸ h
theorem PBs {o : Nat} {c : Cx o} {W : World} {g p p' : Nat} {x : Value} {cs cs' : Array Value} (h : PB c (W.setCell ⟨g, p, none⟩ x) g cs) (e : p = p') (e' : cs = cs') : PB c (W.setCell ⟨g, p', none⟩ x) g cs' := e ▸ e' ▸ h
end Go.Proofs.YtpdenmcacaajkaaGreat
