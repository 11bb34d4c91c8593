/- Texts NdS, NdT, NdA in one. For what each says in front of its theorems. -/
import Derived.Deep.RegionHeld3
import Derived.Deep.RegionWith
import Derived.Test.YtpdenmcacaajkaaGreatPB14
import Derived.Test.YtpdenmcacaajkaaGreatPB20
/-! ### NdS -/
namespace Go.Proofs.YtpdenmcacaajkaaGreat
open Go.RowKit
open Clk (avg)

def NM.endR (s : NM) : NM :=
  let s2 := if wiB s.t.lm (avg s.ck) then { s with tm := s.tm + termV s.t.lm s.ck + s.dr } else { s with st := 5 }
  { s2 with ck := [], so := s.so.age, an := nowM s.al s.so.age, ar := fun i => s.ar i ||| nowM s.al s.so.age i }
def NM.nxt (s : NM) : NM := { s with rd := nxR s.t.ns.length s.rd s.sl, sl := (nxS s.t.ns.length s.sl).toNat, se := false }
theorem NM.goOn_eq (s : NM) : s.goOn = if nxS s.t.ns.length s.sl ≠ 0 then s.nxt else s.nxt.endR := by
  unfold NM.goOn NM.nxt NM.endR
  rfl
/-- What must be so, that a round may end. -/
structure NE (m : NM) : Prop where
  ck : small m.ck
  lm : 0 ≤ m.t.lm ∧ m.t.lm ≤ 1000
  tm : -4611687117939015680 ≤ m.tm ∧ m.tm ≤ 4611687117939015680
  dr : -1000 ≤ m.dr ∧ m.dr ≤ 1000
theorem termV_in (lm : Int) (l : List Int) (h : 0 ≤ lm) : -lm ≤ termV lm l ∧ termV lm l ≤ lm := by
  unfold termV
  split
  · rename_i h1
    exact of_decide_eq_true h1
  · omega
set_option maxRecDepth 100000 in
set_option maxHeartbeats 4000000 in
theorem endRound_nd (b : Bool) (G : Nat → Prop) (g : Nat) (m : NM) (w : World) (h : NA b G w g m) (hE : NE m) :
    Calls Tryz.prog 123 #[.pointer (some ⟨g, 0, none⟩)] w fun e w' => e = .returned (.tuple #[]) ∧ NA b G w' g m.endR ∧ Only g w w' := by
  have hmf : ∀ (fn : Fn) (first cap : Array Value) (w : World), (Instr.makeFunc fn first cap).run Tryz.prog w = .ok (.func fn first cap) w := fun _ _ _ _ => rfl
  have HT := Lib.hid (h.term hE.ck ⟨hE.lm.1, by have := hE.lm.2; omega⟩)
  have hb := termV_in m.t.lm m.ck hE.lm.1
  obtain ⟨hl1, hl2⟩ := hE.lm
  obtain ⟨ht1, ht2⟩ := hE.tm
  obtain ⟨hd1, hd2⟩ := hE.dr
  have hk : Hid (NA b G w g m) := Lib.hid h
  clear hE
  by_cases hw : wiB m.t.lm (avg m.ck) = true
  · rw [hw] at HT
    have hfin : m.endR = { ({ m with tm := m.tm + (termV m.t.lm m.ck + m.dr) } : NM) with ck := [], so := m.so.age, an := nowM m.al m.so.age, ar := fun i => m.ar i ||| nowM m.al m.so.age i } := by
      unfold NM.endR
      rw [if_pos hw, Int.add_assoc]
    rw [hfin]
    clear hfin
    generalize termV m.t.lm m.ck = tv at *
    obtain ⟨hb1, hb2⟩ := hb
    clear h hw
    go_enter Tryz.func123, Tryz.ntmps123
    go_wp2_with fail
    refine HT.out.mono ?_
    rintro _ w1 ⟨rfl, b1⟩
    have h1 := hk.out.below b1
    have o1 := Lib.hid (only_of_below g b1)
    have e9 := h1.c9
    have e15 := h1.c15
    have f15 := h1.frozen 15
    have h2 := Lib.hid (h1.sTm (m.tm + (tv + m.dr))).drew
    have o2 := Lib.hid (o1.out.set 15 (.int .i64 (m.tm + (tv + m.dr)))).drew
    clear HT hk o1 b1
    go_wp2_with fail
    go_region
    clear h1 e9 e15 f15
    go_wp2_with fail
    refine h2.out.kclear.mono ?_
    rintro _ w3 ⟨rfl, h3, o3⟩
    have o3 := o2.out.trans o3
    have HA := Lib.hid h3.age
    clear h2 o2 h3
    go_wp2_with fail
    refine HA.out.mono ?_
    rintro _ w4 ⟨rfl, h4, o4⟩
    have o4 := o3.trans o4
    have HL := Lib.hid h4.drew.look
    unfold ndGet at HL
    clear HA o3 h4
    go_wp2_with fail
    go_still_tail 7, (by kernel_rfl)
    change wpList _ _ _ _ _ w4.drew
    go_wp2_with fail
    refine HL.out.mono ?_
    rintro _ w5 ⟨rfl, h5, o5⟩
    go_wp2
    exact bodyPost_end (results_none (by rfl) _ _ _) rfl ⟨rfl, h5, o4.drew.trans o5⟩
  · have hw : wiB m.t.lm (avg m.ck) = false := by simpa using hw
    rw [hw] at HT
    have hfin : m.endR = { ({ m with st := 5 } : NM) with ck := [], so := m.so.age, an := nowM m.al m.so.age, ar := fun i => m.ar i ||| nowM m.al m.so.age i } := by
      unfold NM.endR
      rw [hw]
      rfl
    rw [hfin]
    clear hfin hb
    generalize termV m.t.lm m.ck = tv at *
    clear h hw
    go_enter Tryz.func123, Tryz.ntmps123
    go_wp2_with fail
    refine HT.out.mono ?_
    rintro _ w1 ⟨rfl, b1⟩
    have h1 := hk.out.below b1
    have o1 := Lib.hid (only_of_below g b1)
    have e10 := h1.c10
    have f10 := h1.frozen 10
    have h2 := Lib.hid (h1.sSt 5)
    have o2 := Lib.hid (o1.out.set 10 (.int .i64 5))
    clear HT hk o1 b1
    clear h1
    go_wp2_with fail
    refine h2.out.kclear.mono ?_
    rintro _ w3 ⟨rfl, h3, o3⟩
    have o3 := o2.out.trans o3
    have HA := Lib.hid h3.age
    clear h2 o2 h3
    go_wp2_with fail
    refine HA.out.mono ?_
    rintro _ w4 ⟨rfl, h4, o4⟩
    have o4 := o3.trans o4
    have HL := Lib.hid h4.drew.look
    unfold ndGet at HL
    clear HA o3 h4
    go_wp2_with fail
    go_still_tail 7, (by kernel_rfl)
    change wpList _ _ _ _ _ w4.drew
    go_wp2_with fail
    refine HL.out.mono ?_
    rintro _ w5 ⟨rfl, h5, o5⟩
    go_wp2
    exact bodyPost_end (results_none (by rfl) _ _ _) rfl ⟨rfl, h5, o4.drew.trans o5⟩
end Go.Proofs.YtpdenmcacaajkaaGreat

/-! ### NdT -/
namespace Go.Proofs.YtpdenmcacaajkaaGreat
open Go.RowKit

/-- What must be so, that a slot may go on. -/
structure NG (m : NM) : Prop where
  e : NE m
  n : 4 ≤ m.t.ns.length ∧ m.t.ns.length ≤ 8
  sl : m.sl < m.t.ns.length
  rd : 0 ≤ m.rd ∧ m.rd ≤ 65535
set_option maxRecDepth 100000 in
set_option maxHeartbeats 4000000 in
theorem goOn_nd (b : Bool) (G : Nat → Prop) (g : Nat) (m : NM) (w : World) (h : NA b G w g m) (hG : NG m) :
    Calls Tryz.prog 80 #[.pointer (some ⟨g, 0, none⟩)] w fun e w' => e = .returned (.tuple #[]) ∧ NA false G w' g m.goOn ∧ Only g w w' := by
  have hn := hG.n
  have hs := hG.sl
  have hr := hG.rd
  have hE := hG.e
  have HV : ∀ W, Below w.heap.size w W → Hid (Calls Tryz.prog 39 #[.pointer (some ⟨g, 0, none⟩)] W fun e w' => e = .returned (csV m.rd m.sl m.ty.m) ∧ Below W.heap.size W w' ∧ Below w.heap.size w w') := fun W hW => Lib.hid ((view_nd b G g m W (h.below hW)).mono fun e w' ⟨h1, h2⟩ => ⟨h1, h2, hW.trans (h2.mono hW.size)⟩)
  obtain ⟨A, c, c0, -⟩ := h.cV
  have HS : ∀ W, Below w.heap.size w W → Hid (W.cell? ⟨g, 0, none⟩ = some (.slice A m.t.ns.length c) ∧ W.cell? ⟨g, 1, none⟩ = some (.int .i64 m.t.dr) ∧ W.cell? ⟨g, 2, none⟩ = some (.int .i64 m.t.wi) ∧ W.cell? ⟨g, 3, none⟩ = some (.int .i64 m.t.lm)) := fun W hW => Lib.hid (by
    have h1 := h.below hW
    exact ⟨(hW.cell (p := ⟨g, 0, none⟩) h.lt).trans c0, h1.c1, h1.c2, h1.c3⟩)
  obtain ⟨-, c1, c2, c3⟩ := (HS w (Below.refl _ _)).out
  have HN : ∀ W, Below w.heap.size w W → Hid (Calls Tryz.prog 122 #[.agg #[.slice A m.t.ns.length c, .int .i64 m.t.dr, .int .i64 m.t.wi, .int .i64 m.t.lm], csV m.rd m.sl m.ty.m] W fun e w' => e = .returned (csV (nxR m.t.ns.length m.rd m.sl) (nxS m.t.ns.length m.sl) m.ty.m) ∧ Below W.heap.size W w' ∧ Below w.heap.size w w') := fun W hW => Lib.hid ((next_tb A m.t.ns.length c m.t.dr m.t.wi m.t.lm m.rd m.sl m.ty.m W ⟨by omega, by omega⟩ ⟨by omega, by omega⟩ hr).mono fun e w' ⟨h1, h2⟩ => ⟨h1, h2, hW.trans (h2.mono hW.size)⟩)
  have hge : 0 ≤ nxS m.t.ns.length m.sl := by unfold nxS; split <;> omega
  have hk : Hid (NA b G w g m) := Lib.hid h
  have hb0 := Below.refl w.heap.size w
  have hgl := h.lt
  unfold csV at HV HN
  generalize hR : nxR m.t.ns.length m.rd m.sl = R at *
  generalize hS : nxS m.t.ns.length m.sl = S at *
  have HR := Lib.hid (And.intro hR hS)
  clear hR hS h
  go_enter Tryz.func80, Tryz.ntmps80
  go_wp2_with fail
  go_cut [2] from 3 (fun s2 W => ∃ p : Nat, s2 = .pointer (some ⟨p, 0, none⟩) ∧ Blk W p #[.int .i64 R, .int .i64 S, .int .i64 (m.ty.m : Nat)] 101 ∧ Below w.heap.size w W ∧ w.heap.size ≤ p)
  case first =>
    go_region_held3 (fun W => W.cell? ⟨g, 0, none⟩ = some (.slice A m.t.ns.length c) ∧ W.cell? ⟨g, 1, none⟩ = some (.int .i64 m.t.dr) ∧ W.cell? ⟨g, 2, none⟩ = some (.int .i64 m.t.wi) ∧ W.cell? ⟨g, 3, none⟩ = some (.int .i64 m.t.lm))
      ((refine (HS _ ?_).out; (repeat' (first | exact hb0 | exact b5 | exact b6 | (with_reducible refine Below.drew ?_) | (with_reducible refine Below.alloc ?_ ?_ _) | exact b5.size | exact b6.size | exact Nat.le_refl _ | (with_reducible refine Below.setCell ?_ ?_ _) | omega | (simp; done) | (simp; omega)))))
      (first
        | ((go_at_call 39; with_reducible refine (HV _ ?_).out.mono ?_); (focus ((repeat' (first | exact hb0 | exact b5 | exact b6 | (with_reducible refine Below.drew ?_) | (with_reducible refine Below.alloc ?_ ?_ _) | exact Nat.le_refl _ | exact b5.size | exact b6.size)); done)); rintro _ w5 ⟨rfl, b5', b5⟩; (first | (have hZ : Blk w5 w.heap.size #[.int .i64 0, .int .i64 0, .int .i64 0] 101 := Blk.below (Blk.drew (Blk.new w _ (by simp) _ _)) b5' (by simp)) | (have hZ : Blk w5 w.heap.size #[.int .i64 0, .int .i64 0, .int .i64 0] 101 := Blk.below (Blk.new w.drew _ (by simp) _ _) b5' (by simp)) | skip))
        | ((go_at_call 122; with_reducible refine (HN _ ?_).out.mono ?_); (focus ((repeat' (first | exact hb0 | exact b5 | exact b6 | (with_reducible refine Below.drew ?_) | (with_reducible refine Below.alloc ?_ ?_ _) | exact Nat.le_refl _ | exact b5.size | exact b6.size)); done)); rintro _ w6 ⟨rfl, b6', b6⟩; (first | (have hY := hZ.below b6' hZ.lt) | (have hY : Blk w6 w5.heap.size #[.int .i64 0, .int .i64 0, .int .i64 0] 101 := Blk.below (Blk.new _ _ (by simp) _ _) b6' (by simp)) | skip); (first | (have y0 := hY.cell 0 (x := .int .i64 0) rfl; have y1 := hY.cell 1 (x := .int .i64 0) rfl; have y2 := hY.cell 2 (x := .int .i64 0) rfl; have f0 := hY.frozen 0; have f1 := hY.frozen 1; have f2 := hY.frozen 2) | skip)))
    all_goals
      go_wp2_with fail
      go_meet
      first
        | exact ⟨_, rfl, Blk.new _ _ rfl _ _, b6.alloc b6.size _, b6.size⟩
        | exact ⟨_, rfl, (((hY.set 0 (.int .i64 R)).set 1 (.int .i64 S)).set 2 (.int .i64 (m.ty.m : Nat))).eq (by simp), ((b6.setCell (by first | exact Nat.le_refl _ | exact b5.size) _).setCell (by first | exact Nat.le_refl _ | exact b5.size) _).setCell (by first | exact Nat.le_refl _ | exact b5.size) _, by first | exact Nat.le_refl _ | exact b5.size⟩
  case rest =>
    obtain ⟨p, rfl, hX, b1, hp⟩ := hcut
    have h1 := hk.out.below b1
    have o1 := only_of_below g b1
    obtain ⟨S, rfl⟩ : ∃ n : Nat, S = n := ⟨S.toNat, by omega⟩
    have x0 := hX.cell 0 (x := .int .i64 R) rfl
    have x1 := hX.cell 1 (x := .int .i64 (S : Nat)) rfl
    have e11 := h1.c11
    have e12 := h1.c12
    have e14 := h1.c14
    have f11 := h1.frozen 11
    have f12 := h1.frozen 12
    have f14 := h1.frozen 14
    have hnx : m.nxt = { m with rd := R, sl := S, se := false } := by
      unfold NM.nxt
      rw [HR.out.1, HR.out.2, Int.toNat_natCast]
    have h2 : Hid (NA false G _ g { m with rd := R, sl := S, se := false }) := Lib.hid (((((h1.sRd R).sSl S).sSe false).drew).se_ false)
    have o2 := Lib.hid ((((o1.set 11 (.int .i64 R)).set 12 (.int .i64 (S : Nat))).set 14 (.bool false)).drew)
    rw [← hnx] at h2
    have e12' := h2.out.c12
    rw [show m.nxt.sl = S by rw [hnx]] at e12'
    have hfin := NM.goOn_eq m
    rw [HR.out.2] at hfin
    have hE2 : NE m.nxt := ⟨hE.ck, hE.lm, hE.tm, hE.dr⟩
    generalize m.nxt = m2 at *
    have HFIN := Lib.hid hfin
    clear hfin hnx h1 o1 hX b1 hp HR hk hE hG
    go_wp2_with fail
    go_region
    by_cases h0 : S = 0
    · subst h0
      have HF : Hid (m.goOn = m2.endR) := Lib.hid (by rw [HFIN.out]; rfl)
      have HEn := Lib.hid (endRound_nd false G g m2 _ h2.out hE2)
      clear HFIN
      go_wp2_with fail
      refine HEn.out.mono ?_
      rintro _ w3 ⟨rfl, h3, o3⟩
      go_wp2
      exact bodyPost_end (results_none (by rfl) _ _ _) rfl ⟨rfl, by rw [HF.out]; exact h3, o2.out.trans o3⟩
    · have HF : Hid (m.goOn = m2) := Lib.hid (by rw [HFIN.out, if_pos (by omega)])
      have q0 : (((S : Nat) : Int) == 0) = false := by rw [beq_eq_false_iff_ne]; omega
      clear HFIN h0
      go_wp2
      exact bodyPost_end (results_none (by rfl) _ _ _) rfl ⟨rfl, by rw [HF.out]; exact h2.out, o2.out⟩
end Go.Proofs.YtpdenmcacaajkaaGreat

/-! ### NdA -/
namespace Go.Proofs.YtpdenmcacaajkaaGreat
open Go.RowKit

def hdV (h : Hn) (vx vy : Value) : Value := .agg #[.int .i64 h.a, .int .i64 h.b, vx, vy, .int .i64 h.o]
/-- Only what is of F has turned; what is of F' is of F, or new. -/
def Eff (F F' : List Nat) (w w' : World) : Prop := Kq F w w' ∧ ∀ f, f ∈ F' → f ∈ F ∨ w.heap.size ≤ f
/-- What a node's calls do. -/
structure NodeApi (NAt : List Nat → World → Nat → NM → Prop) : Prop where
  keep : ∀ {F W W' g s}, NAt F W g s → W.heap.size ≤ W'.heap.size → (∀ f, f ∈ F → W'.heap[f]? = W.heap[f]?) → NAt F W' g s
  lt : ∀ {F W g s}, NAt F W g s → ∀ f, f ∈ F → f < W.heap.size
  new_ok : ∀ (t : Tb.T) (v u : Value) (i dr : Int) (l : List R4) (w : World), SeesT w w.heap.size v t.ns → SeesRs w w.heap.size u l → NM.may t i dr l →
    Calls Tryz.prog 5 #[tabV t v, .int .i64 i, .int .i64 dr, u] w fun e w' => ∃ g F, e = .returned (.tuple #[(.pointer (some ⟨g, 0, none⟩)), .int .i64 0]) ∧ NAt F w' g (NM.new t i.toNat dr l) ∧ (∀ f, f ∈ F → w.heap.size ≤ f) ∧ Below w.heap.size w w'
  new_no : ∀ (t : Tb.T) (v u : Value) (i dr : Int) (l : List R4) (w : World), SeesT w w.heap.size v t.ns → SeesRs w w.heap.size u l → ¬ NM.may t i dr l →
    Calls Tryz.prog 5 #[tabV t v, .int .i64 i, .int .i64 dr, u] w fun e w' => e = .returned (.tuple #[.pointer none, .int .i64 1]) ∧ Below w.heap.size w w'
  on : ∀ {F w g s} (a : Int), NAt F w g s → Calls Tryz.prog 25 #[(.pointer (some ⟨g, 0, none⟩)), .int .i64 a] w fun e w' => ∃ F', e = .returned (.int .i64 (s.onE a)) ∧ NAt F' w' g (s.on a) ∧ Eff F F' w w'
  send : ∀ {F w g s}, NAt F w g s → Calls Tryz.prog 33 #[(.pointer (some ⟨g, 0, none⟩))] w fun e w' => ∃ v F', e = .returned v ∧ SeesL w' w'.heap.size v s.sent ∧ NAt F' w' g s.sendS ∧ Eff F F' w w'
  take : ∀ {F w g s vx vy} (h : Hn), NAt F w g s → SeesL w w.heap.size vx h.x → bytesL h.x → SeesL w w.heap.size vy h.y → bytesL h.y → s.ty.a < 900 → s.ty.f < 900 → -4611686018427387904 ≤ s.tm ∧ s.tm ≤ 4611686018427387904 → -1099511627776 ≤ h.o ∧ h.o ≤ 1099511627776 →
    Calls Tryz.prog 36 #[(.pointer (some ⟨g, 0, none⟩)), hdV h vx vy] w fun e w' => ∃ F', e = .returned (.tuple #[]) ∧ NAt F' w' g (s.take h) ∧ Eff F F' w w'
  state : ∀ {F w g s}, NAt F w g s → Calls Tryz.prog 38 #[(.pointer (some ⟨g, 0, none⟩))] w fun e w' => e = .returned (.int .i64 (s.st : Nat)) ∧ Below w.heap.size w w'
  view : ∀ {F w g s}, NAt F w g s → Calls Tryz.prog 39 #[(.pointer (some ⟨g, 0, none⟩))] w fun e w' => e = .returned (csV s.rd s.sl s.ty.m) ∧ Below w.heap.size w w'
  clock : ∀ {F w g s}, NAt F w g s → Calls Tryz.prog 41 #[(.pointer (some ⟨g, 0, none⟩))] w fun e w' => e = .returned (.int .i64 s.tm) ∧ Below w.heap.size w w'
/-- A node of blocks from B on, none of them in P. -/
def Nd (NAt : List Nat → World → Nat → NM → Prop) (B : Nat) (P : List Nat) (W : World) (g : Nat) (s : NM) : Prop := (∃ F, NAt F W g s ∧ ∀ f, f ∈ F → B ≤ f ∧ f ∉ P) ∧ B ≤ W.heap.size ∧ ∀ p, p ∈ P → p < W.heap.size
/-- What is below B is as it was, and so are the blocks of P. -/
structure Bw (B : Nat) (P : List Nat) (w w' : World) : Prop where
  b : Below B w w'
  k : ∀ p, p ∈ P → w'.heap[p]? = w.heap[p]?
theorem Bw.blk {B : Nat} {P : List Nat} {w w' : World} (h : Bw B P w w') {p : Nat} (hp : p ∈ P) {cs : Array Value} {t : TypeId} (hB : Blk w p cs t) : Blk w' p cs t := (h.k p hp).trans hB
theorem Bw.of {B C : Nat} {P : List Nat} {w w' : World} (b : Below C w w') (hB : B ≤ C) (hP : ∀ p, p ∈ P → p < C) : Bw B P w w' := ⟨b.mono hB, fun p hp => b.block p (hP p hp)⟩
/-- Bytes of P, or below B, are as they were. -/
theorem Bw.sees {B : Nat} {P : List Nat} {w w' : World} {v : Value} {l : List Int} (h : Bw B P w w') (hs : SeesL w w.heap.size v l) (hj : ∀ j, v.ownBlock = some j → j ∈ P ∨ j < B) : SeesL w' w'.heap.size v l := ⟨by
  obtain ⟨A, c, rfl, h1, h2, h3, h4⟩ := hs.at_
  refine ⟨A, c, rfl, h1, h2, fun h0 => ?_, h4⟩
  obtain ⟨b, off, rfl, hb, hc⟩ := h3 h0
  have e : w'.heap[b]? = w.heap[b]? := by
    rcases hj b rfl with hj | hj
    · exact h.k b hj
    · exact h.b.block b hj
  refine ⟨b, off, rfl, Nat.lt_of_lt_of_le hb h.b.size, fun j hj => ?_⟩
  rw [← hc j hj]
  simp only [World.cell?, e]⟩
theorem nd_eff {NAt : List Nat → World → Nat → NM → Prop} {B : Nat} {P : List Nat} {w w' : World} {g : Nat} {s : NM} {F F' : List Nat} (h : NAt F' w' g s) (e : Eff F F' w w') (hF : ∀ f, f ∈ F → B ≤ f ∧ f ∉ P) (hB : B ≤ w.heap.size) (hP : ∀ p, p ∈ P → p < w.heap.size) : Nd NAt B P w' g s ∧ Bw B P w w' :=
  ⟨⟨⟨F', h, fun f hf => (e.2 f hf).elim (hF f) fun h => ⟨Nat.le_trans hB h, fun hp => by have := hP f hp; omega⟩⟩, Nat.le_trans hB e.1.size, fun p hp => Nat.lt_of_lt_of_le (hP p hp) e.1.size⟩, ⟨e.1.below (fun f hf => (hF f hf).1) hB, fun p hp => e.1.block p (hP p hp) fun hm => (hF p hm).2 hp⟩⟩
namespace NodeApi
variable {NAt : List Nat → World → Nat → NM → Prop} (A : NodeApi NAt) {B : Nat} {P : List Nat} {w w' : World} {g : Nat} {s : NM}
include A
theorem ndKeep (h : Nd NAt B P w g s) (b : Below w.heap.size w w') : Nd NAt B P w' g s := by
  obtain ⟨⟨F, h, hF⟩, hB, hP⟩ := h
  exact ⟨⟨F, A.keep h b.size fun f hf => b.block f (A.lt h f hf), hF⟩, Nat.le_trans hB b.size, fun p hp => Nat.lt_of_lt_of_le (hP p hp) b.size⟩
/-- One of P turns, or a new one. -/
theorem ndOnly {p : Nat} (h : Nd NAt B P w g s) (hp : p ∈ P) (o : Only p w w') : Nd NAt B P w' g s := by
  obtain ⟨⟨F, h, hF⟩, hB, hP⟩ := h
  exact ⟨⟨F, A.keep h o.size fun f hf => o.block f (A.lt h f hf) fun e => (hF f hf).2 (by cases e; exact hp), hF⟩, Nat.le_trans hB o.size, fun p hp => Nat.lt_of_lt_of_le (hP p hp) o.size⟩
/-- A new block is guarded. -/
theorem ndBox (h : Nd NAt B P w g s) (o : Obj) : Nd NAt B (w.heap.size :: P) (w.alloc o) g s := by
  have h' := A.ndKeep h ((Below.refl w.heap.size w).alloc (Nat.le_refl _) o)
  obtain ⟨⟨F, h, hF⟩, hB, hP⟩ := h
  obtain ⟨-, hB', hP'⟩ := h'
  refine ⟨⟨F, A.keep h (by simp) fun f hf => Below.heap_alloc w o f (A.lt h f hf), fun f hf => ⟨(hF f hf).1, fun hm => ?_⟩⟩, hB', fun p hp => ?_⟩
  · rcases List.mem_cons.1 hm with rfl | hm
    · exact Nat.lt_irrefl _ (A.lt h _ hf)
    · exact (hF f hf).2 hm
  · rcases List.mem_cons.1 hp with rfl | hp
    · simp
    · exact hP' p hp
/-- Bytes that were made lie in no block of the node. -/
theorem ndOwn {v : Value} {l : List Int} (h : Nd NAt B P w g s) (b : Below w.heap.size w w') (ho : OwnsL w' w.heap.size v l) : Nd NAt B (v.ownBlock.toList ++ P) w' g s := by
  have h' := A.ndKeep h b
  obtain ⟨⟨F, h, hF⟩, hB, hP⟩ := h
  obtain ⟨-, hB', hP'⟩ := h'
  refine ⟨⟨F, A.keep h b.size fun f hf => b.block f (A.lt h f hf), fun f hf => ⟨(hF f hf).1, fun hm => ?_⟩⟩, hB', fun p hp => ?_⟩
  · rcases List.mem_append.1 hm with hm | hm
    · have := (ho.lt f (by simpa using hm)).1
      have := A.lt h f hf
      omega
    · exact (hF f hf).2 hm
  · rcases List.mem_append.1 hp with hp | hp
    · exact (ho.lt p (by simpa using hp)).2
    · exact hP' p hp
theorem newB (t : Tb.T) (v u : Value) (i dr : Int) (l : List R4) (w : World) (hv : SeesT w w.heap.size v t.ns) (hu : SeesRs w w.heap.size u l) (hm : NM.may t i dr l) :
    Calls Tryz.prog 5 #[tabV t v, .int .i64 i, .int .i64 dr, u] w fun e w' => ∃ g, e = .returned (.tuple #[(.pointer (some ⟨g, 0, none⟩)), .int .i64 0]) ∧ Nd NAt w.heap.size [] w' g (NM.new t i.toNat dr l) ∧ Below w.heap.size w w' := by
  refine (A.new_ok t v u i dr l w hv hu hm).mono ?_
  rintro _ w' ⟨g, F, rfl, h, hF, b⟩
  exact ⟨g, rfl, ⟨⟨F, h, fun f hf => ⟨hF f hf, List.not_mem_nil⟩⟩, b.size, fun p hp => by simp at hp⟩, b⟩
theorem onB (a : Int) (h : Nd NAt B P w g s) : Calls Tryz.prog 25 #[(.pointer (some ⟨g, 0, none⟩)), .int .i64 a] w fun e w' => e = .returned (.int .i64 (s.onE a)) ∧ Nd NAt B P w' g (s.on a) ∧ Bw B P w w' := by
  obtain ⟨⟨F, h, hF⟩, hB, hP⟩ := h
  refine (A.on a h).mono ?_
  rintro _ w' ⟨F', rfl, h', e⟩
  exact ⟨rfl, nd_eff h' e hF hB hP⟩
theorem sendB (h : Nd NAt B P w g s) : Calls Tryz.prog 33 #[(.pointer (some ⟨g, 0, none⟩))] w fun e w' => ∃ v, e = .returned v ∧ SeesL w' w'.heap.size v s.sent ∧ Nd NAt B P w' g s.sendS ∧ Bw B P w w' := by
  obtain ⟨⟨F, h, hF⟩, hB, hP⟩ := h
  refine (A.send h).mono ?_
  rintro _ w' ⟨v, F', rfl, hv, h', e⟩
  exact ⟨v, rfl, hv, nd_eff h' e hF hB hP⟩
theorem takeB {vx vy : Value} (hd : Hn) (h : Nd NAt B P w g s) (hx : SeesL w w.heap.size vx hd.x) (bx : bytesL hd.x) (hy : SeesL w w.heap.size vy hd.y) (by_ : bytesL hd.y) (ha : s.ty.a < 900) (hf : s.ty.f < 900) (ht : -4611686018427387904 ≤ s.tm ∧ s.tm ≤ 4611686018427387904) (ho : -1099511627776 ≤ hd.o ∧ hd.o ≤ 1099511627776) : Calls Tryz.prog 36 #[(.pointer (some ⟨g, 0, none⟩)), hdV hd vx vy] w fun e w' => e = .returned (.tuple #[]) ∧ Nd NAt B P w' g (s.take hd) ∧ Bw B P w w' := by
  obtain ⟨⟨F, h, hF⟩, hB, hP⟩ := h
  refine (A.take hd h hx bx hy by_ ha hf ht ho).mono ?_
  rintro _ w' ⟨F', rfl, h', e⟩
  exact ⟨rfl, nd_eff h' e hF hB hP⟩
theorem stateB (h : Nd NAt B P w g s) : Calls Tryz.prog 38 #[(.pointer (some ⟨g, 0, none⟩))] w fun e w' => e = .returned (.int .i64 (s.st : Nat)) ∧ Nd NAt B P w' g s ∧ Bw B P w w' := by
  have h0 := h
  obtain ⟨⟨F, h, hF⟩, hB, hP⟩ := h
  refine (A.state h).mono ?_
  rintro _ w' ⟨rfl, b⟩
  exact ⟨rfl, A.ndKeep h0 b, Bw.of b hB hP⟩
theorem viewB (h : Nd NAt B P w g s) : Calls Tryz.prog 39 #[(.pointer (some ⟨g, 0, none⟩))] w fun e w' => e = .returned (csV s.rd s.sl s.ty.m) ∧ Nd NAt B P w' g s ∧ Bw B P w w' := by
  have h0 := h
  obtain ⟨⟨F, h, hF⟩, hB, hP⟩ := h
  refine (A.view h).mono ?_
  rintro _ w' ⟨rfl, b⟩
  exact ⟨rfl, A.ndKeep h0 b, Bw.of b hB hP⟩
theorem clockB (h : Nd NAt B P w g s) : Calls Tryz.prog 41 #[(.pointer (some ⟨g, 0, none⟩))] w fun e w' => e = .returned (.int .i64 s.tm) ∧ Nd NAt B P w' g s ∧ Bw B P w w' := by
  have h0 := h
  obtain ⟨⟨F, h, hF⟩, hB, hP⟩ := h
  refine (A.clock h).mono ?_
  rintro _ w' ⟨rfl, b⟩
  exact ⟨rfl, A.ndKeep h0 b, Bw.of b hB hP⟩
/-- Nothing turns. -/
theorem stateK (h : Nd NAt B P w g s) : Calls Tryz.prog 38 #[(.pointer (some ⟨g, 0, none⟩))] w fun e w' => e = .returned (.int .i64 (s.st : Nat)) ∧ Nd NAt B P w' g s ∧ Below w.heap.size w w' := by
  have h0 := h
  obtain ⟨⟨F, h, hF⟩, hB, hP⟩ := h
  refine (A.state h).mono ?_
  rintro _ w' ⟨rfl, b⟩
  exact ⟨rfl, A.ndKeep h0 b, b⟩
/-- Nothing turns. -/
theorem viewK (h : Nd NAt B P w g s) : Calls Tryz.prog 39 #[(.pointer (some ⟨g, 0, none⟩))] w fun e w' => e = .returned (csV s.rd s.sl s.ty.m) ∧ Nd NAt B P w' g s ∧ Below w.heap.size w w' := by
  have h0 := h
  obtain ⟨⟨F, h, hF⟩, hB, hP⟩ := h
  refine (A.view h).mono ?_
  rintro _ w' ⟨rfl, b⟩
  exact ⟨rfl, A.ndKeep h0 b, b⟩
/-- Nothing turns. -/
theorem clockK (h : Nd NAt B P w g s) : Calls Tryz.prog 41 #[(.pointer (some ⟨g, 0, none⟩))] w fun e w' => e = .returned (.int .i64 s.tm) ∧ Nd NAt B P w' g s ∧ Below w.heap.size w w' := by
  have h0 := h
  obtain ⟨⟨F, h, hF⟩, hB, hP⟩ := h
  refine (A.clock h).mono ?_
  rintro _ w' ⟨rfl, b⟩
  exact ⟨rfl, A.ndKeep h0 b, b⟩
/-- Nothing is heard. -/
theorem silentB (h : Nd NAt B P w g s) (ha : s.ty.a < 900) (hf : s.ty.f < 900) (ht : -4611686018427387904 ≤ s.tm ∧ s.tm ≤ 4611686018427387904) :
    Calls Tryz.prog 36 #[(.pointer (some ⟨g, 0, none⟩)), .agg #[.int .i64 0, .int .i64 0, .slice none 0 0, .slice none 0 0, .int .i64 0]] w fun e w' => e = .returned (.tuple #[]) ∧ Nd NAt B P w' g (s.take ⟨0, 0, [], [], 0⟩) ∧ Bw B P w w' :=
  A.takeB ⟨0, 0, [], [], 0⟩ h SeesL.nil (fun x hx => by simp at hx) SeesL.nil (fun x hx => by simp at hx) ha hf ht (by show _ ≤ (0 : Int) ∧ (0 : Int) ≤ _; omega)
end NodeApi
/-! ### Listening. -/
/-- It has waited for k slots. -/
def NM.sil (s : NM) (k : Nat) : NM := { s with wt := k, se := false }
theorem NM.listens (s : NM) (h1 : s.st = 1) (k : Nat) (h : (k : Int) + 1 < s.me.li) : (s.sil k).sent = [] ∧ (s.sil k).sendS = s.sil (k + 1) ∧ (s.sil (k + 1)).take ⟨0, 0, [], [], 0⟩ = s.sil (k + 1) := by
  have e : (s.sil k).me = s.me := rfl
  have e1 : ∀ j, (s.sil j).st = 1 := fun _ => h1
  refine ⟨?_, ?_, ?_⟩
  · unfold NM.sent NM.sendK
    rw [if_pos (e1 k), e, if_pos (show ((s.sil k).wt : Int) + 1 < s.me.li from h)]
    rfl
  · unfold NM.sendS
    rw [if_pos (e1 k), e, if_pos (show ((s.sil k).wt : Int) + 1 < s.me.li from h)]
    rfl
  · unfold NM.take
    rw [if_neg (by rw [e1]; omega), if_pos (e1 _)]
    rfl
theorem NM.begins (s : NM) (h1 : s.st = 1) (k : Nat) (h : ¬ (k : Int) + 1 < s.me.li) : (s.sil k).sendK = 3 ∧ (s.sil k).sendS = { s.begun with se := true } := by
  have e : (s.sil k).me = s.me := rfl
  have e1 : (s.sil k).st = 1 := h1
  refine ⟨?_, ?_⟩
  · unfold NM.sendK
    rw [if_pos e1, e, if_neg (show ¬ ((s.sil k).wt : Int) + 1 < s.me.li from h)]
  · unfold NM.sendS
    rw [if_pos e1, e, if_neg (show ¬ ((s.sil k).wt : Int) + 1 < s.me.li from h)]
    rfl
end Go.Proofs.YtpdenmcacaajkaaGreat
