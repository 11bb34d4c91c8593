/- Texts TlMath, TbB, TbC, TbD, TbE, AuM in one. For what each says in front of its theorems. -/
import Derived.Deep.RegionHeld3
import Derived.Deep.RegionLaw
import Derived.RegionTactic
import Derived.BigQuiet
import Derived.Test.YtkaeikjfegjpjaaAB1
import Derived.Test.YtkaeikjfegjpjaaAB3
import Derived.Test.YtkaeikjfegjpjaaAB4
/-! ### TlMath -/
namespace Go.Proofs.Ytkaeikjfegjpjaa
open Go.RowKit

/-- A bit more. -/
def ins (m k : Nat) : Nat := m ||| 2 ^ k
/-- A bit less. -/
def del (m k : Nat) : Nat := if m.testBit k then m - 2 ^ k else m
theorem ins_lt {m k : Nat} (hm : m < 256) (hk : k < 8) : ins m k < 256 := by
  have : ∀ (a : Fin 256) (b : Fin 8), ins a.val b.val < 256 := by decide +kernel
  exact this ⟨m, hm⟩ ⟨k, hk⟩
theorem del_lt {m k : Nat} (hm : m < 256) : del m k < 256 := by
  unfold del; split
  · exact Nat.lt_of_le_of_lt (Nat.sub_le _ _) hm
  · exact hm
theorem ins_has {m k : Nat} (hm : m < 256) (hk : k < 8) : (ins m k).testBit k = true := by
  have : ∀ (a : Fin 256) (b : Fin 8), (ins a.val b.val).testBit b.val = true := by decide +kernel
  exact this ⟨m, hm⟩ ⟨k, hk⟩
theorem del_has {m k : Nat} (hm : m < 256) (hk : k < 8) : (del m k).testBit k = false := by
  have : ∀ (a : Fin 256) (b : Fin 8), (del a.val b.val).testBit b.val = false := by decide +kernel
  exact this ⟨m, hm⟩ ⟨k, hk⟩
theorem ins_del {m k : Nat} (hm : m < 256) (hk : k < 8) : ins (del m k) k = ins m k := by
  have : ∀ (a : Fin 256) (b : Fin 8), ins (del a.val b.val) b.val = ins a.val b.val := by decide +kernel
  exact this ⟨m, hm⟩ ⟨k, hk⟩
theorem or_ins {m k : Nat} (hm : m < 256) (hk : k < 8) : bits BinOp.or IntKind.i64 (m : Nat) ((2 ^ k : Nat) : Int) = (ins m k : Nat) := by
  have : ∀ (a : Fin 256) (b : Fin 8), bits BinOp.or IntKind.i64 (a.val : Nat) ((2 ^ b.val : Nat) : Int) = (ins a.val b.val : Nat) := by decide +kernel
  exact this ⟨m, hm⟩ ⟨k, hk⟩
theorem andNot_del {m k : Nat} (hm : m < 256) (hk : k < 8) : bits BinOp.andNot IntKind.i64 (m : Nat) ((2 ^ k : Nat) : Int) = (del m k : Nat) := by
  have : ∀ (a : Fin 256) (b : Fin 8), bits BinOp.andNot IntKind.i64 (a.val : Nat) ((2 ^ b.val : Nat) : Int) = (del a.val b.val : Nat) := by decide +kernel
  exact this ⟨m, hm⟩ ⟨k, hk⟩
theorem or_nought {m : Nat} (hm : m < 256) : bits BinOp.or IntKind.i64 (m : Nat) 0 = (m : Nat) := by
  have : ∀ (a : Fin 256), bits BinOp.or IntKind.i64 (a.val : Nat) 0 = (a.val : Nat) := by decide +kernel
  exact this ⟨m, hm⟩
theorem andNot_nought {m : Nat} (hm : m < 256) : bits BinOp.andNot IntKind.i64 (m : Nat) 0 = (m : Nat) := by
  have : ∀ (a : Fin 256), bits BinOp.andNot IntKind.i64 (a.val : Nat) 0 = (a.val : Nat) := by decide +kernel
  exact this ⟨m, hm⟩
theorem and_nought {m : Nat} (hm : m < 256) : bits BinOp.and IntKind.i64 (m : Nat) 0 = 0 := by
  have : ∀ (a : Fin 256), bits BinOp.and IntKind.i64 (a.val : Nat) 0 = 0 := by decide +kernel
  exact this ⟨m, hm⟩
/-- One bit: is it there? -/
theorem and_bit {m k : Nat} (hm : m < 256) (hk : k < 8) : bits BinOp.and IntKind.i64 (m : Nat) ((2 ^ k : Nat) : Int) = if m.testBit k then ((2 ^ k : Nat) : Int) else 0 := by
  have : ∀ (a : Fin 256) (b : Fin 8), bits BinOp.and IntKind.i64 (a.val : Nat) ((2 ^ b.val : Nat) : Int) = if a.val.testBit b.val then ((2 ^ b.val : Nat) : Int) else 0 := by decide +kernel
  exact this ⟨m, hm⟩ ⟨k, hk⟩
theorem and_low (a : Int) : bits BinOp.and IntKind.i64 a 255 = ((a % 256).toNat : Nat) := by
  have h8 : (BitVec.ofInt 64 255).toNat = 2 ^ 8 - 1 := by decide
  show IntKind.i64.wrap (((BitVec.ofInt 64 a) &&& (BitVec.ofInt 64 255)).toNat : Int) = _
  rw [BitVec.toNat_and, h8, Nat.and_two_pow_sub_one_eq_mod, BitVec.toNat_ofInt, IntKind.wrap_i64]
  omega
theorem and_one64 (a : Int) : bits BinOp.and IntKind.i64 a 1 = a % 2 := by
  have h8 : (BitVec.ofInt 64 1).toNat = 2 ^ 1 - 1 := by decide
  show IntKind.i64.wrap (((BitVec.ofInt 64 a) &&& (BitVec.ofInt 64 1)).toNat : Int) = _
  rw [BitVec.toNat_and, h8, Nat.and_two_pow_sub_one_eq_mod, BitVec.toNat_ofInt, IntKind.wrap_i64]
  omega
theorem cast_pow (k : Nat) : ((2 ^ k : Nat) : Int) = (2 : Int) ^ k := by simp
theorem wrap_pow {k : Nat} (hk : k < 8) : wrap64 ((2 : Int) ^ k) = (2 : Int) ^ k := by
  have : ∀ (b : Fin 8), wrap64 ((2 : Int) ^ b.val) = (2 : Int) ^ b.val := by decide +kernel
  exact this ⟨k, hk⟩
/-- As a walk spells them. -/
theorem or_w {m k : Nat} (hm : m < 256) (hk : k < 8) : bits BinOp.or IntKind.i64 (m : Nat) (wrap64 ((2 : Int) ^ k)) = (ins m k : Nat) := by
  rw [wrap_pow hk, ← cast_pow]; exact or_ins hm hk
theorem andNot_w {m k : Nat} (hm : m < 256) (hk : k < 8) : bits BinOp.andNot IntKind.i64 (m : Nat) (wrap64 ((2 : Int) ^ k)) = (del m k : Nat) := by
  rw [wrap_pow hk, ← cast_pow]; exact andNot_del hm hk
theorem is_w (m k : Nat) : (bits BinOp.and IntKind.i64 ((m : Int) / (2 : Int) ^ k) 1 == 1) = m.testBit k := by
  rw [and_one64, ← cast_pow, ← Int.natCast_ediv, Nat.testBit_eq_decide_div_mod_eq]
  by_cases h : m / 2 ^ k % 2 = 1
  · rw [decide_eq_true h, beq_iff_eq]; omega
  · rw [decide_eq_false h, beq_eq_false_iff_ne]; omega
theorem low_lt (a : Int) : (a % 256).toNat < 256 := by omega

/-- Members, and both counts. -/
structure TS where
  m : Nat
  a : Nat
  f : Nat
deriving DecidableEq
def TS.join (s : TS) (n : Int) : TS := if 0 ≤ n ∧ n < 8 then { s with m := ins s.m n.toNat } else s
def TS.miss (s : TS) (n : Int) : TS := if 0 ≤ n ∧ n < 8 then { s with m := del s.m n.toNat } else s
def TS.right (s : TS) (n : Int) : TS := if 0 ≤ n ∧ n < 8 then ⟨ins s.m n.toNat, s.a + 1, s.f⟩ else s
def TS.wrong (s : TS) (n : Int) : TS := if 0 ≤ n ∧ n < 8 then ⟨del s.m n.toNat, s.a, s.f + 1⟩ else s
def TS.clear (s : TS) : TS := { s with a := 0, f := 0 }
def isB (m : Nat) (n : Int) : Bool := decide (0 ≤ n ∧ n < 8) && m.testBit n.toNat
end Go.Proofs.Ytkaeikjfegjpjaa

/-! ### TbB -/
namespace Go.Proofs.Ytkaeikjfegjpjaa
open Go.RowKit
open Tb (D T)

theorem within_tb (n a b : Int) (w : World) : Calls Try.prog 24 #[.int .i64 n, .int .i64 a, .int .i64 b] w fun e w' => e = .returned (.bool (Tb.wi n a b)) ∧ w = w' := by
  unfold Tb.wi
  by_cases h : a ≤ n
  all_goals
    go_enter Try.func24, Try.ntmps24
    go_wp2
    go_ret
    exact ⟨by simp [*] <;> omega, rfl⟩
theorem in_tb (n a b : Int) (w : World) : Calls Try.prog 22 #[.int .i64 n, .int .i64 a, .int .i64 b] w fun e w' => e = .returned (.bool (Tb.wi n a b)) ∧ w = w' := by
  unfold Tb.wi
  by_cases h : a ≤ n
  all_goals
    go_enter Try.func22, Try.ntmps22
    go_wp2
    go_ret
    exact ⟨by simp [*] <;> omega, rfl⟩

theorem asks_tb (d : D) (n : Int) (q : Nat) (w : World) (hq : w.cell? ⟨q, 0, none⟩ = some (.int .i64 n)) :
    Calls Try.prog 31 #[dV d, .pointer (some ⟨q, 0, none⟩)] w fun e w' => e = .returned (.bool (decide (d.li = n))) ∧ Below w.heap.size w w' := by
  unfold dV
  have hq2 := fun o => Lib.cell?_alloc_some o hq
  go_enter Try.func31, Try.ntmps31
  go_wp2
  go_ret
  exact ⟨rfl, (Below.refl _ _).alloc (Nat.le_refl _) _⟩

theorem index_tb (A : Option Addr) (c : Nat) (l : List D) (n : Int) (q : Nat) (w : World) (hs : SeesD w w.heap.size A l) (hlen : l.length ≤ c) (hc : c ≤ maxLen) (hq : w.cell? ⟨q, 0, none⟩ = some (.int .i64 n)) :
    Calls Try.prog 33 #[.slice A l.length c, .func (.func 31) #[] #[.pointer (some ⟨q, 0, none⟩)]] w fun e w' =>
      ∃ r : Int, e = .returned (.int .i64 r) ∧ decide (0 ≤ r) = Tb.has l l.length n ∧ Below w.heap.size w w' := by
  have hqlt := World.block_lt_of_cell? w _ hq
  unfold maxLen at hc
  have h0 := Lib.hid (Tb.has_zero l n)
  have hS := Lib.hid (Tb.has_succ l)
  go_enter Try.func33, Try.ntmps33
  go_wp2
  go_loopw [8] (fun i wr => ∃ k : Nat, k ≤ l.length ∧ i = .int .i64 k ∧ Hid (Tb.has l k n = false) ∧ Below w.heap.size w wr) (fun i _ => l.length - (intOf i).toNat)
  case atStart => exact ⟨0, by omega, rfl, h0, Below.refl _ _⟩
  case round =>
    obtain ⟨k, hk, rfl, hn, hb⟩ := hrel
    by_cases hlt : k < l.length
    · obtain ⟨b, off, rfl, hbb, hd⟩ := hs.below hb (by omega)
      obtain ⟨e0, e1, e2, e3⟩ := hd k hlt
      have q1 : decide ((k : Int) < (l.length : Nat)) = true := by simp; omega
      have hq2 := (hb.cell (p := ⟨q, 0, none⟩) hqlt).trans hq
      have hcall := Lib.hid (asks_tb (l.getD k default) n q wr hq2)
      unfold dV at hcall
      generalize hdd : l.getD k default = d at *
      have hdd := Lib.hid hdd
      cases hdn : decide (d.li = n)
      all_goals
        rw [hdn] at hcall
        go_wp2_with fail
        refine hcall.out.mono ?_
        rintro e w1 ⟨rfl, hb1⟩
        have hb2 := hb.trans (hb1.mono hb.size)
        clear hcall
        go_wp2
      · go_roundw
        case rel => exact ⟨k + 1, by omega, by go_num, Lib.hid (by rw [hS.out k hlt, hn.out, hdd.out]; exact hdn), hb2⟩
        case measure => simp [intOf]; omega
      · go_ret
        refine ⟨k, rfl, ?_, hb2⟩
        have hT : Tb.has l (k + 1) n = true := by rw [hS.out k hlt, hdd.out, hdn]; simp
        rw [Tb.has_more hlt hT]
        simp
    · obtain rfl : k = l.length := by omega
      have q1 : decide ((l.length : Int) < (l.length : Nat)) = false := by simp
      go_wp2
      go_ret
      exact ⟨-1, rfl, by rw [hn.out]; decide, hb⟩
end Go.Proofs.Ytkaeikjfegjpjaa

/-! ### TbC -/
namespace Go.Proofs.Ytkaeikjfegjpjaa
open Go.RowKit
open Tb (D T)

theorem contains_tb (A : Option Addr) (c : Nat) (l : List D) (n : Int) (q : Nat) (w : World) (hs : SeesD w w.heap.size A l) (hlen : l.length ≤ c) (hc : c ≤ maxLen) (hq : w.cell? ⟨q, 0, none⟩ = some (.int .i64 n)) :
    Calls Try.prog 30 #[.slice A l.length c, .func (.func 31) #[] #[.pointer (some ⟨q, 0, none⟩)]] w fun e w' =>
      e = .returned (.bool (Tb.has l l.length n)) ∧ Below w.heap.size w w' := by
  have hI := Lib.hid (index_tb A c l n q w hs hlen hc hq)
  generalize Tb.has l l.length n = h at *
  go_enter Try.func30, Try.ntmps30
  go_wp2_with fail
  refine hI.out.mono ?_
  rintro e w1 ⟨r, rfl, hr, hb⟩
  have hr2 : decide (r ≥ 0) = h := by rw [← hr]
  clear hI
  go_wp2
  go_ret
  exact ⟨by simp [← hr], hb⟩
theorem listens_tb (A : Option Addr) (c : Nat) (l : List D) (n : Int) (w : World) (hs : SeesD w w.heap.size A l) (hlen : l.length ≤ c) (hc : c ≤ maxLen) :
    Calls Try.prog 27 #[.slice A l.length c, .int .i64 n] w fun e w' => e = .returned (.bool (Tb.has l l.length n)) ∧ Below w.heap.size w w' := by
  have hb0 := (Below.refl w.heap.size w).alloc (Nat.le_refl _) (.cells #[.int .i64 n] 3)
  have hI := contains_tb A c l n w.heap.size (w.alloc (.cells #[.int .i64 n] 3)) ((hs.below hb0).more (by simp)) hlen hc (by rw [World.cell?_alloc_at _ _ _ _ rfl]; rfl)
  have hI := Lib.hid hI
  have hmf : ∀ (fn : Fn) (first cap : Array Value) (w : World), (Instr.makeFunc fn first cap).run Try.prog w = .ok (.func fn first cap) w := fun _ _ _ _ => rfl
  generalize Tb.has l l.length n = h at *
  go_enter Try.func27, Try.ntmps27
  go_wp2_with fail
  refine hI.out.mono ?_
  rintro e w1 ⟨rfl, hb⟩
  have hb1 := hb0.trans (hb.mono (by simp))
  clear hI
  go_wp2
  go_ret
  exact ⟨rfl, hb1⟩
end Go.Proofs.Ytkaeikjfegjpjaa

/-! ### TbD -/
namespace Go.Proofs.Ytkaeikjfegjpjaa
open Go.RowKit
open Tb (D T)

/-- A new block of four cells, and what reads it behind calls. -/
structure Box4 (w w0 : World) (x0 x1 x2 x3 : Value) : Prop where
  size : w0.heap.size = w.heap.size + 1
  below : Below w.heap.size w w0
  cell : ∀ W, Below w0.heap.size w0 W → w.heap.size < W.heap.size ∧ W.cell? ⟨w.heap.size, 0, none⟩ = some x0 ∧ W.cell? ⟨w.heap.size, 1, none⟩ = some x1 ∧ W.cell? ⟨w.heap.size, 2, none⟩ = some x2 ∧ W.cell? ⟨w.heap.size, 3, none⟩ = some x3
theorem bcelld {W w1 : World} {B : Nat} (hb : Below B W w1) : ∀ b o, b < B → w1.cell? ⟨b, o, none⟩ = W.cell? ⟨b, o, none⟩ := fun b o h => hb.cell (p := ⟨b, o, none⟩) h
theorem box4 (w : World) (x0 x1 x2 x3 : Value) (t : TypeId) : Box4 w (w.alloc (.cells #[x0, x1, x2, x3] t)) x0 x1 x2 x3 := by
  refine ⟨by simp, (Below.refl _ _).alloc (Nat.le_refl _) _, fun W hb => ?_⟩
  have hz := hb.size
  have hc := bcelld hb
  simp only [World.size_alloc] at hz
  refine ⟨by omega, ?_, ?_, ?_, ?_⟩ <;> (rw [hc _ _ (by simp), World.cell?_alloc_at _ _ _ _ rfl]; rfl)

set_option maxRecDepth 100000 in
set_option maxHeartbeats 2000000 in
theorem areNodes_tb (A : Option Addr) (c : Nat) (l : List D) (w : World) (hs : SeesD w w.heap.size A l) (hlen : l.length ≤ c) (hc : c ≤ maxLen) :
    Calls Try.prog 23 #[.slice A l.length c] w fun e w' => e = .returned (.bool (Tb.are l)) ∧ Below w.heap.size w w' := by
  have hin := fun n a b W => Lib.hid (within_tb n a b W)
  have hli := fun k (_ : k < l.length) n W (hb : Below w.heap.size w W) => listens_tb A c (l.take k) n W
  have hc' := hc
  unfold maxLen at hc
  unfold Tb.are
  cases hn : Tb.wi l.length 4 8
  · have h1 := Lib.hid hn
    clear hn
    go_enter Try.func23, Try.ntmps23
    go_wp2_with fail
    refine (hin _ _ _ _).out.mono ?_
    rintro e w1 ⟨rfl, rfl⟩
    rw [h1.out]
    go_wp2
    go_ret
    exact ⟨by simp, Below.refl _ _⟩
  · have h1 := Lib.hid hn
    have hn8 : l.length ≤ 8 := by have := (Tb.wi_iff _ _ _).1 hn; omega
    have hn4 : 4 ≤ l.length := by have := (Tb.wi_iff _ _ _).1 hn; omega
    clear hn
    go_enter Try.func23, Try.ntmps23
    go_wp2_with fail
    refine (hin _ _ _ _).out.mono ?_
    rintro e w1 ⟨rfl, rfl⟩
    rw [h1.out]
    go_wp2
    have hS := Lib.hid (Tb.oks_succ l)
    have hbad := fun k hk h => Lib.hid (Tb.oks_bad (l := l) (k := k) hk h)
    have hsy := Lib.hid (Tb.syn_le l)
    go_loopw [3, 12] (fun s i wr => ∃ k : Nat, k ≤ l.length ∧ i = .int .i64 k ∧ s = .int .i64 (Tb.syn l k) ∧ Hid (Tb.oks l k = true) ∧ Below w.heap.size w wr) (fun _ i _ => l.length - (intOf i).toNat)
    case atStart => exact ⟨0, by omega, rfl, rfl, rfl, Below.refl _ _⟩
    case round =>
      obtain ⟨k, hk, rfl, rfl, hok, hb⟩ := hrel
      have hsk := hsy.out k
      by_cases hlt : k < l.length
      · obtain ⟨b, off, rfl, hbb, hd⟩ := hs.below hb (by omega)
        obtain ⟨e0, e1, e2, e3⟩ := hd k hlt
        have q1 : decide ((k : Int) < (l.length : Nat)) = true := by simp; omega
        have hL := hli k hlt (l.getD k default).li
        have htl : (l.take k).length = k := by rw [List.length_take]; omega
        have hhas := Tb.has_take l k (by omega) (l.getD k default).li
        rw [htl] at hL hhas
        have hokk : Tb.ok l k = (Tb.wi (l.getD k default).li (2 * l.length) 200 && Tb.wi (l.getD k default).sz 1 8 && !Tb.has l k (l.getD k default).li) := rfl
        rw [hhas] at hL
        have hsyn0 : Tb.syn l (k + 1) = Tb.syn l k + (if (l.getD k default).sy then 1 else 0) := rfl
        generalize hdd0 : l.getD k default = d at *
        have hdd := Lib.hid hdd0
        have hsyn := Lib.hid hsyn0
        clear hhas hdd0 hsyn0
        generalize Tb.has l k d.li = h at *
        have hbox := Lib.hid (box4 wr (.bool d.sy) (.bool d.inf) (.int .i64 d.li) (.int .i64 d.sz) 41)
        have hb0 := hb.trans (hbox.out.below.mono hb.size)
        have hm2 : IntKind.i64.wrap (2 * (l.length : Int)) = 2 * l.length := IntWalk.i64_in _ (by omega)
        have hq : ∀ n a b t, Tb.wi n a b = t → ∀ W, Hid (Calls Try.prog 24 #[.int .i64 n, .int .i64 a, .int .i64 b] W fun e w' => e = .returned (.bool t) ∧ w' = W) := by
          rintro n a b t rfl W
          exact (hin n a b W).out.mono fun e w' h => ⟨h.1, h.2.symm⟩
        cases ha : Tb.wi d.li (2 * l.length) 200
        · have hA := hq _ _ _ _ ha
          have hfin := hbad k hlt (by rw [hokk, ha]; rfl)
          go_wp2_with fail
          generalize wr.alloc (.cells #[.bool d.sy, .bool d.inf, .int .i64 d.li, .int .i64 d.sz] 41) = w0 at *
          obtain ⟨hz, c0, c1, c2, c3⟩ := hbox.out.cell w0 (Below.refl _ _)
          clear hs hd hL hli hbad hS hsy hbox e0 e1 e2 e3 ha hq hin
          go_quiet (first | (go_at_call 24; refine Calls.quiet_of_same (hA _).out))
          go_wp2
          go_ret
          exact ⟨by rw [hfin.out]; simp, below_drewN hb0 _⟩
        · cases hz : Tb.wi d.sz 1 8
          · have hA := hq _ _ _ _ ha
            have hZ := hq _ _ _ _ hz
            have hfin := hbad k hlt (by rw [hokk, ha, hz]; rfl)
            go_wp2_with fail
            generalize wr.alloc (.cells #[.bool d.sy, .bool d.inf, .int .i64 d.li, .int .i64 d.sz] 41) = w0 at *
            obtain ⟨hz, c0, c1, c2, c3⟩ := hbox.out.cell w0 (Below.refl _ _)
            clear hs hd hL hli hbad hS hsy hbox e0 e1 e2 e3 ha hq hin
            go_quiet (first | (go_at_call 24; first | with_reducible refine Calls.quiet_of_same (hA _).out | refine Calls.quiet_of_same (hZ _).out))
            go_wp2
            go_ret
            exact ⟨by rw [hfin.out]; simp, below_drewN hb0 _⟩
          · have hA := Lib.hid ha
            have hZ := Lib.hid hz
            have hokk2 := Lib.hid (show Tb.ok l k = !h by rw [hokk, ha, hz]; simp)
            clear ha hz hokk hq
            go_wp2_with fail
            clear e0 e1 e2 e3
            generalize wr.alloc (.cells #[.bool d.sy, .bool d.inf, .int .i64 d.li, .int .i64 d.sz] 41) = w0 at *
            have K := Lib.hid (show ∀ W, Below w0.heap.size w0 W → W.cell? ⟨wr.heap.size, 2, none⟩ = some (.int .i64 d.li) ∧ W.cell? ⟨wr.heap.size, 3, none⟩ = some (.int .i64 d.sz) from fun W h => (hbox.out.cell W h).2.2.2)
            have hb00 := Below.refl w0.heap.size w0
            have hL2 : ∀ W, Below w.heap.size w W → Hid (Calls Try.prog 27 #[.slice (some ⟨b, off, none⟩) k c, .int .i64 d.li] W fun e w' => e = .returned (.bool h) ∧ Below W.heap.size W w') := fun W hbw => hL W hbw (SeesD.more (fun h0 => by
              obtain ⟨b', off', hA', hb', hc'⟩ := (hs.below hbw) (by omega)
              refine ⟨b', off', hA', hb', fun j hj => ?_⟩
              have := hc' j (by rw [htl] at hj; omega)
              rw [htl] at hj
              have e : (l.take k).getD j default = l.getD j default := by simp [List.getD_eq_getElem?_getD, hj]
              rw [e]; exact this) hbw.size) (by omega) hc'
            clear hL hli hs hd
            have q2 : (0 : Int) ≤ (k : Nat) := by omega
            have q3 : ((k : Nat) : Int) ≤ (c : Nat) := by omega
            have q4 : IntKind.i64.wrap (k : Nat) = k := IntWalk.i64_in _ (by omega)
            cases h
            all_goals
              go_region_held3 (fun W => W.cell? ⟨wr.heap.size, 2, none⟩ = some (.int .i64 d.li) ∧ W.cell? ⟨wr.heap.size, 3, none⟩ = some (.int .i64 d.sz))
                ((refine K.out _ ?_; repeat' (first | exact hb3 | exact hb00 | (with_reducible refine Below.drew ?_))))
                (first
                  | ((go_at_call 24; refine (hin _ _ _ _).out.mono ?_; rintro e w3 ⟨rfl, rfl⟩; (first | rw [hA.out] | rw [hZ.out])))
                  | ((go_at_call 27; refine (hL2 _ ?_).out.mono ?_); (repeat' (first | exact hb0 | (with_reducible refine Below.drew ?_))); rintro e w3 ⟨rfl, hb⟩; have hb3 := hb00.drew.trans (hb.mono hb00.size))
                  | fail)
            · have hokS := hS.out k
              rw [hok.out, hokk2.out] at hokS
              have hokS := Lib.hid hokS
              have c0 := (hbox.out.cell _ hb3).2.1
              go_wp2_with fail
              all_goals
                refine ⟨⟨k + 1, by omega, by go_num, ?_, Lib.hid (by rw [hokS.out]; rfl), hb0.trans (hb3.mono hb0.size)⟩, by simp [intOf]; omega⟩
                rw [hsyn.out]
                simp [*]
            · have hfin := hbad k hlt (by rw [hokk2.out]; rfl)
              go_wp2
              go_ret
              exact ⟨by rw [hfin.out]; simp, hb0.trans (hb3.mono hb0.size)⟩
      · obtain rfl : k = l.length := by omega
        have q1 : decide ((l.length : Int) < (l.length : Nat)) = false := by simp
        have hle := hsy.out l.length
        go_wp2
        go_ret
        exact ⟨by rw [hok.out]; simp; omega, hb⟩
end Go.Proofs.Ytkaeikjfegjpjaa

/-! ### TbE -/
namespace Go.Proofs.Ytkaeikjfegjpjaa
open Go.RowKit
open Tb (D T)

/-- The bounds of an int. -/
def i64 (x : Int) : Prop := -9223372036854775808 ≤ x ∧ x ≤ 9223372036854775807

set_option maxHeartbeats 2000000 in
theorem is_tb (t : T) (v : Value) (w : World) (B : Nat) (hB : B ≤ w.heap.size) (hv : SeesT w B v t.ns) :
    Calls Try.prog 19 #[tabV t v] w fun e w' => e = .returned (.bool t.is) ∧ Below w.heap.size w w' := by
  obtain ⟨A, c, rfl, h1, h2, h3, -⟩ := hv.at_
  obtain ⟨ns, dr, wi, lm⟩ := t
  simp only at h1 h3
  have hn := fun W (hb : Below w.heap.size w W) => areNodes_tb A c ns W (((h3.more hB).below hb).more hb.size) h1 h2
  have hin := fun n a b W => Lib.hid (within_tb n a b W)
  have hres : T.is ⟨ns, dr, wi, lm⟩ = (Tb.are ns && (Tb.wi dr 0 1000 && (Tb.wi wi (4 * dr + 2) 1000 && Tb.wi lm wi 1000))) := rfl
  rw [hres]
  clear hres hv h3
  unfold maxLen at h2
  unfold tabV
  simp only
  generalize Tb.are ns = q at *
  have hn := fun W hb => Lib.hid (hn W hb)
  generalize ns.length = n at *
  have hq : ∀ n a b t, Tb.wi n a b = t → ∀ W, Hid (Calls Try.prog 24 #[.int .i64 n, .int .i64 a, .int .i64 b] W fun e w' => e = .returned (.bool t) ∧ W = w') := by
    rintro n a b t rfl W
    exact hin n a b W
  have hbox := Lib.hid (box4 w (.slice A n c) (.int .i64 dr) (.int .i64 wi) (.int .i64 lm) 24)
  cases q
  · go_enter Try.func19, Try.ntmps19
    go_wp2_with fail
    refine (hn _ hbox.out.below).out.mono ?_
    rintro e w1 ⟨rfl, hb⟩
    go_wp2
    go_ret
    exact ⟨rfl, hbox.out.below.trans (hb.mono hbox.out.below.size)⟩
  cases q1 : Tb.wi dr 0 1000
  · have f1 := hq _ _ _ _ q1
    clear q1 hq hin
    go_enter Try.func19, Try.ntmps19
    go_wp2_with fail
    refine (hn _ hbox.out.below).out.mono ?_
    rintro e w1 ⟨rfl, hb⟩
    obtain ⟨-, c0, c1, c2, c3⟩ := hbox.out.cell w1 hb
    go_wp2_with fail
    refine (f1 _).out.mono ?_
    rintro e w2 ⟨rfl, rfl⟩
    go_wp2
    go_ret
    exact ⟨rfl, hbox.out.below.trans (hb.mono hbox.out.below.size)⟩
  have wr0 : IntKind.i64.wrap (4 * dr) = 4 * dr := IntWalk.i64_in _ (by have := (Tb.wi_iff _ _ _).1 q1; omega)
  have wr1 : IntKind.i64.wrap (4 * dr + 2) = 4 * dr + 2 := IntWalk.i64_in _ (by have := (Tb.wi_iff _ _ _).1 q1; omega)
  cases q2 : Tb.wi wi (4 * dr + 2) 1000
  · have f1 := hq _ _ _ _ q1
    have f2 := hq _ _ _ _ q2
    clear q1 q2 hq hin
    go_enter Try.func19, Try.ntmps19
    go_wp2_with fail
    refine (hn _ hbox.out.below).out.mono ?_
    rintro e w1 ⟨rfl, hb⟩
    obtain ⟨-, c0, c1, c2, c3⟩ := hbox.out.cell w1 hb
    go_wp2_with fail
    refine (f1 _).out.mono ?_
    rintro e w2 ⟨rfl, rfl⟩
    go_wp2_with fail
    refine (f2 _).out.mono ?_
    rintro e w2 ⟨rfl, rfl⟩
    go_wp2
    go_ret
    exact ⟨rfl, hbox.out.below.trans (hb.mono hbox.out.below.size)⟩
  · have f1 := hq _ _ _ _ q1
    have f2 := hq _ _ _ _ q2
    clear q1 q2 hq
    generalize hr : Tb.wi lm wi 1000 = r at *
    have f3 := fun W => hin lm wi 1000 W
    rw [hr] at f3
    clear hr hin
    go_enter Try.func19, Try.ntmps19
    go_wp2_with fail
    refine (hn _ hbox.out.below).out.mono ?_
    rintro e w1 ⟨rfl, hb⟩
    obtain ⟨-, c0, c1, c2, c3⟩ := hbox.out.cell w1 hb
    go_wp2_with fail
    refine (f1 _).out.mono ?_
    rintro e w2 ⟨rfl, rfl⟩
    go_wp2_with fail
    refine (f2 _).out.mono ?_
    rintro e w2 ⟨rfl, rfl⟩
    go_wp2_with fail
    refine (f3 _).out.mono ?_
    rintro e w2 ⟨rfl, rfl⟩
    go_wp2
    go_ret
    exact ⟨rfl, hbox.out.below.trans (hb.mono hbox.out.below.size)⟩
end Go.Proofs.Ytkaeikjfegjpjaa

/-! ### AuM -/
namespace Go.Proofs.Ytkaeikjfegjpjaa
open Tb (D T)

/-- Is a fault fair? -/
def ftFair (w : Int) (f : Ft) : Bool := f.may && (decide (f.k ≠ 5) || decide (f.a = 0)) && (decide (f.k ≠ 6) || (decide (2 * w < f.a) || decide (f.a < -(2 * w))))
theorem ftFair_iff (w : Int) (f : Ft) : ftFair w f = true ↔ f.may = true ∧ (f.k = 5 → f.a = 0) ∧ (f.k = 6 → 2 * w < f.a ∨ f.a < -(2 * w)) := by
  unfold ftFair
  simp only [Bool.and_eq_true, Bool.or_eq_true, decide_eq_true_eq]
  exact ⟨fun ⟨⟨h1, h2⟩, h3⟩ => ⟨h1, fun e => by omega, fun e => by omega⟩, fun ⟨h1, h2, h3⟩ => ⟨⟨h1, by omega⟩, by omega⟩⟩
/-- Are a slot's faults fair? -/
def fsFair (w : Int) (l : List Ft) : Bool := decide (l.length = 1) && ftFair w (l.getD 0 default)
/-- How many slots without faults there were, behind one act more; none: it is not fair. -/
def auStep (r : Nat) (w : Int) (q : Option Nat) (a : Ac) : Option Nat := q.bind fun q => if a.k = 3 ∨ a.k = 4 then some q else if a.k ≠ 5 then none else if a.f.length = 0 then some (q + 1) else if q < r ∨ fsFair w a.f = false then none else some 0
def auAt (r : Nat) (w : Int) (l : List Ac) (k : Nat) : Option Nat := (l.take k).foldl (auStep r w) (some r)
theorem auAt_zero (r : Nat) (w : Int) (l : List Ac) : auAt r w l 0 = some r := rfl
theorem auAt_succ (r : Nat) (w : Int) (l : List Ac) (k : Nat) (hk : k < l.length) : auAt r w l (k + 1) = auStep r w (auAt r w l k) (l.getD k default) := by
  unfold auAt
  rw [List.take_add_one, List.foldl_append, List.getD_eq_getElem?_getD, List.getElem?_eq_getElem hk]
  rfl
theorem auAt_none (r : Nat) (w : Int) (l : List Ac) (k : Nat) (hk : k ≤ l.length) (h : auAt r w l k = none) : auAt r w l l.length = none := by
  have : ∀ d, k + d ≤ l.length → auAt r w l (k + d) = none := by
    intro d
    induction d with
    | zero => intro _; exact h
    | succ d ih => intro hd; rw [← Nat.add_assoc, auAt_succ r w l (k + d) (by omega), ih (by omega)]; rfl
  have := this (l.length - k) (by omega)
  rwa [show k + (l.length - k) = l.length by omega] at this
theorem auAt_le (r : Nat) (w : Int) (l : List Ac) : ∀ k q, k ≤ l.length → auAt r w l k = some q → q ≤ r + k
  | 0, q, _, h => by rw [auAt_zero] at h; cases h; omega
  | k + 1, q, hk, h => by
    rw [auAt_succ r w l k (by omega)] at h
    cases he : auAt r w l k with
    | none => rw [he] at h; cases h
    | some q' =>
      have := auAt_le r w l k q' (by omega) he
      rw [he] at h
      simp only [auStep, Option.bind_some] at h
      split at h
      · cases h; omega
      · split at h
        · cases h
        · split at h
          · cases h; omega
          · split at h <;> cases h; omega
/-- Is a script fair? -/
def auFair (t : T) (l : List Ac) : Bool := t.is && (auAt (3 * t.ns.length) t.wi l l.length).isSome

/-- Which nodes are hit by one fault more. -/
def hitF (m : Nat) (f : Ft) : Nat := if f.k ≠ 4 ∧ f.k ≠ 7 ∧ 0 ≤ f.n ∧ f.n < 8 then ins m f.n.toNat else m
def hitFs (m : Nat) (l : List Ft) (k : Nat) : Nat := (l.take k).foldl hitF m
def hitA (m : Nat) (a : Ac) : Nat := if a.k = 5 then hitFs m a.f a.f.length else m
def hitAs (l : List Ac) (k : Nat) : Nat := (l.take k).foldl hitA 0
theorem hitF_lt {m : Nat} (h : m < 256) (f : Ft) : hitF m f < 256 := by
  unfold hitF
  split
  · exact ins_lt h (by omega)
  · exact h
theorem hitFs_zero (m : Nat) (l : List Ft) : hitFs m l 0 = m := rfl
theorem hitFs_succ (m : Nat) (l : List Ft) (k : Nat) (hk : k < l.length) : hitFs m l (k + 1) = hitF (hitFs m l k) (l.getD k default) := by
  unfold hitFs
  rw [List.take_add_one, List.foldl_append, List.getD_eq_getElem?_getD, List.getElem?_eq_getElem hk]
  rfl
theorem hitFs_lt {m : Nat} (h : m < 256) (l : List Ft) (k : Nat) : hitFs m l k < 256 := by
  unfold hitFs
  generalize l.take k = l'
  induction l' generalizing m with
  | nil => exact h
  | cons x l ih => exact ih (hitF_lt h x)
theorem hitA_lt {m : Nat} (h : m < 256) (a : Ac) : hitA m a < 256 := by
  unfold hitA
  split
  · exact hitFs_lt h _ _
  · exact h
theorem hitAs_zero (l : List Ac) : hitAs l 0 = 0 := rfl
theorem hitAs_succ (l : List Ac) (k : Nat) (hk : k < l.length) : hitAs l (k + 1) = hitA (hitAs l k) (l.getD k default) := by
  unfold hitAs
  rw [List.take_add_one, List.foldl_append, List.getD_eq_getElem?_getD, List.getElem?_eq_getElem hk]
  rfl
theorem hitAs_lt (l : List Ac) (k : Nat) : hitAs l k < 256 := by
  unfold hitAs
  generalize l.take k = l'
  have : ∀ m, m < 256 → List.foldl hitA m l' < 256 := by
    induction l' with
    | nil => intro m h; exact h
    | cons x l ih => intro m h; exact ih _ (hitA_lt h x)
  exact this 0 (by omega)
/-- Which nodes a script hits. -/
def auHit (l : List Ac) : Nat := hitAs l l.length
end Go.Proofs.Ytkaeikjfegjpjaa
