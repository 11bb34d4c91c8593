/- Texts ClC, ClD, ClE, TlMath, TlA in one. For what each says in front of its theorems. -/
import Derived.Laws.IdiomCopy
import Derived.BigRegion
import Derived.Test.YtpdenmcacaajkaaGreatXB1
import Derived.Test.YtpdenmcacaajkaaGreatXB5
import Derived.Test.YtpdenmcacaajkaaGreatXB6
/-! ### ClC -/
namespace Go.Proofs.YtpdenmcacaajkaaGreat
open Go.RowKit
open Clk (sumL minL maxL avg)

theorem sum_take (l : List Int) (k : Nat) (h : k < l.length) : sumL (l.take (k + 1)) = sumL (l.take k) + l.getD k 0 := by
  rw [List.take_succ_eq_append_getElem h, Clk.sumL_append, List.getD_eq_getElem?_getD, List.getElem?_eq_getElem h]
  simp [sumL]
theorem sum_bd {l : List Int} (h : small l) (k : Nat) (hk : k ≤ 4) : -4398046511104 ≤ sumL (l.take k) ∧ sumL (l.take k) ≤ 4398046511104 := by
  have : ∀ m : List Int, small m → m.length ≤ 4 → -4398046511104 ≤ sumL m ∧ sumL m ≤ 4398046511104 := by
    intro m hm h4
    match m, hm, h4 with
    | [], _, _ => simp [sumL]
    | [a], hm, _ => simp [small] at hm; simp [sumL]; omega
    | [a, b], hm, _ => simp [small] at hm; simp [sumL]; omega
    | [a, b, c], hm, _ => simp [small] at hm; simp [sumL]; omega
    | [a, b, c, d], hm, _ => simp [small] at hm; simp [sumL]; omega
  exact this _ (fun x hx => h x (List.mem_of_mem_take hx)) (by simp; omega)

set_option maxRecDepth 100000 in
set_option maxHeartbeats 4000000 in
theorem mean_cl (l : List Int) (v : Value) (w : World) (B : Nat) (hv : SeesI w B v l) (hs : small l) (h12 : l.length = 1 ∨ l.length = 2) :
    Calls Tryz.prog 186 #[v] w fun e w' => e = .returned (.int .i64 (sumL l / (l.length : Int))) ∧ w' = w := by
  obtain ⟨A, c, rfl, h1, h2, h3, h4⟩ := hv.at_
  obtain ⟨b, off, rfl, hb, hc⟩ := h3 (by omega)
  have HS := Lib.hid (sum_take l)
  have HB := Lib.hid (fun k => hs.getD k)
  have HC : Hid (∀ k, k < l.length → w.cell? ⟨b, off + k, none⟩ = some (.int .i64 (l.getD k 0))) := Lib.hid hc
  have HT := Lib.hid (sum_bd hs)
  have HF : Hid (∀ k, k = l.length → sumL (l.take k) = sumL l) := Lib.hid (fun k hk => by rw [hk, List.take_length])
  clear hv h3 h4 hc hs
  have go : ∀ N : Nat, l.length = N → (N = 1 ∨ N = 2) → Calls Tryz.prog 186 #[.slice (some ⟨b, off, none⟩) N c] w fun e w' => e = .returned (.int .i64 (sumL l / (N : Int))) ∧ w' = w := by
    intro N hN hN2
    have HN := Lib.hid hN
    clear hN
    rcases hN2 with rfl | rfl
    · go_enter Tryz.func186, Tryz.ntmps186
      go_wp2
      go_loop [3, 4, 9] (fun u r i => ∃ (k : Nat) (a : Int), k ≤ 1 ∧ i = .int .i64 k ∧ u = .int .i64 a ∧ r = .int .i64 0 ∧ a = sumL (l.take k)) (fun _ _ i => 1 - (intOf i).toNat)
      case atStart => exact ⟨0, 0, by omega, rfl, rfl, rfl, by simp [sumL]⟩
      case round =>
        obtain ⟨k, a, hk, rfl, rfl, rfl, he⟩ := hrel
        have HE := Lib.hid he
        clear he
        have bd : -4398046511104 ≤ a ∧ a ≤ 4398046511104 := by have := HE.out; have := HT.out k (by omega); omega
        obtain ⟨bd1, bd2⟩ := bd
        by_cases hlt : k < 1
        · obtain rfl : k = 0 := by omega
          have c1 := HC.out 0 (by have := HN.out; omega)
          have hst : Hid (sumL (l.take 1) = sumL (l.take 0) + l.getD 0 0) := Lib.hid (HS.out 0 (by have := HN.out; omega))
          obtain ⟨x1, x2⟩ := HB.out 0
          generalize l.getD 0 0 = x at *
          simp only [Nat.add_zero] at c1
          go_wp2
          go_round
          case rel => exact ⟨1, a + x, by omega, by go_num, by simp, by simp, by have := hst.out; have := HE.out; omega⟩
          case measure => simp [intOf]
        · obtain rfl : k = 1 := by omega
          go_wp2
          go_ret
          exact ⟨ret_int (by have := HE.out; have := HF.out 1 (by have := HN.out; omega); omega), rfl⟩
    · go_enter Tryz.func186, Tryz.ntmps186
      go_wp2
      go_loop [3, 4, 9] (fun u r i => ∃ (k : Nat) (a q : Int), k ≤ 2 ∧ i = .int .i64 k ∧ u = .int .i64 a ∧ r = .int .i64 q ∧ 2 * a + q = sumL (l.take k) ∧ -(k : Int) ≤ q ∧ q ≤ k) (fun _ _ i => 2 - (intOf i).toNat)
      case atStart => exact ⟨0, 0, 0, by omega, rfl, rfl, rfl, by simp [sumL], by omega, by omega⟩
      case round =>
        obtain ⟨k, a, q, hk, rfl, rfl, rfl, he, hq1, hq2⟩ := hrel
        have HE := Lib.hid he
        clear he
        have bd : -4398046511104 ≤ a ∧ a ≤ 4398046511104 ∧ -2 ≤ q ∧ q ≤ 2 := by have := HE.out; have := HT.out k (by omega); omega
        obtain ⟨bd1, bd2, bd3, bd4⟩ := bd
        by_cases hlt : k < 2
        · have q1 : decide ((k : Int) < 2) = true := by simp; omega
          have c1 := HC.out k (by have := HN.out; omega)
          have hst := Lib.hid (HS.out k (by have := HN.out; omega))
          obtain ⟨x1, x2⟩ := HB.out k
          generalize l.getD k 0 = x at *
          have H2 := Lib.hid (Clk.td2 x)
          have d1 : -1099511627776 ≤ x.tdiv 2 ∧ x.tdiv 2 ≤ 1099511627776 ∧ -1 ≤ x.tmod 2 ∧ x.tmod 2 ≤ 1 := by have := H2.out; omega
          obtain ⟨d1, d2, d3, d4⟩ := d1
          go_wp2
          go_round
          case rel => exact ⟨k + 1, a + x.tdiv 2, q + x.tmod 2, by omega, by go_num, rfl, rfl, by have := hst.out; have := HE.out; have := H2.out; omega, by omega, by omega⟩
          case measure => simp [intOf]; omega
        · obtain rfl : k = 2 := by omega
          have H2 := Lib.hid (Clk.td2 q)
          have d1 : -2 ≤ q.tdiv 2 ∧ q.tdiv 2 ≤ 2 ∧ -1 ≤ q.tmod 2 ∧ q.tmod 2 ≤ 1 := by have := H2.out; omega
          obtain ⟨d1, d2, d3, d4⟩ := d1
          have hf := Lib.hid (HF.out 2 (by have := HN.out; omega))
          by_cases hneg : q.tmod 2 < 0
          · have q1 : decide (q.tmod 2 < 0) = true := decide_eq_true hneg
            go_wp2
            go_ret
            exact ⟨ret_int (by have := hf.out; have := HE.out; have := H2.out; omega), rfl⟩
          · have q1 : decide (q.tmod 2 < 0) = false := decide_eq_false hneg
            go_wp2
            go_ret
            exact ⟨ret_int (by have := hf.out; have := HE.out; have := H2.out; omega), rfl⟩
  exact go _ rfl h12

end Go.Proofs.YtpdenmcacaajkaaGreat

/-! ### ClD -/
namespace Go.Proofs.YtpdenmcacaajkaaGreat
open Go.RowKit
open Clk (sumL minL maxL avg)

theorem SeesI.sub {w : World} {B b off n c : Nat} {l : List Int} (h : SeesI w B (.slice (some ⟨b, off, none⟩) n c) l) (hn : n = l.length) (i j : Nat) (hij : i ≤ j) (hj : j ≤ n) (h0 : 0 < n) {o m c' : Nat} (ho : o = off + i) (hm : m = j - i) (hc : c' = c - i) :
    SeesI w B (.slice (some ⟨b, o, none⟩) m c') ((l.drop i).take (j - i)) := by
  subst ho hm hc hn
  obtain ⟨A, c', e, h1, h2, h3, -⟩ := h.at_
  simp only [Value.slice.injEq] at e
  obtain ⟨rfl, -, rfl⟩ := e
  obtain ⟨b', off', e, hb, hcell⟩ := h3 h0
  simp only [Option.some.injEq, Addr.mk.injEq] at e
  obtain ⟨rfl, rfl, -⟩ := e
  have hl : ((l.drop i).take (j - i)).length = j - i := by simp; omega
  refine ⟨_, _, by rw [hl], by rw [hl]; omega, by omega, fun _ => ⟨b, off + i, rfl, hb, fun k hk => ?_⟩, fun h => by cases h⟩
  rw [hl] at hk
  have := hcell (i + k) (by omega)
  rw [Nat.add_assoc, this]
  simp [iv, List.getD_eq_getElem?_getD, hk]

theorem OwnsI.form0 {w : World} {B : Nat} {v : Value} {l : List Int} (h : OwnsI w B v l) (h0 : 0 < l.length) : ∃ g c, v = .slice (some ⟨g, 0, none⟩) l.length c ∧ l.length ≤ c ∧ c ≤ maxLen ∧ B ≤ g ∧ g < w.heap.size := by
  rcases h.2 with ⟨-, hn⟩ | ⟨g, cap, cur, rfl, hb, hg, hn, hc, -⟩
  · omega
  · exact ⟨g, cap, rfl, hn, hc, hb, (Array.getElem?_eq_some_iff.1 hg).1⟩
theorem small.perm {l m : List Int} (h : small l) (hp : m.Perm l) : small m := fun x hx => h x (hp.mem_iff.1 hx)
theorem small.sub {l : List Int} (h : small l) (i j : Nat) : small ((l.drop i).take j) := fun x hx => h x (List.mem_of_mem_drop (List.mem_of_mem_take hx))

set_option maxRecDepth 100000 in
set_option maxHeartbeats 1000000 in
theorem avg_cl (l : List Int) (v : Value) (w : World) (B : Nat) (hB : B ≤ w.heap.size) (hv : SeesI w B v l) (hs : small l) (h4 : l.length ≤ 4) :
    Calls Tryz.prog 168 #[v] w fun e w' => e = .returned (.int .i64 (avg l)) ∧ Below w.heap.size w w' := by
  have hv0 := Lib.hid hv
  obtain ⟨A, c, rfl, h1, h2, h3, -⟩ := hv.at_
  by_cases h0 : l.length = 0
  · have e : avg l = 0 := by unfold avg; rw [if_pos h0]
    rw [h0, e]
    clear hv hv0 h3
    go_enter Tryz.func168, Tryz.ntmps168
    go_wp2
    go_ret
    exact ⟨rfl, Below.refl _ _⟩
  by_cases h3' : l.length < 3
  · have e : avg l = sumL l / (l.length : Int) := Clk.avg_small (by omega) h3'
    rw [e]
    have H := Lib.hid (mean_cl l _ w B hv hs (by omega))
    have q0 : ((l.length : Int) == 0) = false := by rw [beq_eq_false_iff_ne]; omega
    have q1 : decide ((2 : Int) < (l.length : Int)) = false := decide_eq_false (by omega)
    clear hv hv0 h3 e
    go_enter Tryz.func168, Tryz.ntmps168
    go_wp2_with fail
    refine H.out.mono ?_
    rintro e w' ⟨rfl, rfl⟩
    go_wp2
    go_ret
    exact ⟨rfl, Below.refl _ _⟩
  · have H := Lib.hid (clone_sl l _ w B hv (by omega) (by omega))
    have q0 : ((l.length : Int) == 0) = false := by rw [beq_eq_false_iff_ne]; omega
    have q1 : decide ((2 : Int) < (l.length : Int)) = true := decide_eq_true (by omega)
    clear hv hv0 h3
    go_enter Tryz.func168, Tryz.ntmps168
    go_wp2_with fail
    refine H.out.mono ?_
    rintro e w1 ⟨v1, rfl, ho, hb⟩
    obtain ⟨g, c1, rfl, k1, k2, k3, k4⟩ := ho.form0 (by omega)
    have H2 := Lib.hid (sort_sl l g l.length c1 w1 w.heap.size ho rfl (by omega) (by omega))
    clear ho
    have q2 : ¬ c1 = 1 := by omega
    go_wp2_with fail
    refine H2.out.mono ?_
    rintro e w2 ⟨rfl, m, hp, hso, ho2, hb2⟩
    have hle := hp.length_eq
    have hsub := ho2.sees.sub (by omega) 1 (l.length - 1) (by omega) (by omega) (by omega) (o := 1) (by omega) (m := l.length - 1 - 1) rfl rfl
    have hlen : ((m.drop 1).take (l.length - 1 - 1)).length = l.length - 2 := by simp; omega
    have H3 := Lib.hid (mean_cl ((m.drop 1).take (l.length - 1 - 1)) _ w2 w2.heap.size hsub ((hs.perm hp).sub _ _) (by omega))
    have e3 := Clk.avg_mid hso (by omega) (by omega)
    rw [hle, show l.length - 2 = l.length - 1 - 1 by omega, Clk.avg_perm hp] at e3
    have HE := Lib.hid e3
    clear e3 hlen hsub ho2 hso hle
    go_wp2_with fail
    refine H3.out.mono ?_
    rintro e w3 ⟨rfl, rfl⟩
    go_wp2
    go_ret
    exact ⟨ret_int (by rw [HE.out]; simp), hb.trans hb2⟩

end Go.Proofs.YtpdenmcacaajkaaGreat

/-! ### ClE -/
namespace Go.Proofs.YtpdenmcacaajkaaGreat
open Go.RowKit
open Clk (avg)

/-- A clock's cells. -/
def clk (m : Int) (l : List Int) : Array Value := #[.int .i64 m, .int .i64 (l.getD 0 0), .int .i64 (l.getD 1 0), .int .i64 (l.getD 2 0), .int .i64 (l.getD 3 0), .int .i64 (l.length : Nat)]
/-- A clock in memory. -/
def ClkAt (W : World) (g : Nat) (m : Int) (l : List Int) : Prop := Blk W g (clk m l) 63 ∧ l.length ≤ 4
theorem ClkAt.cells {W : World} {g : Nat} {m : Int} {l : List Int} (h : ClkAt W g m l) : W.cell? ⟨g, 0, none⟩ = some (.int .i64 m) ∧ W.cell? ⟨g, 1, none⟩ = some (.int .i64 (l.getD 0 0)) ∧ W.cell? ⟨g, 2, none⟩ = some (.int .i64 (l.getD 1 0)) ∧ W.cell? ⟨g, 3, none⟩ = some (.int .i64 (l.getD 2 0)) ∧ W.cell? ⟨g, 4, none⟩ = some (.int .i64 (l.getD 3 0)) ∧ W.cell? ⟨g, 5, none⟩ = some (.int .i64 (l.length : Nat)) :=
  ⟨h.1.cell 0 rfl, h.1.cell 1 rfl, h.1.cell 2 rfl, h.1.cell 3 rfl, h.1.cell 4 rfl, h.1.cell 5 rfl⟩
theorem ClkAt.frz {W : World} {g : Nat} {m : Int} {l : List Int} (h : ClkAt W g m l) : W.frozen? ⟨g, 0, none⟩ = false ∧ W.frozen? ⟨g, 1, none⟩ = false ∧ W.frozen? ⟨g, 2, none⟩ = false ∧ W.frozen? ⟨g, 3, none⟩ = false ∧ W.frozen? ⟨g, 4, none⟩ = false ∧ W.frozen? ⟨g, 5, none⟩ = false :=
  ⟨h.1.frozen 0, h.1.frozen 1, h.1.frozen 2, h.1.frozen 3, h.1.frozen 4, h.1.frozen 5⟩
theorem ClkAt.below {W W' : World} {g : Nat} {m : Int} {l : List Int} (h : ClkAt W g m l) {B : Nat} (hb : Below B W W') (hg : g < B) : ClkAt W' g m l := ⟨h.1.below hb hg, h.2⟩
theorem clk_full (m n : Int) (l : List Int) (h4 : l.length = 4) : ((((((clk m l).setIfInBounds 1 (.int .i64 (l.getD 1 0))).setIfInBounds 2 (.int .i64 (l.getD 2 0))).setIfInBounds 3 (.int .i64 (l.getD 3 0))).setIfInBounds 5 (.int .i64 3)).setIfInBounds 4 (.int .i64 n)).setIfInBounds 5 (.int .i64 4) = clk m (l.drop 1 ++ [n]) := by
  match l, h4 with
  | [p, q, r, s], _ => simp [clk]
/-- What is kept of more than four. -/
def keep4 (l : List Int) (n : Int) : List Int := if l.length = 4 then l.drop 1 ++ [n] else l ++ [n]

set_option maxRecDepth 100000 in
set_option maxHeartbeats 1000000 in
theorem new_cl (m : Int) (w : World) :
    Calls Tryz.prog 19 #[.int .i64 m] w fun e w' => e = .returned (.pointer (some ⟨w.heap.size, 0, none⟩)) ∧ ClkAt w' w.heap.size m [] ∧ Below w.heap.size w w' ∧ w'.heap.size = w.heap.size + 1 := by
  go_enter Tryz.func19, Tryz.ntmps19
  go_wp2
  go_ret
  exact ⟨rfl, ⟨Blk.new _ _ rfl _ _, by simp⟩, (Below.refl _ _).alloc (Nat.le_refl _) _, by simp⟩

theorem clk_more (m n : Int) (l : List Int) (k : Nat) (hk : l.length = k) (h4 : k < 4) : ((clk m l).setIfInBounds (1 + k) (.int .i64 n)).setIfInBounds 5 (.int .i64 ((k : Int) + 1)) = clk m (l ++ [n]) := by
  match l, hk, h4 with
  | [], rfl, _ => simp [clk]
  | [p], rfl, _ => simp [clk]
  | [p, q], rfl, _ => simp [clk]
  | [p, q, r], rfl, _ => simp [clk]
theorem ClkAt.sees {W : World} {g : Nat} {m : Int} {l : List Int} (h : ClkAt W g m l) : SeesI W W.heap.size (.slice (some ⟨g, 1, none⟩) l.length 4) l := by
  refine ⟨some ⟨g, 1, none⟩, 4, rfl, h.2, by simp [maxLen], fun _ => ⟨g, 1, rfl, h.1.lt, fun k hk => ?_⟩, fun h => by cases h⟩
  obtain ⟨-, c1, c2, c3, c4, -⟩ := h.cells
  have := h.2
  rcases (by omega : k = 0 ∨ k = 1 ∨ k = 2 ∨ k = 3) with rfl | rfl | rfl | rfl
  · exact c1
  · exact c2
  · exact c3
  · exact c4
/-- By how much it is turned. -/
def termV (m : Int) (l : List Int) : Int := if wiB m (avg l) then avg l else 0
end Go.Proofs.YtpdenmcacaajkaaGreat

/-! ### TlMath -/
namespace Go.Proofs.YtpdenmcacaajkaaGreat
open Go.RowKit

/-- A bit more. -/
def ins (m k : Nat) : Nat := m ||| 2 ^ k
/-- A bit less. -/
def del (m k : Nat) : Nat := if m.testBit k then m - 2 ^ k else m
theorem ins_lt {m k : Nat} (hm : m < 256) (hk : k < 8) : ins m k < 256 := by
  have : ∀ (a : Fin 256) (b : Fin 8), ins a.val b.val < 256 := by decide +kernel
  exact this ⟨m, hm⟩ ⟨k, hk⟩
theorem del_lt {m k : Nat} (hm : m < 256) : del m k < 256 := by
  unfold del; split
  · exact Nat.lt_of_le_of_lt (Nat.sub_le _ _) hm
  · exact hm
theorem or_ins {m k : Nat} (hm : m < 256) (hk : k < 8) : bits BinOp.or IntKind.i64 (m : Nat) ((2 ^ k : Nat) : Int) = (ins m k : Nat) := by
  have : ∀ (a : Fin 256) (b : Fin 8), bits BinOp.or IntKind.i64 (a.val : Nat) ((2 ^ b.val : Nat) : Int) = (ins a.val b.val : Nat) := by decide +kernel
  exact this ⟨m, hm⟩ ⟨k, hk⟩
theorem andNot_del {m k : Nat} (hm : m < 256) (hk : k < 8) : bits BinOp.andNot IntKind.i64 (m : Nat) ((2 ^ k : Nat) : Int) = (del m k : Nat) := by
  have : ∀ (a : Fin 256) (b : Fin 8), bits BinOp.andNot IntKind.i64 (a.val : Nat) ((2 ^ b.val : Nat) : Int) = (del a.val b.val : Nat) := by decide +kernel
  exact this ⟨m, hm⟩ ⟨k, hk⟩
theorem and_low (a : Int) : bits BinOp.and IntKind.i64 a 255 = ((a % 256).toNat : Nat) := by
  have h8 : (BitVec.ofInt 64 255).toNat = 2 ^ 8 - 1 := by decide
  show IntKind.i64.wrap (((BitVec.ofInt 64 a) &&& (BitVec.ofInt 64 255)).toNat : Int) = _
  rw [BitVec.toNat_and, h8, Nat.and_two_pow_sub_one_eq_mod, BitVec.toNat_ofInt, IntKind.wrap_i64]
  omega
theorem and_one64 (a : Int) : bits BinOp.and IntKind.i64 a 1 = a % 2 := by
  have h8 : (BitVec.ofInt 64 1).toNat = 2 ^ 1 - 1 := by decide
  show IntKind.i64.wrap (((BitVec.ofInt 64 a) &&& (BitVec.ofInt 64 1)).toNat : Int) = _
  rw [BitVec.toNat_and, h8, Nat.and_two_pow_sub_one_eq_mod, BitVec.toNat_ofInt, IntKind.wrap_i64]
  omega
theorem cast_pow (k : Nat) : ((2 ^ k : Nat) : Int) = (2 : Int) ^ k := by simp
theorem wrap_pow {k : Nat} (hk : k < 8) : wrap64 ((2 : Int) ^ k) = (2 : Int) ^ k := by
  have : ∀ (b : Fin 8), wrap64 ((2 : Int) ^ b.val) = (2 : Int) ^ b.val := by decide +kernel
  exact this ⟨k, hk⟩
/-- As a walk spells them. -/
theorem or_w {m k : Nat} (hm : m < 256) (hk : k < 8) : bits BinOp.or IntKind.i64 (m : Nat) (wrap64 ((2 : Int) ^ k)) = (ins m k : Nat) := by
  rw [wrap_pow hk, ← cast_pow]; exact or_ins hm hk
theorem andNot_w {m k : Nat} (hm : m < 256) (hk : k < 8) : bits BinOp.andNot IntKind.i64 (m : Nat) (wrap64 ((2 : Int) ^ k)) = (del m k : Nat) := by
  rw [wrap_pow hk, ← cast_pow]; exact andNot_del hm hk
theorem is_w (m k : Nat) : (bits BinOp.and IntKind.i64 ((m : Int) / (2 : Int) ^ k) 1 == 1) = m.testBit k := by
  rw [and_one64, ← cast_pow, ← Int.natCast_ediv, Nat.testBit_eq_decide_div_mod_eq]
  by_cases h : m / 2 ^ k % 2 = 1
  · rw [decide_eq_true h, beq_iff_eq]; omega
  · rw [decide_eq_false h, beq_eq_false_iff_ne]; omega
theorem low_lt (a : Int) : (a % 256).toNat < 256 := by omega

/-- Members, and both counts. -/
structure TS where
  m : Nat
  a : Nat
  f : Nat
deriving DecidableEq
def TS.join (s : TS) (n : Int) : TS := if 0 ≤ n ∧ n < 8 then { s with m := ins s.m n.toNat } else s
def TS.miss (s : TS) (n : Int) : TS := if 0 ≤ n ∧ n < 8 then { s with m := del s.m n.toNat } else s
def TS.right (s : TS) (n : Int) : TS := if 0 ≤ n ∧ n < 8 then ⟨ins s.m n.toNat, s.a + 1, s.f⟩ else s
def TS.wrong (s : TS) (n : Int) : TS := if 0 ≤ n ∧ n < 8 then ⟨del s.m n.toNat, s.a, s.f + 1⟩ else s
def TS.clear (s : TS) : TS := { s with a := 0, f := 0 }
def isB (m : Nat) (n : Int) : Bool := decide (0 ≤ n ∧ n < 8) && m.testBit n.toNat
end Go.Proofs.YtpdenmcacaajkaaGreat

/-! ### TlA -/
namespace Go.Proofs.YtpdenmcacaajkaaGreat
open Go.RowKit

/-- A tally in memory, of the code's type or the document's. -/
def TAt (t : TypeId) (W : World) (g : Nat) (s : TS) : Prop := Blk W g #[.int .i64 (s.m : Nat), .int .i64 (s.a : Nat), .int .i64 (s.f : Nat)] t ∧ s.m < 256
section
variable {t : TypeId} {W W' : World} {g : Nat} {s : TS}
theorem TAt.below (h : TAt t W g s) {B : Nat} (hb : Below B W W') (hg : g < B) : TAt t W' g s := ⟨h.1.below hb hg, h.2⟩
theorem TAt.only {g' : Nat} (h : TAt t W g s) (hb : Only g' W W') (hg : g ≠ g') : TAt t W' g s := ⟨h.1.only hb hg, h.2⟩
theorem TAt.lt (h : TAt t W g s) : g < W.heap.size := h.1.lt
theorem TAt.drewN (h : TAt t W g s) (n : Nat) : TAt t (W.drewN n) g s := ⟨h.1.drewN n, h.2⟩
theorem TAt.drew (h : TAt t W g s) : TAt t W.drew g s := h
theorem TAt.c0 (h : TAt t W g s) : W.cell? ⟨g, 0, none⟩ = some (.int .i64 (s.m : Nat)) := h.1.cell 0 rfl
theorem TAt.c1 (h : TAt t W g s) : W.cell? ⟨g, 1, none⟩ = some (.int .i64 (s.a : Nat)) := h.1.cell 1 rfl
theorem TAt.c2 (h : TAt t W g s) : W.cell? ⟨g, 2, none⟩ = some (.int .i64 (s.f : Nat)) := h.1.cell 2 rfl
theorem TAt.m_ (h : TAt t W g s) (n : Nat) (hn : n < 256) : TAt t (W.setCell ⟨g, 0, none⟩ (.int .i64 (n : Nat))) g { s with m := n } := ⟨(h.1.set 0 _).eq (by simp), hn⟩
theorem TAt.a_ (h : TAt t W g s) (n : Nat) : TAt t (W.setCell ⟨g, 1, none⟩ (.int .i64 (n : Nat))) g { s with a := n } := ⟨(h.1.set 1 _).eq (by simp), h.2⟩
theorem TAt.f_ (h : TAt t W g s) (n : Nat) : TAt t (W.setCell ⟨g, 2, none⟩ (.int .i64 (n : Nat))) g { s with f := n } := ⟨(h.1.set 2 _).eq (by simp), h.2⟩
end

set_option maxRecDepth 100000 in
set_option maxHeartbeats 1000000 in
theorem new_tl (n : Int) (w : World) :
    Calls Tryz.prog 57 #[.int .i64 n] w fun e w' => e = .returned (.pointer (some ⟨w.heap.size, 0, none⟩)) ∧ TAt 70 w' w.heap.size ⟨(n % 256).toNat, 0, 0⟩ ∧ Below w.heap.size w w' ∧ w'.heap.size = w.heap.size + 1 := by
  have HA := and_low n
  have hl := low_lt n
  generalize (n % 256).toNat = m at *
  go_enter Tryz.func57, Tryz.ntmps57
  go_wp2
  go_ret
  exact ⟨rfl, ⟨Blk.new _ _ rfl _ _, hl⟩, (Below.refl _ _).alloc (Nat.le_refl _) _, by simp⟩

/-! ### Of none. -/
end Go.Proofs.YtpdenmcacaajkaaGreat
