/- The contracts of the laws' own helpers over rows of pairs: level, row, matronref1.Of. -/
import Derived.Test.YtbjojpcgigoenaaLineH
import Derived.Deep.RegionLaw
import Derived.RegionTactic
namespace Go.Proofs.Ytbjojpcgigoenaa
open Go.RowKit

/-- Pairs of whole numbers, cell by cell. -/
def prs (a b : Nat → Int) (k : Nat) : Value := .int .i64 (if k % 2 = 0 then a (k / 2) else b (k / 2))
theorem prs_even (a b : Nat → Int) (k : Nat) : prs a b (k * 2) = .int .i64 (a k) := by
  unfold prs
  rw [if_pos (by omega), show k * 2 / 2 = k by omega]
theorem prs_odd (a b : Nat → Int) (k : Nat) : prs a b (k * 2 + 1) = .int .i64 (b k) := by
  unfold prs
  rw [if_neg (by omega), show (k * 2 + 1) / 2 = k by omega]

theorem infoPair : (Try.prog.info? 59).map (fun i => (i.zero, i.size, i.bytes)) = some (some (.agg #[.int .i64 0, .int .i64 0]), 2, 16) := by kernel_rfl

/-- 'wpList_push' as one step of a region that draws its order. -/
theorem step_push {P : Program} (w : World) {ops : Array Oper} {o : Oper} {a : Act} {K : Act → World → Prop} {Q : Exit → Act → World → Prop} {E : Prop} (hgd : o.guard = none) (s x : Operand) (t : TypeId)
    (ho : o.op = .call { callee := .builtin .append, args := #[s, x], argTypes := #[t, t] })
    (B : Nat) (e : TypeId) (z : Value) (bytes : Nat) (hinf : (P.info? e).map (fun i => (i.zero, i.size, i.bytes)) = some (some z, 1, bytes)) (hzs : z.cells.size = 1) (ht : P.underlying t = some (.slice e))
    (v : Value) (n : Nat) (V : Nat → Value) (W : World) (hown : Owns w B e v n V) (hbel : Below B W w) (hs : a.eval s = v) (u : Value) (hx : a.eval x = .slice (some ⟨w.heap.size, 0, none⟩) 1 1)
    (hu : u.oneCell' = true) (hB : B ≤ w.heap.size) (h63 : n + 1 ≤ maxLen) (hroom : (n + 1) * bytes ≤ 140737488355328) (hV : u = V n)
    (h : ∀ v' w', Owns w' B e v' (n + 1) V → Below B W w' → K (a.put o.dst v') w') : if Region.wanted o (yielded ops a.tmps) = true then Oper.wp P o a (w.alloc (.cells #[u] e)) K Q else E := by
  have hw : Region.wanted o (yielded ops a.tmps) = true := by simp [Region.wanted, hgd]
  rw [if_pos hw]
  obtain ⟨i0, hi, hz0, hz1, hz2⟩ := info_parts hinf
  refine wp_append_own _ s x t ho B e i0 z 1 bytes ht hi hz0 hz1 hz2 hzs (by omega) v n _ hs (World.ownsRow.alloc hown _) ⟨w.heap.size, 0, none⟩ 1 1 [u] hx rfl (cell_one_new _ _ _) (by simpa using hu) h63 hroom (by simp; omega) ?_
  intro v' w' h1 h2 _
  exact h v' w' (Owns.snoc h1 rfl hV) (below_append hbel hB hown h2)

theorem step_push_drew {P : Program} (w : World) {ops : Array Oper} {o : Oper} {a : Act} {K : Act → World → Prop} {Q : Exit → Act → World → Prop} {E : Prop} (hgd : o.guard = none) (s x : Operand) (t : TypeId)
    (ho : o.op = .call { callee := .builtin .append, args := #[s, x], argTypes := #[t, t] })
    (B : Nat) (e : TypeId) (z : Value) (bytes : Nat) (hinf : (P.info? e).map (fun i => (i.zero, i.size, i.bytes)) = some (some z, 1, bytes)) (hzs : z.cells.size = 1) (ht : P.underlying t = some (.slice e))
    (v : Value) (n : Nat) (V : Nat → Value) (W : World) (hown : Owns w B e v n V) (hbel : Below B W w) (hs : a.eval s = v) (u : Value) (hx : a.eval x = .slice (some ⟨w.heap.size, 0, none⟩) 1 1)
    (hu : u.oneCell' = true) (hB : B ≤ w.heap.size) (h63 : n + 1 ≤ maxLen) (hroom : (n + 1) * bytes ≤ 140737488355328) (hV : u = V n)
    (h : ∀ v' w', Owns w' B e v' (n + 1) V → Below B W w' → K (a.put o.dst v') w') : if Region.wanted o (yielded ops a.tmps) = true then Oper.wp P o a (w.alloc (.cells #[u] e)).drew K Q else E :=
  step_push w.drew hgd s x t ho B e z bytes hinf hzs ht v n V W hown hbel.drew hs u hx hu hB h63 hroom hV h

/-- A number's level, from -3 to 3. -/
def lev (x : Int) : Int := if 6 < bits BinOp.and IntKind.i64 x 7 then -3 else bits BinOp.and IntKind.i64 x 7 - 3
theorem and_seven (x : Int) : 0 ≤ bits BinOp.and IntKind.i64 x 7 ∧ bits BinOp.and IntKind.i64 x 7 ≤ 7 := by
  have h : ((BitVec.ofInt 64 x) &&& (BitVec.ofInt 64 7)).toNat ≤ 7 := by
    rw [BitVec.toNat_and]
    exact Nat.and_le_right
  have e : bits BinOp.and IntKind.i64 x 7 = ((((BitVec.ofInt 64 x) &&& (BitVec.ofInt 64 7)).toNat : Nat) : Int) := by
    show IntKind.i64.wrap ((((BitVec.ofInt 64 x) &&& (BitVec.ofInt 64 7)).toNat : Nat) : Int) = _
    rw [IntKind.wrap_i64]
    omega
  rw [e]
  omega
theorem lev_small (x : Int) : -3 ≤ lev x ∧ lev x ≤ 3 := by
  have := and_seven x
  unfold lev
  split <;> omega

theorem level_law (x : Int) (w : World) : Calls Try.prog 32 #[.int .i64 x] w fun e w' => e = .returned (.int .i64 (lev x)) ∧ w = w' := by
  have h7 := and_seven x
  by_cases h : 6 < bits BinOp.and IntKind.i64 x 7
  · have hl : lev x = -3 := by rw [lev, if_pos h]
    rw [hl]
    go_enter Try.func32, Try.ntmps32
    go_wp2
    go_ret
    exact ⟨rfl, rfl⟩
  · have hl : lev x = bits BinOp.and IntKind.i64 x 7 - 3 := by rw [lev, if_neg h]
    rw [hl]
    clear hl
    go_enter Try.func32, Try.ntmps32
    go_wp2
    go_ret
    exact ⟨rfl, rfl⟩

set_option maxHeartbeats 2000000 in
theorem of_any (A : Option Addr) (n c : Nat) (a b : Nat → Int) (w : World) (h : Sees w w.heap.size A (2 * n) (prs a b)) (hn : n ≤ 100000) :
    Calls Try.prog 18 #[.slice A n c] w fun e w' =>
      ∃ v, e = .returned v ∧ Owns w' w.heap.size 60 v n (fun k => cx (a k) (b k)) ∧ Below w.heap.size w w' := by
  go_enter Try.func18, Try.ntmps18
  go_wp2
  go_loopw [3, 4] (fun v i wr => ∃ k : Nat, k ≤ n ∧ i = .int .i64 k ∧ Owns wr w.heap.size 60 v k (fun k => cx (a k) (b k)) ∧ Below w.heap.size w wr) (fun _ i _ => n - (intOf i).toNat)
  case atStart => exact ⟨0, by omega, rfl, World.ownsRow_nil _ _ _ _, Below.refl _ _⟩
  case round =>
    obtain ⟨k, hk, rfl, hown, hbel⟩ := hrel
    by_cases hlt : k < n
    · obtain ⟨b0, off, rfl, hbb, hcell⟩ := h (by omega)
      have e0 : wr.cell? ⟨b0, off + k * 2, none⟩ = some (.int .i64 (a k)) := by rw [← prs_even a b k]; exact (hbel.cell hbb).trans (hcell (k * 2) (by omega))
      have e1 : wr.cell? ⟨b0, off + k * 2 + 1, none⟩ = some (.int .i64 (b k)) := by rw [← prs_odd a b k]; exact (hbel.cell hbb).trans (hcell (k * 2 + 1) (by omega))
      have q1 : (k : Int) < n := by omega
      have hB := hbel.size
      clear hcell
      go_wp2_with fail
      go_region_law (first | ((refine step_push_drew wr rfl (.tmp 11) (.tmp 25) 26 rfl w.heap.size 60 (.complex .f64 0 0) 16 infoCx rfl Try.underlying26 _ k (fun k => cx (a k) (b k)) w hown hbel rfl _ rfl rfl hB ?c1 ?c2 rfl ?_); (case c1 => unfold maxLen; omega); (case c2 => omega); intro v' w1 ho1 hb1))
      all_goals
        go_wp2
        go_roundw
        case rel => exact ⟨k + 1, by omega, by go_num, ho1, hb1⟩
        case measure => simp [intOf]; omega
    · go_wp2
      go_ret
      exact ⟨_, rfl, by rw [show n = k by omega]; exact hown, hbel⟩
end Go.Proofs.Ytbjojpcgigoenaa
