/- The contract of the laws' own 'row': levels as pairs, no more than two hundred. -/
import Derived.Test.YtbjojpcgigoenaaLineJ
import Derived.Deep.RegionLaw
import Derived.Deep.RegionHeld3
import Derived.RegionTactic
namespace Go.Proofs.Ytbjojpcgigoenaa
open Go.RowKit

/-- What the call made of elements of two cells. -/
def Owns2 (w : World) (base : Nat) (e : TypeId) (v : Value) (n : Nat) (V : Nat → Value) : Prop := w.ownsRow base e 2 v n ((List.range (n * 2)).map V)
theorem Owns2.form {w : World} {e : TypeId} {base n : Nat} {v : Value} {V : Nat → Value} (h : Owns2 w base e v n V) : ∃ A c, v = .slice A n c ∧ n ≤ c ∧ c ≤ maxLen ∧ Sees w w.heap.size A (2 * n) V := by
  obtain ⟨hl, hh⟩ := h
  rcases hh with ⟨rfl, rfl⟩ | ⟨g, cap, cur, rfl, hb, hg, hn, hc, hs, ht⟩
  · exact ⟨_, _, rfl, Nat.le_refl _, Nat.zero_le _, Sees.none_⟩
  · refine ⟨_, _, rfl, hn, hc, fun _ => ⟨g, 0, rfl, (Array.getElem?_eq_some_iff.1 hg).1, fun k hk => ?_⟩⟩
    rw [Nat.zero_add, cell_of_row w g k cur e (0, 0) hg]
    have := congrArg (fun l => l[k]?) ht
    simp only [List.getElem?_take, List.getElem?_map, List.getElem?_range (show k < n * 2 by omega)] at this
    rw [if_pos (by omega)] at this
    simpa using this
theorem Owns2.alike {w : World} {e : TypeId} {base n : Nat} {v : Value} {V V' : Nat → Value} (h : Owns2 w base e v n V) (hV : ∀ k, k < n * 2 → V k = V' k) : Owns2 w base e v n V' := by
  unfold Owns2 at h ⊢
  have : (List.range (n * 2)).map V' = (List.range (n * 2)).map V := List.map_congr_left fun k hk => (hV k (List.mem_range.1 hk)).symm
  rw [this]; exact h
theorem below_append2 {B : Nat} {W wx w1 : World} {e : TypeId} {v : Value} {k : Nat} {xs : List Value} {o : Obj} (hb : Below B W wx) (hW : B ≤ wx.heap.size) (hown : wx.ownsRow B e 2 v k xs) (hg : (wx.alloc o).grownBy w1 v.ownBlock) : Below B W w1 :=
  (hb.alloc hW o).grown hg (by simp; omega) (fun g h => (hown.lt g h).1)
theorem two_new (w : World) (u0 u1 : Value) (e : TypeId) : ∀ j u, [u0, u1][j]? = some u → (w.alloc (.cells #[u0, u1] e)).cell? ((⟨w.heap.size, 0, none⟩ : Addr).add j) = some u := by
  intro j u hj
  have : j = 0 ∨ j = 1 := by
    rcases j with _ | _ | j
    · exact .inl rfl
    · exact .inr rfl
    · simp at hj
  rcases this with rfl | rfl
  · simp at hj; subst hj
    simp [Addr.add, World.cell?_alloc_at _ _ _ _ rfl]
  · simp at hj; subst hj
    simp [Addr.add, World.cell?_alloc_at _ _ _ _ rfl]

theorem wp_push2 {P : Program} (w : World) {o : Oper} {a : Act} {K : Act → World → Prop} {Q : Exit → Act → World → Prop} (s x : Operand) (t : TypeId)
    (ho : o.op = .call { callee := .builtin .append, args := #[s, x], argTypes := #[t, t] })
    (B : Nat) (e : TypeId) (z : Value) (bytes : Nat) (hinf : (P.info? e).map (fun i => (i.zero, i.size, i.bytes)) = some (some z, 2, bytes)) (hzs : z.cells.size = 2) (ht : P.underlying t = some (.slice e))
    (v : Value) (n : Nat) (V : Nat → Value) (W : World) (hown : Owns2 w B e v n V) (hbel : Below B W w) (hs : a.eval s = v) (u0 u1 : Value) (hx : a.eval x = .slice (some ⟨w.heap.size, 0, none⟩) 1 1)
    (hu : u0.oneCell' = true ∧ u1.oneCell' = true) (hB : B ≤ w.heap.size) (h63 : n + 1 ≤ maxLen) (hroom : (n + 1) * bytes ≤ 140737488355328) (hV : u0 = V (n * 2) ∧ u1 = V (n * 2 + 1))
    (h : ∀ v' w', Owns2 w' B e v' (n + 1) V → Below B W w' → K (a.put o.dst v') w') : Oper.wp P o a (w.alloc (.cells #[u0, u1] e)) K Q := by
  obtain ⟨i0, hi, hz0, hz1, hz2⟩ := info_parts hinf
  refine wp_append_own _ s x t ho B e i0 z 2 bytes ht hi hz0 hz1 hz2 hzs (by omega) v n _ hs (World.ownsRow.alloc hown _) ⟨w.heap.size, 0, none⟩ 1 1 [u0, u1] hx rfl (two_new _ _ _ _) (by simpa using hu) h63 hroom (by simp; omega) ?_
  intro v' w' h1 h2 _
  refine h v' w' ?_ (below_append2 hbel hB hown h2)
  unfold Owns2
  have : (List.range ((n + 1) * 2)).map V = (List.range (n * 2)).map V ++ [u0, u1] := by
    rw [show (n + 1) * 2 = n * 2 + 1 + 1 by omega, List.range_succ, List.range_succ, hV.1, hV.2]
    simp
  rw [this]
  exact h1
theorem step_push2_drew {P : Program} (w : World) {ops : Array Oper} {o : Oper} {a : Act} {K : Act → World → Prop} {Q : Exit → Act → World → Prop} {E : Prop} (hgd : o.guard = none) (s x : Operand) (t : TypeId)
    (ho : o.op = .call { callee := .builtin .append, args := #[s, x], argTypes := #[t, t] })
    (B : Nat) (e : TypeId) (z : Value) (bytes : Nat) (hinf : (P.info? e).map (fun i => (i.zero, i.size, i.bytes)) = some (some z, 2, bytes)) (hzs : z.cells.size = 2) (ht : P.underlying t = some (.slice e))
    (v : Value) (n : Nat) (V : Nat → Value) (W : World) (hown : Owns2 w B e v n V) (hbel : Below B W w) (hs : a.eval s = v) (u0 u1 : Value) (hx : a.eval x = .slice (some ⟨w.heap.size, 0, none⟩) 1 1)
    (hu : u0.oneCell' = true ∧ u1.oneCell' = true) (hB : B ≤ w.heap.size) (h63 : n + 1 ≤ maxLen) (hroom : (n + 1) * bytes ≤ 140737488355328) (hV : u0 = V (n * 2) ∧ u1 = V (n * 2 + 1))
    (h : ∀ v' w', Owns2 w' B e v' (n + 1) V → Below B W w' → K (a.put o.dst v') w') : if Region.wanted o (yielded ops a.tmps) = true then Oper.wp P o a (w.alloc (.cells #[u0, u1] e)).drew K Q else E := by
  have hw : Region.wanted o (yielded ops a.tmps) = true := by simp [Region.wanted, hgd]
  rw [if_pos hw]
  exact wp_push2 w.drew s x t ho B e z bytes hinf hzs ht v n V W hown hbel.drew hs u0 u1 hx hu hB h63 hroom hV h
theorem wpList_push2 {P : Program} (w : World) {ops : Array Oper} {rest : List Oper} {o : Oper} {a : Act} {Q : Exit → Act → World → Prop} (hgd : o.guard = none) (s x : Operand) (t : TypeId)
    (ho : o.op = .call { callee := .builtin .append, args := #[s, x], argTypes := #[t, t] })
    (B : Nat) (e : TypeId) (z : Value) (bytes : Nat) (hinf : (P.info? e).map (fun i => (i.zero, i.size, i.bytes)) = some (some z, 2, bytes)) (hzs : z.cells.size = 2) (ht : P.underlying t = some (.slice e))
    (v : Value) (n : Nat) (V : Nat → Value) (W : World) (hown : Owns2 w B e v n V) (hbel : Below B W w) (hs : a.eval s = v) (u0 u1 : Value) (hx : a.eval x = .slice (some ⟨w.heap.size, 0, none⟩) 1 1)
    (hu : u0.oneCell' = true ∧ u1.oneCell' = true) (hB : B ≤ w.heap.size) (h63 : n + 1 ≤ maxLen) (hroom : (n + 1) * bytes ≤ 140737488355328) (hV : u0 = V (n * 2) ∧ u1 = V (n * 2 + 1))
    (h : ∀ v' w', Owns2 w' B e v' (n + 1) V → Below B W w' → wpList P ops Q rest (a.put o.dst v') w') : wpList P ops Q (o :: rest) a (w.alloc (.cells #[u0, u1] e)) :=
  wpList_plain hgd fun _ hK => wp_push2 w s x t ho B e z bytes hinf hzs ht v n V W hown hbel hs u0 u1 hx hu hB h63 hroom hV fun v' w' h1 h2 => hK _ _ (h v' w' h1 h2)

set_option maxRecDepth 100000 in
set_option maxHeartbeats 2000000 in
theorem row_any (A : Option Addr) (n c : Nat) (a b : Nat → Int) (w : World) (h : Sees w w.heap.size A (2 * n) (prs a b)) (hc : n ≤ maxLen) :
    Calls Try.prog 15 #[.slice A n c] w fun e w' =>
      ∃ v, e = .returned v ∧ Owns2 w' w.heap.size 59 v (min n 200) (prs (fun k => lev (a k)) (fun k => lev (b k))) ∧ Below w.heap.size w w' := by
  unfold maxLen at hc
  obtain ⟨M, hM⟩ : ∃ M, M = min n 200 := ⟨_, rfl⟩
  rw [← hM]
  have hM1 : M ≤ n := by omega
  have hM2 : M ≤ 200 := by omega
  have HM := Lib.hid hM
  clear hM
  go_enter Try.func15, Try.ntmps15
  go_wp2
  go_loopw [3, 4] (fun v i wr => ∃ k : Nat, k ≤ M ∧ i = .int .i64 k ∧ Owns2 wr w.heap.size 59 v k (prs (fun k => lev (a k)) (fun k => lev (b k))) ∧ Below w.heap.size w wr) (fun _ i _ => n - (intOf i).toNat)
  case atStart => exact ⟨0, by omega, rfl, World.ownsRow_nil _ _ _ _, Below.refl _ _⟩
  case round =>
    obtain ⟨k, hk, rfl, hown, hbel⟩ := hrel
    by_cases hlt : k < M
    · obtain ⟨b0, off, rfl, hbb, hcell⟩ := h (by omega)
      have f0 : w.cell? ⟨b0, off + k * 2, none⟩ = some (.int .i64 (a k)) := by rw [← prs_even a b k]; exact hcell (k * 2) (by omega)
      have f1 : w.cell? ⟨b0, off + k * 2 + 1, none⟩ = some (.int .i64 (b k)) := by rw [← prs_odd a b k]; exact hcell (k * 2 + 1) (by omega)
      have e0 := (hbel.cell hbb).trans f0
      have e1 := (hbel.cell hbb).trans f1
      have q1 : (k : Int) < n := by omega
      have q2 : decide (k < n) = true := by simp; omega
      have hB := hbel.size
      have hbw : b0 < wr.heap.size := by omega
      have hV := Lib.hid (show (Value.int .i64 (lev (a k)) = prs (fun k => lev (a k)) (fun k => lev (b k)) (k * 2)) ∧ (Value.int .i64 (lev (b k)) = prs (fun k => lev (a k)) (fun k => lev (b k)) (k * 2 + 1)) from ⟨(prs_even (fun k => lev (a k)) (fun k => lev (b k)) k).symm, (prs_odd (fun k => lev (a k)) (fun k => lev (b k)) k).symm⟩)
      clear hcell
      go_wp2_with fail
      go_region_held3 (fun w' => w'.cell? ⟨b0, off + k * 2, none⟩ = some (.int .i64 (a k)) ∧ w'.cell? ⟨b0, off + k * 2 + 1, none⟩ = some (.int .i64 (b k))) ((first | exact ⟨e0, e1⟩ | exact ⟨(World.cell?_alloc_past _ _ _ hbw).trans e0, (World.cell?_alloc_past _ _ _ hbw).trans e1⟩ | exact ⟨(hb1.cell hbb).trans f0, (hb1.cell hbb).trans f1⟩)) (first | (go_at_call 32; refine (level_law _ _).mono ?_; rintro e w' ⟨rfl, rfl⟩) | (refine step_push2_drew wr rfl (.tmp 15) (.tmp 29) 23 rfl w.heap.size 59 _ 16 infoPair rfl Try.underlying23 _ k _ w hown hbel rfl _ _ rfl ⟨rfl, rfl⟩ hB ?c1 ?c2 hV.out ?_; (case c1 => unfold maxLen; omega); (case c2 => omega); intro v' w1 ho1 hb1))
      go_wp2
      go_roundw
      case rel => exact ⟨k + 1, by omega, by go_num, ho1, hb1⟩
      case measure => simp [intOf]; omega
    · have hkM : k = M := by omega
      subst hkM
      have hm := HM.out
      by_cases hn : k < n
      · obtain rfl : k = 200 := by omega
        have q2 : decide (200 < n) = true := by simp; omega
        clear hm
        go_wp2
        go_ret
        exact ⟨_, rfl, hown, hbel⟩
      · have q2 : decide (k < n) = false := by simp; omega
        clear hm
        go_wp2
        go_ret
        exact ⟨_, rfl, hown, hbel⟩
end Go.Proofs.Ytbjojpcgigoenaa
