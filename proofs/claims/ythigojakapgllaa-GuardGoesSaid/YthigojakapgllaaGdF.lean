/- The contract of the laws' own 'some' (matronlaw6). -/
import Derived.Test.YthigojakapgllaaBlkA
import Derived.Test.YthigojakapgllaaTbE
import Derived.Test.YthigojakapgllaaTbG
namespace Go.Proofs.Ythigojakapgllaa
open Go.RowKit
open Tb (D T)

def someD (i : Nat) : D := ⟨decide ((i : Int) < 4) || ((i : Int) % 2 == 0), ((i : Int) % 3 == 0), 20 + 3 * ((i : Int) * 5 % 8), 4⟩
def someL (n : Nat) : List D := (List.range n).map someD
def someT (n : Nat) (dr : Int) : T := ⟨someL n, dr, 4 * dr + 6, 4 * dr + 9⟩
theorem someL_length (n : Nat) : (someL n).length = n := by simp [someL]
theorem someL_succ (n : Nat) : someL (n + 1) = someL n ++ [someD n] := by simp [someL, List.range_succ]
theorem someL_get (n k : Nat) (hk : k < n) : (someL n).getD k default = someD k := by simp [someL, List.getD_eq_getElem?_getD, hk]
theorem some_is (n : Nat) (dr : Int) (h4 : 4 ≤ n) (h8 : n ≤ 8) (hd : 0 ≤ dr ∧ dr ≤ 200) : (someT n dr).is = true := by
  have ha : Tb.are (someL n) = true := by
    rcases (by omega : n = 4 ∨ n = 5 ∨ n = 6 ∨ n = 7 ∨ n = 8) with rfl | rfl | rfl | rfl | rfl <;> decide +kernel
  simp only [T.is, Tb.rest, someT, ha, Bool.true_and, Bool.and_eq_true, Tb.wi_iff]
  omega
theorem some_few (n : Nat) (dr : Int) (h4 : n < 4) : (someT n dr).is = false := by
  have ha : Tb.are (someL n) = false := by
    rcases (by omega : n = 0 ∨ n = 1 ∨ n = 2 ∨ n = 3) with rfl | rfl | rfl | rfl <;> decide +kernel
  simp only [T.is, someT, ha, Bool.false_and]
set_option maxRecDepth 100000 in
set_option maxHeartbeats 4000000 in
theorem some_gd (n : Nat) (dr : Int) (hn : n ≤ 8) (hd : 0 ≤ dr ∧ dr ≤ 1000) (w : World) :
    Calls Try.prog 12 #[.int .i64 (n : Nat), .int .i64 dr] w fun e w' => ∃ v, e = .returned (tabV (someT n dr) v) ∧ OwnsD w' w.heap.size v (someL n) ∧ Below w.heap.size w w' := by
  have hsu := Lib.hid someL_succ
  have hsl := Lib.hid someL_length
  have z1 : IntKind.i64.wrap (4 * dr) = 4 * dr := IntWalk.i64_in _ (by omega)
  have z2 : IntKind.i64.wrap (4 * dr + 6) = 4 * dr + 6 := IntWalk.i64_in _ (by omega)
  have z3 : IntKind.i64.wrap (4 * dr + 9) = 4 * dr + 9 := IntWalk.i64_in _ (by omega)
  unfold someT tabV
  simp only
  go_enter Try.func12, Try.ntmps12
  have hb0 := ((Below.refl w.heap.size w).alloc (Nat.le_refl _) (.cells #[.slice none 0 0, .int .i64 0, .int .i64 0, .int .i64 0] 30)).alloc (by simp) (.cells #[.slice none 0 0, .int .i64 dr, .int .i64 (4 * dr + 6), .int .i64 (4 * dr + 9)] 30)
  have hR := (Blk.new w _ rfl #[.slice none 0 0, .int .i64 0, .int .i64 0, .int .i64 0] 30).alloc (.cells #[.slice none 0 0, .int .i64 dr, .int .i64 (4 * dr + 6), .int .i64 (4 * dr + 9)] 30)
  have hT := Blk.new (w.alloc (.cells #[.slice none 0 0, .int .i64 0, .int .i64 0, .int .i64 0] 30)) (w.heap.size + 1) (by simp) #[.slice none 0 0, .int .i64 dr, .int .i64 (4 * dr + 6), .int .i64 (4 * dr + 9)] 30
  go_wp2
  generalize (w.alloc (.cells #[.slice none 0 0, .int .i64 0, .int .i64 0, .int .i64 0] 30)).alloc (.cells #[.slice none 0 0, .int .i64 dr, .int .i64 (4 * dr + 6), .int .i64 (4 * dr + 9)] 30) = w0 at *
  have hz0 : w.heap.size + 1 < w0.heap.size := hT.lt
  go_loopw [6] (fun i wr => ∃ k : Nat, ∃ v : Value, k ≤ n ∧ i = .int .i64 k ∧ OwnsD wr w0.heap.size v (someL k) ∧ Blk wr (w.heap.size + 1) #[v, .int .i64 dr, .int .i64 (4 * dr + 6), .int .i64 (4 * dr + 9)] 30 ∧ w0.heap.size ≤ wr.heap.size ∧ Below (w.heap.size + 1) w0 wr) (fun i _ => n - (intOf i).toNat)
  case atStart => exact ⟨0, _, by omega, rfl, OwnsD.nil, hT, Nat.le_refl _, Below.refl _ _⟩
  case round =>
    obtain ⟨k, v, hk, rfl, hown, hblk, hz, hb⟩ := hrel
    by_cases hlt : k < n
    · have q1 : decide ((k : Int) < (n : Nat)) = true := by simp; omega
      have q2 : decide ((k : Int) < 8) = true := by simp; omega
      have t0 := hblk.cell 0 rfl
      have tf := hblk.frozen 0
      have hlk : (someL k).length ≤ 100000 := by rw [someL_length]; omega
      have hgv : v.ownBlock ≠ some (w.heap.size + 1) := fun e => by have := (hown.lt _ e).1; omega
      have key : ∀ b : Bool, someD k = ⟨b, ((k : Int) % 3 == 0), 20 + 3 * ((k : Int) * 5 % 8), 4⟩ → ∀ (v2 : Value) (w2 : World), w2.ownsRow w0.heap.size 62 4 v2 ((someL k).length + 1) ((someL k).flatMap dc ++ dc ⟨b, ((k : Int) % 3 == 0), 20 + 3 * ((k : Int) * 5 % 8), 4⟩) →
          Ext (wr.alloc (.cells #[.bool b, .bool ((k : Int) % 3 == 0), .int .i64 (20 + 3 * ((k : Int) * 5 % 8)), .int .i64 4] 62)) w2 v v2 → ∃ g2 c2, v2 = .slice (some ⟨g2, 0, none⟩) (k + 1) c2 ∧ Blk w2 (w.heap.size + 1) #[v, .int .i64 dr, .int .i64 (4 * dr + 6), .int .i64 (4 * dr + 9)] 30 ∧
          OwnsD (w2.setCell ⟨w.heap.size + 1, 0, none⟩ (.slice (some ⟨g2, 0, none⟩) (k + 1) c2)) w0.heap.size v2 (someL (k + 1)) ∧ Blk (w2.setCell ⟨w.heap.size + 1, 0, none⟩ (.slice (some ⟨g2, 0, none⟩) (k + 1) c2)) (w.heap.size + 1) #[.slice (some ⟨g2, 0, none⟩) (k + 1) c2, .int .i64 dr, .int .i64 (4 * dr + 6), .int .i64 (4 * dr + 9)] 30 ∧
          w0.heap.size ≤ (w2.setCell ⟨w.heap.size + 1, 0, none⟩ (.slice (some ⟨g2, 0, none⟩) (k + 1) c2)).heap.size ∧ Below (w.heap.size + 1) w0 (w2.setCell ⟨w.heap.size + 1, 0, none⟩ (.slice (some ⟨g2, 0, none⟩) (k + 1) c2)) := fun b hsd v2 w2 ho2 hx2 => by
        rw [← hsd] at ho2
        have ho3 : OwnsD w2 w0.heap.size v2 (someL (k + 1)) := by
          rw [hsu.out]
          exact OwnsD.snoc ho2
        have hxx := ((Ext.refl wr v).alloc (.cells #[.bool b, .bool ((k : Int) % 3 == 0), .int .i64 (20 + 3 * ((k : Int) * 5 % 8)), .int .i64 4] 62)).trans hx2
        have hb2 := hb.trans (hxx.toBelow (B := w.heap.size + 1) (by omega) (fun j hj => by have := (hown.lt j hj).1; omega))
        have hblk5 := hblk.ext hxx hgv
        have hl1 := hsl.out (k + 1)
        obtain ⟨g2, c2, rfl, hg2⟩ : ∃ g2 c2, v2 = .slice (some ⟨g2, 0, none⟩) (k + 1) c2 ∧ w0.heap.size ≤ g2 := by
          rcases ho3.form with ⟨-, h0⟩ | ⟨g2, c2, h, h1, -⟩
          · omega
          · exact ⟨g2, c2, by rw [h, hl1], h1⟩
        refine ⟨g2, c2, rfl, hblk5, ho3.setOther ⟨w.heap.size + 1, 0, none⟩ _ (by simp [Value.ownBlock]; omega), by simpa using hblk5.set 0 (.slice (some ⟨g2, 0, none⟩) (k + 1) c2), by have := hxx.size; simp only [World.setCell, Array.size_modify]; omega, Below.setCell (p := ⟨w.heap.size + 1, 0, none⟩) hb2 (Nat.le_refl _) _⟩
      have key := fun b h => Lib.hid (key b h)
      have hSD : Hid (∀ b, ((b = true ∧ (k : Int) < 4) ∨ (b = ((k : Int) % 2 == 0) ∧ ¬ (k : Int) < 4)) → someD k = ⟨b, ((k : Int) % 3 == 0), 20 + 3 * ((k : Int) * 5 % 8), 4⟩) := Lib.hid fun b hb => by
        unfold someD
        rcases hb with ⟨rfl, h⟩ | ⟨rfl, h⟩ <;> simp [h]
      by_cases q4 : (k : Int) < 4
      · have K := key true (hSD.out true (.inl ⟨rfl, q4⟩))
        have hAt := atD_new wr ⟨true, ((k : Int) % 3 == 0), 20 + 3 * ((k : Int) * 5 % 8), 4⟩ 62 wr.heap.size rfl
        go_wp2_with (at_builtin; go_loud (refine wpList_pushC _ rfl (.tmp 25) (.tmp 42) 28 rfl w0.heap.size 62 _ 4 24 info_def rfl (by omega) Try.underlying28 v (someL k).length _ (hown.alloc _) rfl _ 1 _ rfl (src_def _ ⟨true, ((k : Int) % 3 == 0), 20 + 3 * ((k : Int) * 5 % 8), 4⟩ _ _ _ rfl hAt) (by simp; omega) (defs_room hlk).1 (defs_room hlk).2 ?_))
        intro v2 w2 ho2 hx2
        obtain ⟨g2, c2, rfl, B1, O1, B2, Z1, W1⟩ := K.out v2 w2 ho2 hx2
        have u0 := B1.cell 0 rfl
        have uf := B1.frozen 0
        clear t0 tf ho2 hx2 hAt B1 K key
        go_wp2
        go_roundw
        case rel => exact ⟨k + 1, _, by omega, by go_num, O1, B2, Z1, W1⟩
        case measure => simp [intOf]; omega
      · have K := key _ (hSD.out _ (.inr ⟨rfl, q4⟩))
        have hAt := atD_new wr ⟨((k : Int) % 2 == 0), ((k : Int) % 3 == 0), 20 + 3 * ((k : Int) * 5 % 8), 4⟩ 62 wr.heap.size rfl
        go_wp2_with (at_builtin; go_loud (refine wpList_pushC _ rfl (.tmp 25) (.tmp 42) 28 rfl w0.heap.size 62 _ 4 24 info_def rfl (by omega) Try.underlying28 v (someL k).length _ (hown.alloc _) rfl _ 1 _ rfl (src_def _ ⟨((k : Int) % 2 == 0), ((k : Int) % 3 == 0), 20 + 3 * ((k : Int) * 5 % 8), 4⟩ _ _ _ rfl hAt) (by simp; omega) (defs_room hlk).1 (defs_room hlk).2 ?_))
        intro v2 w2 ho2 hx2
        obtain ⟨g2, c2, rfl, B1, O1, B2, Z1, W1⟩ := K.out v2 w2 ho2 hx2
        have u0 := B1.cell 0 rfl
        have uf := B1.frozen 0
        clear t0 tf ho2 hx2 hAt B1 K key
        go_wp2
        go_roundw
        case rel => exact ⟨k + 1, _, by omega, by go_num, O1, B2, Z1, W1⟩
        case measure => simp [intOf]; omega
    · obtain rfl : k = n := by omega
      have q1 : decide ((k : Int) < (k : Nat)) = false := by simp
      obtain ⟨A', c2, rfl, -⟩ := hown.sees.at_
      have hR2 := hR.below hb (by omega)
      have t0 := hblk.cell 0 rfl
      have t1 := hblk.cell 1 rfl
      have t2 := hblk.cell 2 rfl
      have t3 := hblk.cell 3 rfl
      have r0 := hR2.cell 0 rfl
      have r1 := hR2.cell 1 rfl
      have r2 := hR2.cell 2 rfl
      have r3 := hR2.cell 3 rfl
      have f0 := hR2.frozen 0
      have f1 := hR2.frozen 1
      have f2 := hR2.frozen 2
      have f3 := hR2.frozen 3
      have hvR : (Value.slice A' (someL k).length c2).ownBlock ≠ some w.heap.size := fun e => by have := (hown.lt _ e).1; omega
      have hbr := hb0.trans (hb.mono (by omega))
      clear hR hT
      go_wp2_with fail
      refine bodyPost_ret (v := .agg #[.slice A' (someL k).length c2, .int .i64 dr, .int .i64 (4 * dr + 6), .int .i64 (4 * dr + 9)]) ?_ rfl ⟨_, rfl, ?_, ?_⟩
      · rw [results_cell rfl]
        go_simp
      · refine OwnsD.base (Bs := w0.heap.size) ?_ (by omega)
        (repeat' (first | exact hown | exact hvR | (with_reducible refine OwnsD.setOther ?_ _ _ ?_)))
      · (repeat' (first | exact hbr | (with_reducible refine Below.setCell ?_ ?_ _) | exact Nat.le_refl _))
end Go.Proofs.Ythigojakapgllaa
