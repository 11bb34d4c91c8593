/- The contract of the laws' own 'some'. -/
import Derived.Test.YtmddokenjdlgfaaBlk
namespace Go.Proofs.Ytmddokenjdlgfaa
open Go.RowKit
open Tb (D T)

def someD (i : Nat) : D := ⟨decide ((i : Int) < 4), ((i : Int) % 2 == 0), 20 + (i : Int), 1 + (i : Int) % 8⟩
def someL (n : Nat) : List D := (List.range n).map someD
def someT (n : Nat) : T := ⟨someL n, 1, 10, 20⟩
theorem someL_length (n : Nat) : (someL n).length = n := by simp [someL]
theorem someL_succ (n : Nat) : someL (n + 1) = someL n ++ [someD n] := by simp [someL, List.range_succ]

set_option maxRecDepth 100000 in
set_option maxHeartbeats 4000000 in
theorem some_tb (n : Nat) (hn : n ≤ 10) (w : World) :
    Calls Try.prog 23 #[.int .i64 n] w fun e w' => ∃ v, e = .returned (tabV (someT n) v) ∧ OwnsD w' w.heap.size v (someL n) ∧ Below w.heap.size w w' := by
  have hsu := Lib.hid someL_succ
  have hsl := Lib.hid someL_length
  go_enter Try.func23, Try.ntmps23
  have hb0 := ((Below.refl w.heap.size w).alloc (Nat.le_refl _) (.cells #[.slice none 0 0, .int .i64 0, .int .i64 0, .int .i64 0] 24)).alloc (by simp) (.cells #[.slice none 0 0, .int .i64 1, .int .i64 10, .int .i64 20] 24)
  have hR := (Blk.new w _ rfl #[.slice none 0 0, .int .i64 0, .int .i64 0, .int .i64 0] 24).alloc (.cells #[.slice none 0 0, .int .i64 1, .int .i64 10, .int .i64 20] 24)
  have hT := Blk.new (w.alloc (.cells #[.slice none 0 0, .int .i64 0, .int .i64 0, .int .i64 0] 24)) (w.heap.size + 1) (by simp) #[.slice none 0 0, .int .i64 1, .int .i64 10, .int .i64 20] 24
  go_wp2
  generalize (w.alloc (.cells #[.slice none 0 0, .int .i64 0, .int .i64 0, .int .i64 0] 24)).alloc (.cells #[.slice none 0 0, .int .i64 1, .int .i64 10, .int .i64 20] 24) = w0 at *
  have hz0 : w.heap.size + 1 < w0.heap.size := hT.lt
  go_loopw [4] (fun i wr => ∃ k : Nat, ∃ v : Value, k ≤ n ∧ i = .int .i64 k ∧ OwnsD wr w0.heap.size v (someL k) ∧ Blk wr (w.heap.size + 1) #[v, .int .i64 1, .int .i64 10, .int .i64 20] 24 ∧ w0.heap.size ≤ wr.heap.size ∧ Below (w.heap.size + 1) w0 wr) (fun i _ => n - (intOf i).toNat)
  case atStart => exact ⟨0, _, by omega, rfl, OwnsD.nil, hT, Nat.le_refl _, Below.refl _ _⟩
  case round =>
    obtain ⟨k, v, hk, rfl, hown, hblk, hz, hb⟩ := hrel
    by_cases hlt : k < n
    · have q1 : decide ((k : Int) < (n : Nat)) = true := by simp; omega
      have q2 : decide ((k : Int) < 10) = true := by simp; omega
      have w1 : IntKind.i64.wrap (20 + (k : Int)) = 20 + k := IntWalk.i64_in _ (by omega)
      have t0 := hblk.cell 0 rfl
      have tf := hblk.frozen 0
      have hlk : (someL k).length ≤ 100000 := by rw [someL_length]; omega
      have hAt := atD_new wr (someD k) 42 wr.heap.size rfl
      have hgv : v.ownBlock ≠ some (w.heap.size + 1) := fun e => by have := (hown.lt _ e).1; omega
      go_wp2_with (at_builtin; go_loud (refine wpList_pushC _ rfl (.tmp 16) (.tmp 28) 22 rfl w0.heap.size 42 _ 4 24 info_def rfl (by omega) Try.underlying22 v (someL k).length _ (hown.alloc _) rfl _ 1 _ rfl (src_def _ (someD k) _ _ _ rfl hAt) (by simp; omega) (defs_room hlk).1 (defs_room hlk).2 ?_))
      intro v2 w2 ho2 hx2
      have ho3 : OwnsD w2 w0.heap.size v2 (someL (k + 1)) := by
        rw [hsu.out]
        exact OwnsD.snoc ho2
      have hxx := ((Ext.refl wr v).alloc (.cells #[.bool (someD k).sy, .bool (someD k).inf, .int .i64 (someD k).li, .int .i64 (someD k).sz] 42)).trans hx2
      have hb2 := hb.trans (hxx.toBelow (B := w.heap.size + 1) (by omega) (fun j hj => by have := (hown.lt j hj).1; omega))
      have hblk5 := hblk.ext hxx hgv
      have hl1 := hsl.out (k + 1)
      obtain ⟨g2, c2, rfl, hg2⟩ : ∃ g2 c2, v2 = .slice (some ⟨g2, 0, none⟩) (k + 1) c2 ∧ w0.heap.size ≤ g2 := by
        rcases ho3.form with ⟨-, h0⟩ | ⟨g2, c2, h, h1, -⟩
        · omega
        · exact ⟨g2, c2, by rw [h, hl1], h1⟩
      have ho4 := ho3.setOther ⟨w.heap.size + 1, 0, none⟩ (.slice (some ⟨g2, 0, none⟩) (k + 1) c2) (by simp [Value.ownBlock]; omega)
      have hblk6 := hblk5.set 0 (.slice (some ⟨g2, 0, none⟩) (k + 1) c2)
      have u0 := hblk5.cell 0 rfl
      have uf := hblk5.frozen 0
      clear t0 tf ho2 ho3 hx2 hAt hblk5
      go_wp2
      go_roundw
      case rel =>
        refine ⟨k + 1, _, by omega, by go_num, ho4, by simpa using hblk6, by have := hxx.size; show w0.heap.size ≤ (w2.setCell _ _).heap.size; simp only [World.setCell, Array.size_modify]; omega, Below.setCell (p := ⟨w.heap.size + 1, 0, none⟩) hb2 (Nat.le_refl _) _⟩
      case measure => simp [intOf]; omega
    · obtain rfl : k = n := by omega
      have q1 : decide ((k : Int) < (k : Nat)) = false := by simp
      obtain ⟨A', c2, rfl, -⟩ := hown.sees.at_
      have hR2 := hR.below hb (by omega)
      have t0 := hblk.cell 0 rfl
      have t1 := hblk.cell 1 rfl
      have t2 := hblk.cell 2 rfl
      have t3 := hblk.cell 3 rfl
      have r0 := hR2.cell 0 rfl
      have r1 := hR2.cell 1 rfl
      have r2 := hR2.cell 2 rfl
      have r3 := hR2.cell 3 rfl
      have f0 := hR2.frozen 0
      have f1 := hR2.frozen 1
      have f2 := hR2.frozen 2
      have f3 := hR2.frozen 3
      have hvR : (Value.slice A' (someL k).length c2).ownBlock ≠ some w.heap.size := fun e => by have := (hown.lt _ e).1; omega
      have hbr := hb0.trans (hb.mono (by omega))
      clear hR hT
      go_wp2_with fail
      refine bodyPost_ret (v := .agg #[.slice A' (someL k).length c2, .int .i64 1, .int .i64 10, .int .i64 20]) ?_ rfl ⟨_, rfl, ?_, ?_⟩
      · rw [results_cell rfl]
        go_simp
      · refine OwnsD.base (Bs := w0.heap.size) ?_ (by omega)
        (repeat' (first | exact hown | exact hvR | (with_reducible refine OwnsD.setOther ?_ _ _ ?_)))
      · (repeat' (first | exact hbr | (with_reducible refine Below.setCell ?_ ?_ _) | exact Nat.le_refl _))
end Go.Proofs.Ytmddokenjdlgfaa
