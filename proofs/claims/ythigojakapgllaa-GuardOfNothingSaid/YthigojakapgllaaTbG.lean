/- The contracts of both sides' small functions of bytes: flags, pairs. -/
import Derived.Test.YthigojakapgllaaExt
import Derived.Test.YthigojakapgllaaTbF
import Derived.Laws.ResultCell
namespace Go.Proofs.Ythigojakapgllaa
open Go.RowKit
open Tb (D T)

theorem two_ok (n : Int) (h : 0 ≤ n ∧ n ≤ 65535) : IntKind.u8.wrap (n / 256) = n / 256 ∧ IntKind.u8.wrap n = n % 256 := by
  rw [IntKind.wrap_u8, IntKind.wrap_u8]
  omega
theorem or_pair (x y : Int) (hx : 0 ≤ x ∧ x < 256) (hy : 0 ≤ y ∧ y < 256) : bits BinOp.or IntKind.i64 (x * 256) y = x * 256 + y := by
  obtain ⟨X, rfl⟩ := Int.eq_ofNat_of_zero_le hx.1
  obtain ⟨Y, rfl⟩ := Int.eq_ofNat_of_zero_le hy.1
  have h1 : X < 256 := by omega
  have h2 : Y < 256 := by omega
  show IntKind.i64.wrap ((BitVec.ofInt 64 ((X : Int) * 256) ||| BitVec.ofInt 64 (Y : Int)).toNat : Int) = _
  have e : (X : Int) * 256 = ((X * 256 : Nat) : Int) := by omega
  rw [e, BitVec.toNat_or, BitVec.toNat_ofInt, BitVec.toNat_ofInt, IntKind.wrap_i64]
  have e1 : ((((X * 256 : Nat) : Int) % ((2 ^ 64 : Nat) : Int))).toNat = X <<< 8 := by rw [Nat.shiftLeft_eq]; omega
  have e2 : (((Y : Int) % ((2 ^ 64 : Nat) : Int))).toNat = Y := by omega
  rw [e1, e2, ← Nat.shiftLeft_add_eq_or_of_lt (b := Y) (i := 8) (by omega) X, Nat.shiftLeft_eq]
  omega
/-- A node of the call's own goes behind a list. -/
theorem info_def : (Try.prog.info? 62).map (fun i => (i.zero, i.size, i.bytes)) = some (some (.agg #[.bool false, .bool false, .int .i64 0, .int .i64 0]), 4, 24) := by kernel_rfl
theorem OwnsD.snoc {w : World} {B : Nat} {v : Value} {l : List D} {d : D} (h : w.ownsRow B 62 4 v (l.length + 1) (l.flatMap dc ++ dc d)) : OwnsD w B v (l ++ [d]) := by
  unfold OwnsD
  rw [List.length_append, List.flatMap_append]
  simpa using h
theorem defs_room {n : Nat} (h : n ≤ 100000) : n + 1 ≤ maxLen ∧ (n + 1) * 24 ≤ 140737488355328 := ⟨by unfold maxLen; omega, by omega⟩
theorem src_def (w : World) (d : D) (g n c : Nat) (hn : n = 1) (hd : AtD w g 0 d) : Src w (.slice (some ⟨g, 0, none⟩) n c) 4 1 (dc d) := by
  subst hn
  refine .inr ⟨_, c, rfl, rfl, fun j x hj => ?_, fun x hx => ?_⟩
  · match j, hj with
    | 0, hj => simp [dc] at hj; subst hj; exact hd.c0
    | 1, hj => simp [dc] at hj; subst hj; exact hd.c1
    | 2, hj => simp [dc] at hj; subst hj; exact hd.c2
    | 3, hj => simp [dc] at hj; subst hj; exact hd.c3
    | j + 4, hj => simp [dc] at hj
  · simp only [dc, List.mem_cons, List.not_mem_nil, or_false] at hx
    rcases hx with rfl | rfl | rfl | rfl <;> rfl
theorem atD_new (w : World) (d : D) (t : TypeId) (g : Nat) (hg : g = w.heap.size) : AtD (w.alloc (.cells #[.bool d.sy, .bool d.inf, .int .i64 d.li, .int .i64 d.sz] t)) g 0 d :=
  ⟨by rw [World.cell?_alloc_at _ _ _ _ hg]; rfl, by rw [World.cell?_alloc_at _ _ _ _ hg]; rfl, by rw [World.cell?_alloc_at _ _ _ _ hg]; rfl, by rw [World.cell?_alloc_at _ _ _ _ hg]; rfl⟩
end Go.Proofs.Ythigojakapgllaa
