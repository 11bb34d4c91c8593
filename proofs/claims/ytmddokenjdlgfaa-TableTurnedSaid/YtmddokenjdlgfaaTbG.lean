/- The contracts of both sides' small functions of bytes: flags, pairs. -/
import Derived.Test.YtmddokenjdlgfaaExt
import Derived.Test.YtmddokenjdlgfaaTbF
import Derived.Laws.ResultCell
namespace Go.Proofs.Ytmddokenjdlgfaa
open Go.RowKit
open Tb (D T)

theorem flags_tb (d : D) (w : World) : Calls Try.prog 28 #[dV d] w fun e w' => e = .returned (.int .u8 (Tb.flag d)) ∧ Below w.heap.size w w' := by
  obtain ⟨sy, inf, li, sz⟩ := d
  unfold dV
  cases sy <;> cases inf
  all_goals
    go_enter Try.func28, Try.ntmps28
    go_wp2
    go_ret
    exact ⟨rfl, (Below.refl _ _).alloc (Nat.le_refl _) _⟩

theorem two_ok (n : Int) (h : 0 ≤ n ∧ n ≤ 65535) : IntKind.u8.wrap (n / 256) = n / 256 ∧ IntKind.u8.wrap n = n % 256 := by
  rw [IntKind.wrap_u8, IntKind.wrap_u8]
  omega
/-- Two bytes go behind a list. -/
theorem appendPair_tb (v : Value) (l : List Int) (n : Int) (w : World) (B : Nat) (ho : OwnsL w B v l) (hB : B ≤ w.heap.size) (hn : 0 ≤ n ∧ n ≤ 65535) (hl : l.length ≤ 100000) :
    Calls Try.prog 27 #[v, .int .i64 n] w fun e w' => ∃ v', e = .returned v' ∧ OwnsL w' B v' (l ++ Tb.two n) ∧ Ext w w' v v' := by
  obtain ⟨h1, h2⟩ := two_ok n hn
  have ho2 := Lib.hid ho
  clear ho
  go_enter Try.func27, Try.ntmps27
  go_wp2_with (at_builtin; refine wpList_pushL _ rfl (.tmp 5) (.tmp 11) 25 rfl B infoU8 Try.underlying25 v l (ho2.out.alloc _) rfl _ _ (Tb.two n) rfl (sees_lit w _ _ _ (by simp [Tb.two]) _ (Nat.lt_succ_self _) (by simp [Tb.two, maxLen]) _ _ _ rfl rfl rfl) (by simp; omega) (by simp [Tb.two]; omega) ?_)
  intro v' w1 ho1 hx
  go_wp2
  go_ret
  exact ⟨_, rfl, ho1, ((Ext.refl _ _).alloc _).trans hx⟩
theorem two_rf (n : Int) (hn : 0 ≤ n ∧ n ≤ 65535) (w : World) : Calls Try.prog 29 #[.int .i64 n] w fun e w' => e = .returned (.slice (some ⟨w.heap.size, 0, none⟩) 2 2) ∧ w' = w.alloc (.cells #[.int .u8 (n / 256), .int .u8 (n % 256)] 5) := by
  obtain ⟨h1, h2⟩ := two_ok n hn
  go_enter Try.func29, Try.ntmps29
  go_wp2
  go_ret
  exact ⟨rfl, rfl⟩
theorem or_pair (x y : Int) (hx : 0 ≤ x ∧ x < 256) (hy : 0 ≤ y ∧ y < 256) : bits BinOp.or IntKind.i64 (x * 256) y = x * 256 + y := by
  obtain ⟨X, rfl⟩ := Int.eq_ofNat_of_zero_le hx.1
  obtain ⟨Y, rfl⟩ := Int.eq_ofNat_of_zero_le hy.1
  have h1 : X < 256 := by omega
  have h2 : Y < 256 := by omega
  show IntKind.i64.wrap ((BitVec.ofInt 64 ((X : Int) * 256) ||| BitVec.ofInt 64 (Y : Int)).toNat : Int) = _
  have e : (X : Int) * 256 = ((X * 256 : Nat) : Int) := by omega
  rw [e, BitVec.toNat_or, BitVec.toNat_ofInt, BitVec.toNat_ofInt, IntKind.wrap_i64]
  have e1 : ((((X * 256 : Nat) : Int) % ((2 ^ 64 : Nat) : Int))).toNat = X <<< 8 := by rw [Nat.shiftLeft_eq]; omega
  have e2 : (((Y : Int) % ((2 ^ 64 : Nat) : Int))).toNat = Y := by omega
  rw [e1, e2, ← Nat.shiftLeft_add_eq_or_of_lt (b := Y) (i := 8) (by omega) X, Nat.shiftLeft_eq]
  omega
theorem pair_tb (b off c : Nat) (n : Nat) (x y : Int) (w : World) (hn : 2 ≤ n) (hn2 : n ≤ maxLen) (h0 : w.cell? ⟨b, off, none⟩ = some (.int .u8 x)) (h1 : w.cell? ⟨b, off + 1, none⟩ = some (.int .u8 y)) (hx : 0 ≤ x ∧ x < 256) (hy : 0 ≤ y ∧ y < 256) :
    Calls Try.prog 37 #[.slice (some ⟨b, off, none⟩) n c] w fun e w' => e = .returned (.int .i64 (x * 256 + y)) ∧ ∃ m, w.drewN m = w' := by
  unfold maxLen at hn2
  have ho := or_pair x y hx hy
  go_enter Try.func37, Try.ntmps37
  go_wp2
  go_quiet (fail)
  go_wp2
  go_ret
  exact ⟨rfl, _, rfl⟩
/-- A node of the call's own goes behind a list. -/
theorem info_def : (Try.prog.info? 42).map (fun i => (i.zero, i.size, i.bytes)) = some (some (.agg #[.bool false, .bool false, .int .i64 0, .int .i64 0]), 4, 24) := by kernel_rfl
theorem OwnsD.snoc {w : World} {B : Nat} {v : Value} {l : List D} {d : D} (h : w.ownsRow B 42 4 v (l.length + 1) (l.flatMap dc ++ dc d)) : OwnsD w B v (l ++ [d]) := by
  unfold OwnsD
  rw [List.length_append, List.flatMap_append]
  simpa using h
theorem defs_room {n : Nat} (h : n ≤ 100000) : n + 1 ≤ maxLen ∧ (n + 1) * 24 ≤ 140737488355328 := ⟨by unfold maxLen; omega, by omega⟩
theorem src_def (w : World) (d : D) (g n c : Nat) (hn : n = 1) (hd : AtD w g 0 d) : Src w (.slice (some ⟨g, 0, none⟩) n c) 4 1 (dc d) := by
  subst hn
  refine .inr ⟨_, c, rfl, rfl, fun j x hj => ?_, fun x hx => ?_⟩
  · match j, hj with
    | 0, hj => simp [dc] at hj; subst hj; exact hd.c0
    | 1, hj => simp [dc] at hj; subst hj; exact hd.c1
    | 2, hj => simp [dc] at hj; subst hj; exact hd.c2
    | 3, hj => simp [dc] at hj; subst hj; exact hd.c3
    | j + 4, hj => simp [dc] at hj
  · simp only [dc, List.mem_cons, List.not_mem_nil, or_false] at hx
    rcases hx with rfl | rfl | rfl | rfl <;> rfl
theorem atD_new (w : World) (d : D) (t : TypeId) (g : Nat) (hg : g = w.heap.size) : AtD (w.alloc (.cells #[.bool d.sy, .bool d.inf, .int .i64 d.li, .int .i64 d.sz] t)) g 0 d :=
  ⟨by rw [World.cell?_alloc_at _ _ _ _ hg]; rfl, by rw [World.cell?_alloc_at _ _ _ _ hg]; rfl, by rw [World.cell?_alloc_at _ _ _ _ hg]; rfl, by rw [World.cell?_alloc_at _ _ _ _ hg]; rfl⟩
end Go.Proofs.Ytmddokenjdlgfaa
