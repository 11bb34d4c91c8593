/- The contracts of the document's tally (matronref7). For members and counts that may be. -/
import Derived.Test.YtpdjpbchfbicfaaTlA
import Derived.RegionTactic
import Derived.Deep.RegionWith
import Derived.Laws.Bits64
namespace Go.Proofs.Ytpdjpbchfbicfaa
open Go.RowKit

/-- A node's bit. -/
def nbit (n : Int) : Int := if 0 ≤ n ∧ n < 8 then 2 ^ n.toNat else 0
theorem nbit_ne (n : Int) : (nbit n != 0) = decide (0 ≤ n ∧ n < 8) := by
  unfold nbit
  by_cases h : 0 ≤ n ∧ n < 8
  · rw [if_pos h, decide_eq_true h, bne_iff_ne, ← cast_pow]
    have := Nat.two_pow_pos n.toNat
    omega
  · rw [if_neg h, decide_eq_false h]; rfl
theorem or_nbit {m : Nat} (hm : m < 256) (n : Int) : bits BinOp.or IntKind.i64 (m : Nat) (nbit n) = ((if 0 ≤ n ∧ n < 8 then ins m n.toNat else m : Nat) : Int) := by
  unfold nbit
  by_cases h : 0 ≤ n ∧ n < 8
  · rw [if_pos h, if_pos h, ← cast_pow]; exact or_ins hm (by omega)
  · rw [if_neg h, if_neg h]; exact or_nought hm
theorem andNot_nbit {m : Nat} (hm : m < 256) (n : Int) : bits BinOp.andNot IntKind.i64 (m : Nat) (nbit n) = ((if 0 ≤ n ∧ n < 8 then del m n.toNat else m : Nat) : Int) := by
  unfold nbit
  by_cases h : 0 ≤ n ∧ n < 8
  · rw [if_pos h, if_pos h, ← cast_pow]; exact andNot_del hm (by omega)
  · rw [if_neg h, if_neg h]; exact andNot_nought hm
theorem is_nbit {m : Nat} (hm : m < 256) (n : Int) : (bits BinOp.and IntKind.i64 (m : Nat) (nbit n) != 0) = isB m n := by
  unfold nbit isB
  by_cases h : 0 ≤ n ∧ n < 8
  · rw [if_pos h, decide_eq_true h, ← cast_pow, and_bit hm (by omega), Bool.true_and]
    have := Nat.two_pow_pos n.toNat
    cases m.testBit n.toNat
    · rfl
    · rw [if_pos rfl, bne_iff_ne]; omega
  · rw [if_neg h, decide_eq_false h, and_nought hm]; rfl

set_option maxRecDepth 100000 in
set_option maxHeartbeats 1000000 in
theorem new_rf (n : Int) (w : World) :
    Calls Try.prog 12 #[.int .i64 n] w fun e w' => e = .returned (.pointer (some ⟨w.heap.size, 0, none⟩)) ∧ TAt 34 w' w.heap.size ⟨(n % 256).toNat, 0, 0⟩ ∧ Below w.heap.size w w' ∧ w'.heap.size = w.heap.size + 1 := by
  have HA := and_low n
  have hl := low_lt n
  generalize (n % 256).toNat = m at *
  go_enter Try.func12, Try.ntmps12
  go_wp2
  go_ret
  exact ⟨rfl, ⟨Blk.new _ _ rfl _ _, hl⟩, (Below.refl _ _).alloc (Nat.le_refl _) _, by simp⟩
set_option maxRecDepth 100000 in
set_option maxHeartbeats 1000000 in
theorem bit_rf (n : Int) (w : World) :
    Calls Try.prog 33 #[.int .i64 n] w fun e w' => e = .returned (.int .i64 (nbit n)) ∧ w' = w := by
  by_cases h1 : n < 0
  · rw [show nbit n = 0 by unfold nbit; rw [if_neg (by omega)]]
    go_enter Try.func33, Try.ntmps33
    go_wp2
    go_ret
    exact ⟨rfl, rfl⟩
  · by_cases h2 : 7 < n
    · rw [show nbit n = 0 by unfold nbit; rw [if_neg (by omega)]]
      go_enter Try.func33, Try.ntmps33
      go_wp2
      go_ret
      exact ⟨rfl, rfl⟩
    · have hU : IntKind.u64.wrap n = n := by rw [IntKind.wrap_u64]; omega
      have hn : nbit n = wrap64 ((2 : Int) ^ n.toNat) := by unfold nbit; rw [if_pos (by omega), wrap_pow (by omega)]
      rw [hn]
      clear hn
      have n1 : 0 ≤ n := by omega
      have n2 : n < 8 := by omega
      go_enter Try.func33, Try.ntmps33
      go_wp2
      go_ret
      exact ⟨rfl, rfl⟩
set_option maxRecDepth 100000 in
set_option maxHeartbeats 1000000 in
theorem is_rf (g : Nat) (s : TS) (n : Int) (w : World) (h : TAt 34 w g s) :
    Calls Try.prog 20 #[.pointer (some ⟨g, 0, none⟩), .int .i64 n] w fun e w' => e = .returned (.bool (isB s.m n)) ∧ ∃ m, w' = w.drewN m := by
  have HB := fun W => Lib.hid (bit_rf n W)
  have c0 := h.c0
  rw [← is_nbit h.2 n]
  clear h
  go_enter Try.func20, Try.ntmps20
  go_wp2_with fail
  go_quiet ((go_at_call 33; exact Calls.quiet_of_same (HB _).out))
  go_wp2
  go_ret
  exact ⟨rfl, _, rfl⟩
set_option maxRecDepth 100000 in
set_option maxHeartbeats 1000000 in
theorem clique_rf (g : Nat) (s : TS) (w : World) (h : TAt 34 w g s) (ha : s.a < 1000) :
    Calls Try.prog 17 #[.pointer (some ⟨g, 0, none⟩)] w fun e w' => e = .returned (.bool (decide (s.f ≤ s.a))) ∧ ∃ m, w' = w.drewN m := by
  have c1 := h.c1
  have c2 := h.c2
  clear h
  go_enter Try.func17, Try.ntmps17
  go_wp2_with fail
  go_quiet (fail)
  go_wp2
  go_ret
  refine ⟨?_, _, rfl⟩
  rw [show decide (s.f ≤ s.a) = decide ((s.f : Int) < (s.a : Int) + 1) by simp; omega]
  rfl
set_option maxRecDepth 100000 in
set_option maxHeartbeats 1000000 in
theorem join_rf (g : Nat) (s : TS) (n : Int) (w : World) (h : TAt 34 w g s) :
    Calls Try.prog 30 #[.pointer (some ⟨g, 0, none⟩), .int .i64 n] w fun e w' => e = .returned (.tuple #[]) ∧ TAt 34 w' g (s.join n) ∧ Only g w w' := by
  have HB := fun W => Lib.hid (bit_rf n W)
  have c0 := h.c0
  have f0 := h.1.frozen 0
  have HO := or_nbit h.2 n
  have hI : (if 0 ≤ n ∧ n < 8 then ins s.m n.toNat else s.m : Nat) < 256 := by
    split
    · exact ins_lt h.2 (by omega)
    · exact h.2
  have hs : s.join n = { s with m := if 0 ≤ n ∧ n < 8 then ins s.m n.toNat else s.m } := by
    unfold TS.join; split <;> rfl
  rw [hs]
  clear hs
  generalize (if 0 ≤ n ∧ n < 8 then ins s.m n.toNat else s.m : Nat) = q at *
  generalize nbit n = b at *
  go_enter Try.func30, Try.ntmps30
  go_wp2_with fail
  go_region_with (first | (go_at_call 33; refine (HB _).out.mono ?_; rintro _ _ ⟨rfl, rfl⟩))
  all_goals
    go_wp2
    exact bodyPost_end (results_none (by rfl) _ _ _) rfl ⟨rfl, (h.m_ _ hI).drew, ((Only.refl g _).set 0 _).drew⟩
set_option maxRecDepth 100000 in
set_option maxHeartbeats 1000000 in
theorem miss_rf (g : Nat) (s : TS) (n : Int) (w : World) (h : TAt 34 w g s) :
    Calls Try.prog 29 #[.pointer (some ⟨g, 0, none⟩), .int .i64 n] w fun e w' => e = .returned (.tuple #[]) ∧ TAt 34 w' g (s.miss n) ∧ Only g w w' := by
  have HB := fun W => Lib.hid (bit_rf n W)
  have c0 := h.c0
  have f0 := h.1.frozen 0
  have HO := andNot_nbit h.2 n
  have hI : (if 0 ≤ n ∧ n < 8 then del s.m n.toNat else s.m : Nat) < 256 := by
    split
    · exact del_lt h.2
    · exact h.2
  have hs : s.miss n = { s with m := if 0 ≤ n ∧ n < 8 then del s.m n.toNat else s.m } := by
    unfold TS.miss; split <;> rfl
  rw [hs]
  clear hs
  generalize (if 0 ≤ n ∧ n < 8 then del s.m n.toNat else s.m : Nat) = q at *
  generalize nbit n = b at *
  go_enter Try.func29, Try.ntmps29
  go_wp2_with fail
  go_region_with (first | (go_at_call 33; refine (HB _).out.mono ?_; rintro _ _ ⟨rfl, rfl⟩))
  all_goals
    go_wp2
    exact bodyPost_end (results_none (by rfl) _ _ _) rfl ⟨rfl, (h.m_ _ hI).drew, ((Only.refl g _).set 0 _).drew⟩
set_option maxRecDepth 100000 in
set_option maxHeartbeats 1000000 in
theorem right_rf (g : Nat) (s : TS) (n : Int) (w : World) (h : TAt 34 w g s) (hb : s.a < 1000) :
    Calls Try.prog 27 #[.pointer (some ⟨g, 0, none⟩), .int .i64 n] w fun e w' => e = .returned (.tuple #[]) ∧ TAt 34 w' g (s.right n) ∧ Only g w w' := by
  have HB := fun W => Lib.hid (bit_rf n W)
  have HN := nbit_ne n
  by_cases hn : 0 ≤ n ∧ n < 8
  · rw [decide_eq_true hn] at HN
    have hs : s.right n = { s.join n with a := s.a + 1 } := by simp [TS.right, TS.join, hn]
    rw [hs]
    have hf : (s.join n).a = s.a := by simp [TS.join, hn]
    clear hs
    have HJ := fun W (h : TAt 34 W g s) => Lib.hid (join_rf g s n W h)
    generalize s.join n = u at *
    generalize nbit n = b at *
    go_enter Try.func27, Try.ntmps27
    go_wp2_with fail
    refine (HB _).out.mono ?_
    rintro _ _ ⟨rfl, rfl⟩
    go_wp2_with fail
    refine (HJ _ h).out.mono ?_
    rintro _ w1 ⟨rfl, h1, o1⟩
    have c := h1.c1
    rw [hf] at c
    have f := h1.1.frozen 1
    have h2 := Lib.hid (h1.a_ (s.a + 1))
    clear h h1 hf HB HJ
    go_wp2
    exact bodyPost_end (results_none (by rfl) _ _ _) rfl ⟨rfl, by simpa using h2.out, o1.set 1 _⟩
  · rw [decide_eq_false hn] at HN
    have hs : s.right n = s := by simp [TS.right, hn]
    rw [hs]
    clear hs
    generalize nbit n = b at *
    go_enter Try.func27, Try.ntmps27
    go_wp2_with fail
    refine (HB _).out.mono ?_
    rintro _ _ ⟨rfl, rfl⟩
    go_wp2
    exact bodyPost_end (results_none (by rfl) _ _ _) rfl ⟨rfl, h, Only.refl _ _⟩
set_option maxRecDepth 100000 in
set_option maxHeartbeats 1000000 in
theorem wrong_rf (g : Nat) (s : TS) (n : Int) (w : World) (h : TAt 34 w g s) (hb : s.f < 1000) :
    Calls Try.prog 28 #[.pointer (some ⟨g, 0, none⟩), .int .i64 n] w fun e w' => e = .returned (.tuple #[]) ∧ TAt 34 w' g (s.wrong n) ∧ Only g w w' := by
  have HB := fun W => Lib.hid (bit_rf n W)
  have HN := nbit_ne n
  by_cases hn : 0 ≤ n ∧ n < 8
  · rw [decide_eq_true hn] at HN
    have hs : s.wrong n = { s.miss n with f := s.f + 1 } := by simp [TS.wrong, TS.miss, hn]
    rw [hs]
    have hf : (s.miss n).f = s.f := by simp [TS.miss, hn]
    clear hs
    have HJ := fun W (h : TAt 34 W g s) => Lib.hid (miss_rf g s n W h)
    generalize s.miss n = u at *
    generalize nbit n = b at *
    go_enter Try.func28, Try.ntmps28
    go_wp2_with fail
    refine (HB _).out.mono ?_
    rintro _ _ ⟨rfl, rfl⟩
    go_wp2_with fail
    refine (HJ _ h).out.mono ?_
    rintro _ w1 ⟨rfl, h1, o1⟩
    have c := h1.c2
    rw [hf] at c
    have f := h1.1.frozen 2
    have h2 := Lib.hid (h1.f_ (s.f + 1))
    clear h h1 hf HB HJ
    go_wp2
    exact bodyPost_end (results_none (by rfl) _ _ _) rfl ⟨rfl, by simpa using h2.out, o1.set 2 _⟩
  · rw [decide_eq_false hn] at HN
    have hs : s.wrong n = s := by simp [TS.wrong, hn]
    rw [hs]
    clear hs
    generalize nbit n = b at *
    go_enter Try.func28, Try.ntmps28
    go_wp2_with fail
    refine (HB _).out.mono ?_
    rintro _ _ ⟨rfl, rfl⟩
    go_wp2
    exact bodyPost_end (results_none (by rfl) _ _ _) rfl ⟨rfl, h, Only.refl _ _⟩
set_option maxRecDepth 100000 in
set_option maxHeartbeats 1000000 in
theorem clear_rf (g : Nat) (s : TS) (w : World) (h : TAt 34 w g s) :
    Calls Try.prog 31 #[.pointer (some ⟨g, 0, none⟩)] w fun e w' => e = .returned (.tuple #[]) ∧ TAt 34 w' g s.clear ∧ Only g w w' := by
  have c1 := h.c1
  have c2 := h.c2
  have f1 := h.1.frozen 1
  have f2 := h.1.frozen 2
  have h2 := Lib.hid ((h.a_ 0).f_ 0)
  clear h
  go_enter Try.func31, Try.ntmps31
  go_wp2
  exact bodyPost_end (results_none (by rfl) _ _ _) rfl ⟨rfl, h2.out, ((Only.refl g _).set 1 _).set 2 _⟩
end Go.Proofs.Ytpdjpbchfbicfaa
