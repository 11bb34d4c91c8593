/- LineTurns holds: a sample turned twice is as it was; one bit turned is read as another byte. For all bytes and numbers. -/
import Derived.Test.YtgchecnfdbnnpaaLineH
import Derived.Test.YtgchecnfdbnnpaaOpen
import Derived.StillTailTactics
namespace Go.Proofs.Ytgchecnfdbnnpaa
open Go.ChangeShapes Go.WideShapes Go.ChangeAt Go.RowKit
open Go.ChangeMaps (open_string shut_string)

theorem and_small (x : Int) : ∃ y : Nat, y ≤ 65535 ∧ bits BinOp.and IntKind.i64 x 65535 = y := by
  refine ⟨((BitVec.ofInt 64 x) &&& (BitVec.ofInt 64 65535)).toNat, ?_, ?_⟩
  · rw [BitVec.toNat_and]
    exact Nat.and_le_right
  · have h : ((BitVec.ofInt 64 x) &&& (BitVec.ofInt 64 65535)).toNat ≤ 65535 := by
      rw [BitVec.toNat_and]
      exact Nat.and_le_right
    show IntKind.i64.wrap ((((BitVec.ofInt 64 x) &&& (BitVec.ofInt 64 65535)).toNat : Nat) : Int) = _
    rw [IntKind.wrap_i64]
    omega

theorem turned_twice (t : Int) (a : Nat → Int) (k : Nat) : turned t (turned t a) k = a k := by
  unfold turned
  split <;> simp

/-- The bytes with a bit turned, as a row, are what turning the sample makes. -/
def flip8 (T : Nat) (z : Nat → Int) (j : Nat) : Int := if j = T / 8 then bits BinOp.xor IntKind.u8 (z j) (128 / 2 ^ (T % 8)) else z j

theorem flip_bit (x : Fin 256) (i k : Fin 8) : bitv (bits BinOp.xor IntKind.u8 ((x.val : Nat) : Int) (128 / 2 ^ i.val)) k.val = (bitv ((x.val : Nat) : Int) k.val ^^ decide (k = i)) := by
  revert x i k
  decide +kernel
theorem flip_byte (x : Fin 256) (i : Fin 8) : 0 ≤ bits BinOp.xor IntKind.u8 ((x.val : Nat) : Int) (128 / 2 ^ i.val) ∧ bits BinOp.xor IntKind.u8 ((x.val : Nat) : Int) (128 / 2 ^ i.val) < 256 := by
  revert x i
  decide +kernel
theorem flip_range (T : Nat) (z : Nat → Int) (j : Nat) (hz : 0 ≤ z j ∧ z j < 256) : 0 ≤ flip8 T z j ∧ flip8 T z j < 256 := by
  unfold flip8
  split
  · obtain ⟨x, hx⟩ := Int.eq_ofNat_of_zero_le hz.1
    rw [hx]
    exact flip_byte ⟨x, by omega⟩ ⟨T % 8, by omega⟩
  · exact hz
theorem turned_lv (T : Nat) (z : Nat → Int) (k : Nat) (hz : 0 ≤ z (k / 8) ∧ z (k / 8) < 256) : turned (T : Int) (lv true z) k = lv true (flip8 T z) k := by
  unfold turned lv flip8
  simp only [if_true]
  by_cases h : k / 8 = T / 8
  · rw [if_pos h]
    obtain ⟨x, hx⟩ := Int.eq_ofNat_of_zero_le hz.1
    have hf := flip_bit ⟨x, by omega⟩ ⟨T % 8, by omega⟩ ⟨k % 8, by omega⟩
    simp only at hf
    rw [hx, hf]
    by_cases h2 : k = T
    · subst h2
      simp
      cases bitv (x : Int) (k % 8) <;> simp
    · have h3 : ¬ (k : Int) = (T : Int) := by omega
      have h4 : ¬ k % 8 = T % 8 := by omega
      simp [h3, h4]
  · rw [if_neg h]
    have h3 : ¬ (k : Int) = (T : Int) := by rintro h3; exact h (by omega)
    simp [h3]

theorem told_on' {w' : World} {B : Nat} {q z : Nat → Int} {n : Nat} {K : Int} {v : Value} (h : Told w' B q (8 * n) K v) (hq : ∀ k, k < 8 * n → q k = lv true z k) (h0 : 0 < n) (hz : ∀ k, k < n → 0 ≤ z k ∧ z k < 256) : K = 2 ∧ Owns w' B 5 v n (fun j => .int .u8 (z j)) := by
  have hZ : allZ q (8 * n) = false := by
    rw [← lv_loud z (8 * n) (by omega)]
    rw [Bool.eq_iff_iff, allZ_iff, allZ_iff]
    exact ⟨fun h k hk => by rw [← hq k hk]; exact h k hk, fun h k hk => by rw [hq k hk]; exact h k hk⟩
  have hU : allU q (8 * n) = true := (allU_iff _ _).2 fun k hk => by rw [hq k hk]; exact lv_unit z k
  rcases h with ⟨h1, _⟩ | ⟨_, _, _, h2, h3⟩ | ⟨_, h4, _⟩
  · rw [hZ] at h1; cases h1
  · rw [show 8 * n / 8 = n by omega] at h3
    refine ⟨h2, h3.alike fun k hk => ?_⟩
    have : packed q k = packed (lv true z) k := by
      unfold packed packTo
      rw [foldl_same _ (fun x i => x ||| if lv true z (8 * k + i) = 1 then 128 / 2 ^ i else 0) _ _ fun a i hi => ?_]
      rw [hq _ (by have := List.mem_range.1 hi; omega)]
    rw [this, packed_lv z k (hz k hk)]
  · rcases h4 with h4 | h4
    · omega
    · rw [hU] at h4; cases h4

set_option maxHeartbeats 2000000 in
theorem walk_lineTurns (A : Option Addr) (n c : Nat) (z : Nat → Int) (x : Int) (w : World) (h : InBytes w A n c z) (hx : -9223372036854775808 ≤ x ∧ x ≤ 9223372036854775807) :
    Calls Try.prog 10 #[.slice A n c, .int .i64 x] w fun e w' => e = .returned (.bool true) ∧ Below w.heap.size w w' := by
  obtain ⟨hs, hz, hn, hc⟩ := h
  have hc' := hc
  unfold maxLen at hc'
  by_cases h0 : n < 1
  · go_enter Try.func10, Try.ntmps10
    go_wp2
    go_ret
    exact ⟨rfl, Below.refl _ _⟩
  by_cases h1 : 40 < n
  · go_enter Try.func10, Try.ntmps10
    go_wp2
    go_ret
    exact ⟨rfl, Below.refl _ _⟩
  have hd0 : decide ((n : Int) < 1) = false := by simp; omega
  have hd1 : decide ((40 : Int) < n) = false := by simp; omega
  obtain ⟨y, hy1, hy2⟩ := and_small x
  obtain ⟨T, hT⟩ : ∃ T : Nat, T = y % (8 * n) := ⟨_, rfl⟩
  have hT1 : (y : Int) % (8 * (n : Int)) = T := by rw [hT]; simp
  have hT3 : T < 8 * n := by have := Nat.mod_lt y (show 8 * n > 0 by omega); omega
  have HT := Lib.hid hT1
  clear hT hT1
  have lvs : ∀ k, (lv true z k).natAbs < 2 ^ 52 := fun k => by rcases lv_unit z k with e | e <;> rw [e] <;> decide
  have tvs : ∀ k, (turned (T : Int) (lv true z) k).natAbs < 2 ^ 52 := fun k => by unfold turned; split <;> rcases lv_unit z k with e | e <;> rw [e] <;> decide
  go_enter Try.func10, Try.ntmps10
  go_wp2_with fail
  refine (drive_cx A n c z _ _ w hs hz hn hc).mono ?_
  rintro e w1 ⟨v, rfl, ho1, hb1⟩
  rw [show min n 50 = n by omega] at ho1
  obtain ⟨A1, c1, rfl, g1, g2, g3⟩ := Owns.form ho1
  clear hy2
  go_wp2_with fail
  rw [HT.out]
  refine (turn_any A1 (8 * n) c1 _ _ T w1 g3 (fun k _ => lvs k) (fun k _ => lvs k) (by omega) (by omega)).mono ?_
  rintro e w2 ⟨v, rfl, ho2, hb2⟩
  obtain ⟨A2, c2, rfl, k1, k2, k3⟩ := Owns.form ho2
  go_wp2_with fail
  refine (read_any A2 (8 * n) c2 _ _ w2 k3 (fun k _ => Nat.lt_trans (tvs k) (by decide)) (fun k _ => Nat.lt_trans (tvs k) (by decide)) k1 k2 (by omega)).mono ?_
  rintro e w3 ⟨K, p, L, q, rfl, t1, t2, hb3⟩
  have hb12 : Below w1.heap.size w1 w3 := hb2.trans (hb3.mono hb2.size)
  obtain ⟨rfl, o1⟩ := told_on' t1 (fun k hk => turned_lv T z k (hz _ (by omega))) (by omega) (fun k hk => flip_range T z k (hz k hk))
  obtain ⟨A3, c3, rfl, -, -, m1⟩ := Owns.form o1
  have g3' := (g3.below hb12).more hb12.size
  clear t1 t2 k3 ho2 o1 ho1
  go_wp2_with fail
  refine (turn_any A1 (8 * n) c1 _ _ T w3 g3' (fun k _ => lvs k) (fun k _ => lvs k) (by omega) (by omega)).mono ?_
  rintro e w4 ⟨v, rfl, ho4, hb4⟩
  obtain ⟨A4, c4, rfl, -, -, s4⟩ := Owns.form ho4
  go_wp2_with fail
  refine (turn_any A4 (8 * n) c4 _ _ T w4 s4 (fun k _ => tvs k) (fun k _ => tvs k) (by omega) (by omega)).mono ?_
  rintro e w5 ⟨v, rfl, ho5, hb5⟩
  obtain ⟨A5, c5, rfl, -, -, s5⟩ := Owns.form ho5
  have hb35 : Below w3.heap.size w3 w5 := hb4.trans (hb5.mono hb4.size)
  have r1 := s5.alike (V' := fun k => cx (lv true z k) (lv true z k)) (fun k _ => by rw [turned_twice])
  have r2 := g3'.below hb35
  clear ho4 s4 ho5 s5
  go_wp2_with fail
  refine (same_any A5 A1 (8 * n) c5 c1 _ _ _ _ w5 r1 r2 (fun k _ => Nat.lt_trans (lvs k) (by decide)) (fun k _ => Nat.lt_trans (lvs k) (by decide)) (by omega)).mono ?_
  rintro e w6 ⟨rfl, d, rfl⟩
  have hb : Below w.heap.size w (w5.drewN d) := by
    have h13 := hb1.trans (hb12.mono hb1.size)
    have h15 := h13.trans (hb35.mono h13.size)
    exact ⟨h15.os, h15.tape, h15.output, h15.size, h15.block⟩
  have m2 : Sees w5 w3.heap.size A3 n (fun j => .int .u8 (flip8 T z j)) := m1.below hb35
  have hs2 : Sees w5 w.heap.size A n (fun j => .int .u8 (z j)) := hs.keep fun p hp => (Below.cell hb hp)
  clear r1 r2 m1 hs g3 g3' hb1 hb2 hb3 hb4 hb5 hb12 hb35 lvs tvs
  go_wp2
  go_loop [11] (fun i => ∃ k : Nat, k ≤ n ∧ i = .int .i64 k) (fun i => n - (intOf i).toNat)
  case atStart => exact ⟨0, by omega, rfl⟩
  case round =>
    obtain ⟨k, hk, rfl⟩ := hrel
    by_cases hlt : k < n
    · obtain ⟨b0, off, rfl, -, hcell⟩ := hs2 (by omega)
      obtain ⟨b1, off1, rfl, -, hcell1⟩ := m2 (by omega)
      have hzk := hz k hlt
      have e0 : w5.cell? ⟨b0, off + k, none⟩ = some (.int .u8 (z k)) := hcell k hlt
      have e1 : w5.cell? ⟨b1, off1 + k, none⟩ = some (.int .u8 (flip8 T z k)) := hcell1 k hlt
      clear hcell hcell1
      by_cases hkT : k = T / 8
      · have hf : flip8 T z k = bits BinOp.xor IntKind.u8 (z k) (128 / 2 ^ (T % 8)) := by unfold flip8; rw [if_pos hkT]
        rw [hf] at e1
        have hkt : ((k : Int) == (T : Int) / 8) = true := by simp; omega
        clear hf hkT
        go_wp2
        go_round
        case rel => exact ⟨k + 1, by omega, by go_num⟩
        case measure => simp [intOf]; omega
      · have hf : flip8 T z k = z k := by unfold flip8; rw [if_neg hkT]
        rw [hf] at e1
        have hkt : ((k : Int) == (T : Int) / 8) = false := by simp; omega
        clear hf hkT
        go_wp2
        go_round
        case rel => exact ⟨k + 1, by omega, by go_num⟩
        case measure => simp [intOf]; omega
    · go_wp2_with (go_at_call 19; refine (known_any _).mono ?_; rintro e w7 ⟨rfl, hb7⟩)
      go_ret
      exact ⟨rfl, hb.trans (hb7.mono hb.size)⟩

/-! ### THE ROW's STEP around the walk. -/
theorem own_lineTurns : ownKnob Try.prog.godebug = none := by kernel_rfl
theorem laidOut_lineTurns : laidOutB Try.prog = true := by kernel_rfl
set_option maxRecDepth 100000 in
theorem lifted_lineTurns (os : Os) (started : os.Started) (H : Type) (enc : TypeId × Value → H) :
    ReturnsInHanded {} Try.checked os 10 .any (Rows.lineTurnsSpec.pre6 enc Try.prog Try.f10 Rows.lineTurnsRow.domain false) (Rows.lineTurnsSpec.post enc Try.prog Try.f10 false true false false) := by
  refine returnsInHanded_of_change (C := Try.checked) own_lineTurns started (by kernel_rfl) Try.func10
    (ChangeSpec.witness6 (enc := enc) (C := Try.checked) false ⟨#[], #[.slice none 0 0, .int .i64 0], []⟩ 8 (by kernel_rfl) (by kernel_rfl) (by kernel_rfl) (by kernel_rfl)) ?_
  intro W base args ds gs before hval0 hW hcnd _
  have hval : ∀ (j : Nat) t v, Try.f10.params[j]? = some t → args[j]? = some v → Value.okWide Try.prog W .any base t v := hval0
  have hW' := hW
  obtain ⟨p, q, hA0, hV, rfl, hfz, hnd⟩ := hW
  have hA : DataW.TrodAll enc Try.prog W 0 (fun _ => true) true Try.f10.params.toList args.toList ds p := hA0
  rw [Try.params10] at hA hval
  obtain ⟨v0, vs0, d0, ds0, p0, q0, hargs, rfl, rfl, h0, r0⟩ := trodAll_cons hA
  obtain ⟨v1, vs1, d1, ds1, p1, q1, rfl, rfl, rfl, h1, r1⟩ := trodAll_cons r0
  obtain ⟨rfl, rfl, rfl⟩ := trodAll_nil r1
  obtain rfl : args = #[v0, v1] := by cases args; simp_all
  obtain ⟨rfl, rfl⟩ := trodVars_none hV
  obtain ⟨A0, n0, c0, rfl⟩ := okWide_slice Try.underlying22 (hval 0 22 v0 rfl rfl)
  have k0 := h0
  have lt0 : ∀ x ∈ p0, x.block < W.heap.size := by obtain ⟨m, hm⟩ := k0; exact DataW.trod_lt m _ _ _ hm
  obtain ⟨z0, s0⟩ := sees_bytes Try.underlying22 Try.underlying5 (by kernel_rfl) h0
  obtain ⟨a1, rfl, rfl, rfl, w1⟩ := open_int Try.underlying3 (hval 1 3 v1 rfl rfl) h1
  clear hA0 hval0
  refine (walk_lineTurns A0 n0 c0 z0 a1 W s0 (bounds_i64 w1)).mono fun e W' ⟨he, bel⟩ => ?_
  subst he
  exact ⟨_, rfl, _, _, _, [], _, [], hW', trodAll_mk1 (shut_bool Try.underlying4 _), (trodAll_cons_mk (Below.trod laidOut_lineTurns (by kernel_rfl) (of_decide_eq_true (by kernel_rfl)) k0 bel lt0) (trodAll_cons_mk (shut_int Try.underlying3 w1) trodAll_mk0)), rfl, bel.frame _, fun h => by cases h⟩

theorem over_lineTurns : Rows.lineTurnsRow.holds Try.pinned (OpenSpec.ofChange Rows.lineTurnsSpec) :=
  OpenClaim.holds_of_wide 10 Try.f10 rfl rfl rfl rfl rfl rfl rfl ⟨rfl, rfl, rfl, rfl, rfl⟩ rfl rfl rfl rfl rfl (by kernel_rfl) Try.func10 (by kernel_rfl)
    (of_decide_eq_true (by kernel_rfl)) (by unfold Func.isWrapper; first | (rw [if_pos (by decide +kernel)]; kernel_rfl) | (rw [if_neg (by decide +kernel)]; exact ⟨rfl, rfl⟩))
    (fun os started H enc _ => lifted_lineTurns os started H enc)

theorem proved_lineTurns : Rows.LineTurnsSaid := over_lineTurns
end Go.Proofs.Ytgchecnfdbnnpaa
