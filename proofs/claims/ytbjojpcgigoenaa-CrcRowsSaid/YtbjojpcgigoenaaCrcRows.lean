/- CrcRows holds: how bytes are parted into rows does not matter; a sum is a seed for what follows. For all numbers and rows. -/
import Derived.Test.YtbjojpcgigoenaaOpenRows
namespace Go.Proofs.Ytbjojpcgigoenaa
open Go.ChangeShapes Go.WideShapes Go.ChangeAt Go.RowKit
open Go.ChangeMaps (open_string shut_string)

/-- So many rows' bytes in all, and they one behind the other. -/
def tot (N : Nat → Nat) : Nat → Nat
  | 0 => 0
  | k + 1 => tot N k + N k
def cat (N : Nat → Nat) (z : Nat → Nat → Int) : Nat → Nat → Int
  | 0, _ => 0
  | k + 1, p => if p < tot N k then cat N z k p else z k (p - tot N k)
theorem cat_sum (s : Nat) (N : Nat → Nat) (z : Nat → Nat → Int) : ∀ k, Cr.sumTo s (cat N z k) (tot N k) = Cr.rowsTo s z N k
  | 0 => rfl
  | k + 1 => by
    rw [tot, Cr.sumTo_more, Cr.rowsTo, ← cat_sum s N z k, Cr.sumTo_alike s (z := cat N z (k + 1)) (y := cat N z k) (tot N k) (fun j hj => by simp [cat, hj])]
    exact Cr.sumTo_alike _ _ fun j _ => by
      show (if tot N k + j < tot N k then _ else _) = _
      rw [if_neg (by omega), Nat.add_sub_cancel_left]
theorem cat_byte {N : Nat → Nat} {z : Nat → Nat → Int} : ∀ m, (∀ i k, i < m → k < N i → 0 ≤ z i k ∧ z i k < 256) → ∀ p, p < tot N m → 0 ≤ cat N z m p ∧ cat N z m p < 256
  | 0, _, p, hp => absurd hp (by simp [tot])
  | m + 1, h, p, hp => by
    simp only [tot] at hp
    simp only [cat]
    split
    · exact cat_byte m (fun i k hi => h i k (by omega)) p ‹_›
    · exact h m _ (by omega) (by omega)

set_option maxHeartbeats 1000000 in
theorem walk_crcRows (a : Int) (L : Option Addr) (m C : Nat) (A : Nat → Option Addr) (N c : Nat → Nat) (z : Nat → Nat → Int) (w : World) (_ha : -9223372036854775808 ≤ a ∧ a ≤ 9223372036854775807) (h : InRows w L m C A N c z) :
    Calls Try.prog 6 #[.int .i64 a, .slice L m C] w fun e w' => e = .returned (.bool true) ∧ Below w.heap.size w w' := by
  obtain ⟨hs, hrow, hC, hmax⟩ := h
  have hmax' := hmax
  unfold maxLen at hmax'
  go_enter Try.func6, Try.ntmps6
  go_wp2
  go_loopw [5, 6, 7] (fun v x i wr => ∃ (k : Nat) (X : Int), k ≤ m ∧ k ≤ 101 ∧ tot N k ≤ 1500 ∧ i = .int .i64 k ∧ x = .int .i64 X ∧ Cr.sd X = Cr.rowsTo (Cr.sd a) z N k ∧ Owns wr w.heap.size 5 v (tot N k) (fun p => .int .u8 (cat N z k p)) ∧ Below w.heap.size w wr) (fun _ _ i _ => m - (intOf i).toNat)
  case atStart => exact ⟨0, a, by omega, by omega, by simp [tot], rfl, rfl, rfl, World.ownsRow_nil _ _ _ _, Below.refl _ _⟩
  case round =>
    obtain ⟨k, X, hk, h101, htot, rfl, rfl, hX, hown, hbel⟩ := hrel
    have HX := Lib.hid hX
    clear hX
    obtain ⟨A1, c1, rfl, -, -, g1⟩ := Owns.form hown
    by_cases hlt : k < m
    · obtain ⟨b0, off, rfl, hbb, hcell⟩ := hs (by omega)
      have hx : wr.cell? ⟨b0, off + k, none⟩ = some (.slice (A k) (N k) (c k)) := (hbel.cell hbb).trans (hcell k hlt)
      obtain ⟨⟨hr, hz, hNc, hcm⟩, hnil, hreach⟩ := hrow k hlt
      have q1 : (k : Int) < m := by omega
      have q2 : decide (k < m) = true := by simp; omega
      have hx0 : w.cell? ⟨b0, off + k, none⟩ = some (.slice (A k) (N k) (c k)) := hcell k hlt
      clear hcell
      by_cases hi : 100 < k
      · have q3 : decide ((100 : Int) < k) = true := by simp; omega
        go_wp2
        go_ret
        exact ⟨rfl, hbel⟩
      have q3 : decide ((100 : Int) < k) = false := by simp; omega
      by_cases hsz : 1500 < tot N k + N k
      · have q4 : decide ((1500 : Int) < (tot N k : Nat) + (N k : Nat)) = true := by simp; omega
        go_wp2
        go_ret
        exact ⟨rfl, hbel⟩
      have q4 : decide ((1500 : Int) < (tot N k : Nat) + (N k : Nat)) = false := by simp; omega
      have HN := Lib.hid hnil
      have HT := Lib.hid (show tot N (k + 1) = tot N k + N k from rfl)
      clear g1 hnil
      have hB := hbel.size
      generalize hK : N k = n1 at *
      generalize hTk : tot N k = t1 at *
      have HK := Lib.hid hK
      have HTk := Lib.hid hTk
      clear hK hTk
      go_wp2_with (at_builtin; go_loud (refine wpList_appendAll _ rfl _ _ 36 rfl w.heap.size 5 (.int .u8 0) 1 infoU8 rfl Try.underlying36 _ _ _ w hown hbel rfl w.heap.size (A k) n1 (c k) _ rfl HN.out (hr.below hbel) (fun _ _ => rfl) hB (by unfold maxLen; omega) (by omega) ?_))
      intro v' w1 ho1 hb1 _
      have hx1 := (hb1.cell hbb).trans hx0
      obtain ⟨A2, c2, rfl, -, -, -⟩ := Owns.form ho1
      have R := sum_one (A k) n1 (c k) (z k) X w1 36 w1.heap.size rfl ((hr.below hb1).more hb1.size) hz (by unfold maxLen; omega)
      have hS := Lib.hid (show Cr.sumTo (Cr.sd X) (z k) n1 = Cr.rowsTo (Cr.sd a) z N (k + 1) by rw [HX.out, Cr.rowsTo, HK.out])
      have hlS := Cr.rowsTo_lt (Cr.sd_lt a) z N (k + 1)
      rw [hS.out] at R
      go_wp2_with fail
      refine R.mono ?_
      rintro e w2 ⟨rfl, rfl⟩
      have hb2 := hb1.alloc hb1.size (.cells #[.slice (A k) n1 (c k)] 36)
      have ho2 := World.ownsRow.alloc ho1 (.cells #[.slice (A k) n1 (c k)] 36)
      generalize w1.alloc (.cells #[.slice (A k) n1 (c k)] 36) = w2 at *
      go_wp2
      go_roundw
      case rel =>
        refine ⟨k + 1, _, by omega, by omega, by rw [HT.out]; omega, by go_num, rfl, Cr.sd_of hlS, ?_, hb2⟩
        rw [HT.out]
        have ho3 : Owns w2 w.heap.size 5 (.slice A2 (t1 + n1) c2) (t1 + n1) _ := ho2
        refine ho3.alike fun p hp => ?_
        show _ = Value.int .u8 (if p < tot N k then cat N z k p else z k (p - tot N k))
        rw [HTk.out]
        split <;> rfl
      case measure => simp [intOf]; omega
    · obtain rfl : k = m := by omega
      have R0 := sum_any L k C w.heap.size A N c z a wr (hs.below hbel) (fun i hi => (hrow i hi).bytes.sees.below hbel) (fun i j hi hj => (hrow i hi).bytes.byte j hj) (by unfold maxLen; omega) (fun i hi => by
        have h1 := (hrow i hi).reach
        unfold maxLen
        omega)
      have R1 := fun W g (hg : g = W.heap.size) (hb : Below wr.heap.size wr W) => sum_one A1 (tot N k) c1 (cat N z k) a W 36 g hg ((g1.below hb).more hb.size) (cat_byte k fun i j hi hj => (hrow i hi).bytes.byte j hj) (by unfold maxLen; omega)
      rw [cat_sum] at R1
      have hand := Cr.and_sd X
      rw [HX.out] at hand
      generalize Cr.rowsTo (Cr.sd a) z N k = S at *
      have H0 := Lib.hid R0
      have H1 := fun W g hg hb => Lib.hid (R1 W g hg hb)
      clear R0 R1 hown g1 hrow hs HX
      go_wp2_with fail
      refine H0.out.mono ?_
      rintro e w1 ⟨rfl, rfl⟩
      go_wp2_with fail
      refine (H1 _ _ rfl (Below.refl _ _)).out.mono ?_
      rintro e w1 ⟨rfl, rfl⟩
      have hb1 := (Below.refl wr.heap.size wr).alloc (Nat.le_refl _) (.cells #[.slice A1 (tot N k) c1] 36)
      generalize wr.alloc (.cells #[.slice A1 (tot N k) c1] 36) = w1 at *
      go_wp2_with fail
      refine (H1 _ _ rfl hb1).out.mono ?_
      rintro e w2 ⟨rfl, rfl⟩
      have hb2 := hbel.trans ((hb1.alloc hb1.size (.cells #[.slice A1 (tot N k) c1] 36)).mono hbel.size)
      generalize w1.alloc (.cells #[.slice A1 (tot N k) c1] 36) = w2 at *
      go_wp2_with (go_at_call 31; refine (knownCrc_any _).mono ?_; rintro e w4 ⟨rfl, hb4⟩)
      go_ret
      exact ⟨by simp, hb2.trans (hb4.mono hb2.size)⟩

/-! ### THE ROW's STEP around the walk. -/
theorem own_crcRows : ownKnob Try.prog.godebug = none := by kernel_rfl
theorem laidOut_crcRows : laidOutB Try.prog = true := by kernel_rfl
set_option maxRecDepth 100000 in
theorem lifted_crcRows (os : Os) (started : os.Started) (H : Type) (enc : TypeId × Value → H) :
    ReturnsInHanded {} Try.checked os 6 .any (Rows.crcRowsSpec.pre6 enc Try.prog Try.f6 Rows.crcRowsRow.domain false) (Rows.crcRowsSpec.post enc Try.prog Try.f6 false true false false) := by
  refine returnsInHanded_of_change_sized (C := Try.checked) own_crcRows started (by kernel_rfl) Try.func6
    (ChangeSpec.witness6 (enc := enc) (C := Try.checked) false ⟨#[], #[.int .i64 0, .slice none 0 0], []⟩ 8 (by kernel_rfl) (by kernel_rfl) (by kernel_rfl) (by kernel_rfl)) ?_
  intro W base args ds gs before hval0 hW hcnd hsz0 _
  have hval : ∀ (j : Nat) t v, Try.f6.params[j]? = some t → args[j]? = some v → Value.okWide Try.prog W .any base t v := hval0
  have hW' := hW
  obtain ⟨p, q, hA0, hV, rfl, hfz, hnd⟩ := hW
  have hA : DataW.TrodAll enc Try.prog W 0 (fun _ => true) true Try.f6.params.toList args.toList ds p := hA0
  have hsz : (DataW.weightsEach Try.prog (Try.f6.params.toList ++ Rows.crcRowsSpec.plain.varTypes Try.prog) (ds ++ gs)).all (· ≤ reachBytes) = true := hsz0
  rw [Try.params6] at hA hval hsz
  obtain ⟨v0, vs0, d0, ds0, p0, q0, hargs, rfl, rfl, h0, r0⟩ := trodAll_cons hA
  obtain ⟨v1, vs1, d1, ds1, p1, q1, rfl, rfl, rfl, h1, r1⟩ := trodAll_cons r0
  obtain ⟨rfl, rfl, rfl⟩ := trodAll_nil r1
  obtain rfl : args = #[v0, v1] := by cases args; simp_all
  obtain ⟨rfl, rfl⟩ := trodVars_none hV
  obtain ⟨a0, rfl, rfl, rfl, w0⟩ := open_int Try.underlying3 (hval 0 3 v0 rfl rfl) h0
  obtain ⟨A1, n1, c1, rfl⟩ := okWide_slice Try.underlying47 (hval 1 47 v1 rfl rfl)
  have k1 := h1
  have lt1 : ∀ x ∈ p1, x.block < W.heap.size := by obtain ⟨m, hm⟩ := k1; exact DataW.trod_lt m _ _ _ hm
  obtain ⟨aa1, nn1, cc1, zz1, s1⟩ := sees_rows Try.underlying47 Try.underlying36 Try.underlying5 (by kernel_rfl) (by kernel_rfl) (by kernel_rfl) h1 (fun _ _ _ _ hd hx => reach_inner hsz (j := 1) (t := 47) (e := 36) (q := 5) rfl (congrArg some hd) Try.underlying47 Try.underlying36 hx)
  clear hA0 hval0
  refine (walk_crcRows a0 A1 n1 c1 aa1 nn1 cc1 zz1 W (bounds_i64 w0) s1).mono fun e W' ⟨he, bel⟩ => ?_
  subst he
  exact ⟨_, rfl, _, _, _, [], _, [], hW', trodAll_mk1 (shut_bool Try.underlying4 _), (trodAll_cons_mk (shut_int Try.underlying3 w0) (trodAll_cons_mk (Below.trod laidOut_crcRows (by kernel_rfl) (of_decide_eq_true (by kernel_rfl)) k1 bel lt1) trodAll_mk0)), rfl, bel.frame _, fun h => by cases h⟩

theorem over_crcRows : Rows.crcRowsRow.holds Try.pinned (OpenSpec.ofChange Rows.crcRowsSpec) :=
  OpenClaim.holds_of_wide 6 Try.f6 rfl rfl rfl rfl rfl rfl rfl ⟨rfl, rfl, rfl, rfl, rfl⟩ rfl rfl rfl rfl rfl (by kernel_rfl) Try.func6 (by kernel_rfl)
    (of_decide_eq_true (by kernel_rfl)) (by unfold Func.isWrapper; first | (rw [if_pos (by decide +kernel)]; kernel_rfl) | (rw [if_neg (by decide +kernel)]; exact ⟨rfl, rfl⟩))
    (fun os started H enc _ => lifted_crcRows os started H enc)

theorem proved_crcRows : Rows.CrcRowsSaid := over_crcRows
end Go.Proofs.Ytbjojpcgigoenaa
