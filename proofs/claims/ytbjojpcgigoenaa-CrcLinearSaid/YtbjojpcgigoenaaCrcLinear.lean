/- CrcLinear holds: the sum of two rows' bytes, xored, by both seeds, xored, is both sums, xored. For all numbers and bytes. -/
import Derived.Test.YtbjojpcgigoenaaCrcC
import Derived.RegionTactic
import Derived.Deep.RegionHeld3
namespace Go.Proofs.Ytbjojpcgigoenaa
open Go.ChangeShapes Go.WideShapes Go.ChangeAt Go.RowKit
open Go.ChangeMaps (open_string shut_string)

set_option maxHeartbeats 8000000 in
theorem walk_crcLinear (a b : Int) (A : Option Addr) (n c : Nat) (z : Nat → Int) (A' : Option Addr) (n' c' : Nat) (z' : Nat → Int) (w : World) (_ha : -9223372036854775808 ≤ a ∧ a ≤ 9223372036854775807) (_hb : -9223372036854775808 ≤ b ∧ b ≤ 9223372036854775807) (h : InBytes w A n c z) (h' : InBytes w A' n' c' z') :
    Calls Try.prog 9 #[.int .i64 a, .int .i64 b, .slice A n c, .slice A' n' c'] w fun e w' => e = .returned (.bool true) ∧ Below w.heap.size w w' := by
  obtain ⟨hs, hz, hn, hc⟩ := h
  obtain ⟨hs', hz', hn', hc'⟩ := h'
  have hc1 := hc
  have hc2 := hc'
  unfold maxLen at hc1 hc2
  have key : ∀ m, m ≤ n → m ≤ n' → (m = n ∨ m = n' ∧ m < n) → m ≤ 500 → Calls Try.prog 9 #[.int .i64 a, .int .i64 b, .slice A n c, .slice A' n' c'] w fun e w' => e = .returned (.bool true) ∧ Below w.heap.size w w' := by
    intro m hm1 hm2 hmm h500
    have hsm := hs.less hm1
    have hsm' := hs'.less hm2
    have hcm : m ≤ c := by omega
    have hcm' : m ≤ c' := by omega
    have hzm : ∀ k, k < m → 0 ≤ z k ∧ z k < 256 := fun k hk => hz k (by omega)
    have hzm' : ∀ k, k < m → 0 ≤ z' k ∧ z' k < 256 := fun k hk => hz' k (by omega)
    have HX : ∀ k, k < m → bits BinOp.xor IntKind.u8 (z k) (z' k) = (((z k).toNat ^^^ (z' k).toNat : Nat) : Int) := fun k hk => by
      have h1 := hzm k hk
      have h2 := hzm' k hk
      exact u8_xor (z k) (z' k) h1.1 h1.2 h2.1 h2.2
    have e1 : Cr.sumTo (Cr.sd (bits BinOp.xor IntKind.i64 a b)) (fun k => bits BinOp.xor IntKind.u8 (z k) (z' k)) m = Cr.sumTo (Cr.sd a) z m ^^^ Cr.sumTo (Cr.sd b) z' m := by
      rw [Cr.sd_xor]
      exact Cr.sumTo_xor _ _ _ _ _ _ (fun j hj => by rw [HX j hj]; simp)
    have H1 := fun W A c B g (hc : W.cell? ⟨g, 0, none⟩ = some (.slice A m c)) (hB : B ≤ W.heap.size) (hs : Sees W B A m fun k => .int .u8 (bits BinOp.xor IntKind.u8 (z k) (z' k))) => Lib.hid (sum_at A m c (fun k => bits BinOp.xor IntKind.u8 (z k) (z' k)) (bits BinOp.xor IntKind.i64 a b) W _ g hc hB hs (fun k hk => by
      have h1 := hzm k hk
      have h2 := hzm' k hk
      have h3 : (z k).toNat ^^^ (z' k).toNat < 256 := Nat.xor_lt_two_pow (n := 8) (by omega) (by omega)
      show 0 ≤ bits BinOp.xor IntKind.u8 (z k) (z' k) ∧ bits BinOp.xor IntKind.u8 (z k) (z' k) < 256
      rw [HX k hk]
      omega) (by unfold maxLen; omega))
    have H2 := fun W B g (hc : W.cell? ⟨g, 0, none⟩ = some (.slice A m c)) (hB : B ≤ W.heap.size) (hs : Sees W B A m fun k => .int .u8 (z k)) => Lib.hid (sum_at A m c z a W _ g hc hB hs hzm (by unfold maxLen; omega))
    have H3 := fun W B g (hc : W.cell? ⟨g, 0, none⟩ = some (.slice A' m c')) (hB : B ≤ W.heap.size) (hs : Sees W B A' m fun k => .int .u8 (z' k)) => Lib.hid (sum_at A' m c' z' b W _ g hc hB hs hzm' (by unfold maxLen; omega))
    rw [e1, ← Cr.xor_small (Cr.sumTo_lt (Cr.sd_lt a) z m) (Cr.sumTo_lt (Cr.sd_lt b) z' m)] at H1
    generalize Cr.sumTo (Cr.sd a) z m = S at *
    generalize Cr.sumTo (Cr.sd b) z' m = T at *
    clear hs hs' hz hz' hc hc' e1 HX
    rcases hmm with hmm | ⟨hmm, hlt⟩
    case' inl =>
      subst hmm
      have hd : decide (n' < m) = false := by simp; omega
      have hd2 : decide ((n' : Int) < m) = false := by simp; omega
    case' inr =>
      subst hmm
      have hd : decide (m < n) = true := by simp; omega
      have hd2 : decide ((m : Int) < n) = true := by simp; omega
    all_goals
      go_enter Try.func9, Try.ntmps9
      go_wp2_with (at_make; refine wpList_zeros _ rfl _ _ 36 rfl w.heap.size w (Below.refl _ _) (Nat.le_refl _) 5 (.int .u8 0) 1 infoU8 rfl Try.underlying36 _ _ _ _ m rfl rfl rfl rfl (by omega) (by unfold maxLen; omega) ?_)
      intro w1 ho1 hb1 hs1 _
      go_wp2
      go_loopw [11] (fun i wr => ∃ k : Nat, k ≤ m ∧ i = .int .i64 k ∧ Owns wr w.heap.size 5 (.slice (some ⟨w.heap.size, 0, none⟩) m m) m (fun j => .int .u8 (if j < k then bits BinOp.xor IntKind.u8 (z j) (z' j) else 0)) ∧ Below w.heap.size w wr) (fun i _ => m - (intOf i).toNat)
      case atStart => exact ⟨0, by omega, rfl, ho1.alike fun k _ => by simp, hb1⟩
      case round =>
        obtain ⟨k, hk, rfl, hown, hbel⟩ := hrel
        clear ho1 hb1
        by_cases hlt : k < m
        · obtain ⟨b0, off, rfl, hbb, hcell⟩ := hsm (by omega)
          obtain ⟨b1, off1, rfl, hbb1, hcell1⟩ := hsm' (by omega)
          have hx : wr.cell? ⟨b0, off + k, none⟩ = some (.int .u8 (z k)) := (hbel.cell hbb).trans (hcell k hlt)
          have hy : wr.cell? ⟨b1, off1 + k, none⟩ = some (.int .u8 (z' k)) := (hbel.cell hbb1).trans (hcell1 k hlt)
          have hold := hown.cell hlt
          have hfr := hown.frozen k
          rw [if_neg (Nat.lt_irrefl k)] at hold
          have ho2 := hown.set_ (V' := fun j => .int .u8 (if j < k + 1 then bits BinOp.xor IntKind.u8 (z j) (z' j) else 0)) k (.int .u8 (bits BinOp.xor IntKind.u8 (z k) (z' k))) (by simp) (fun j _ hj => by
            by_cases h1 : j < k
            · rw [if_pos h1, if_pos (by omega)]
            · rw [if_neg h1, if_neg (by omega)])
          have hb2 := hbel.setCell (p := ⟨w.heap.size, k, none⟩) (Nat.le_refl _) (.int .u8 (bits BinOp.xor IntKind.u8 (z k) (z' k)))
          clear hcell hcell1
          go_wp2_with fail
          go_region
          go_wp2
          go_roundw
          case rel => exact ⟨k + 1, by omega, by go_num, ho2, hb2.drew⟩
          case measure => simp [intOf]; omega
        · obtain rfl : k = m := by omega
          obtain ⟨A2, c2, he, -, -, g2⟩ := Owns.form hown
          injection he with he1 _ he2
          subst he1; subst he2
          have g2 := g2.alike (V' := fun j => .int .u8 (bits BinOp.xor IntKind.u8 (z j) (z' j))) (fun j hj => by simp [hj])
          have hsA := (hsm.below hbel).more hbel.size
          have hsA' := (hsm'.below hbel).more hbel.size
          clear hown
          have R1 := fun W g (hc : W.cell? ⟨g, 0, none⟩ = some (.slice (some ⟨w.heap.size, 0, none⟩) k k)) (hb : Below wr.heap.size wr W) => H1 W (some ⟨w.heap.size, 0, none⟩) k wr.heap.size g hc hb.size (g2.below hb)
          have R2 := fun W g (hc : W.cell? ⟨g, 0, none⟩ = some (.slice A k c)) (hb : Below wr.heap.size wr W) => H2 W wr.heap.size g hc hb.size (hsA.below hb)
          have R3 := fun W g (hc : W.cell? ⟨g, 0, none⟩ = some (.slice A' k c')) (hb : Below wr.heap.size wr W) => H3 W wr.heap.size g hc hb.size (hsA'.below hb)
          have RK := fun W (hb : Below wr.heap.size wr W) => Lib.hid ((knownCrc_any W).mono (R' := fun (e : Ending) w' => e = .returned (.bool true) ∧ Below wr.heap.size wr w') fun e w' h => ⟨h.1, hb.trans (h.2.mono hb.size)⟩)
          clear hs1 hd hd2 hk hlt h500 hn hc1 hc2
          clear g2 hsA hsA' hsm hsm' hzm hzm' H1 H2 H3
          go_wp2_with fail
          go_region_held3 (fun w' => True) (trivial) (first
            | (go_at_call_of 29 (Value.int IntKind.i64 (bits BinOp.xor IntKind.i64 a b)); refine (R1 _ _ ?_ ?_).out.mono ?_; go_simp; (repeat' (first | exact Below.refl _ _ | apply Below.drew | refine Below.alloc ?_ (by simp; try omega) _)); rintro e w' ⟨rfl, rfl⟩)
            | (go_at_call_of 29 (Value.int IntKind.i64 b); refine (R3 _ _ ?_ ?_).out.mono ?_; go_simp; (repeat' (first | exact Below.refl _ _ | apply Below.drew | refine Below.alloc ?_ (by simp; try omega) _)); rintro e w' ⟨rfl, rfl⟩)
            | (go_at_call_of 29 (Value.int IntKind.i64 a); refine (R2 _ _ ?_ ?_).out.mono ?_; go_simp; (repeat' (first | exact Below.refl _ _ | apply Below.drew | refine Below.alloc ?_ (by simp; try omega) _)); rintro e w' ⟨rfl, rfl⟩)
            | (go_at_call 31; refine (RK _ ?_).out.mono ?_; (repeat' (first | exact Below.refl _ _ | apply Below.drew | refine Below.alloc ?_ (by simp; try omega) _)); rintro e w3 ⟨rfl, hb4⟩))
          all_goals
            go_wp2
            go_ret
            exact ⟨by simp, hbel.trans (hb4.mono hbel.size)⟩
  by_cases hle : n ≤ n'
  · by_cases h5 : n ≤ 500
    · exact key n (by omega) hle (.inl rfl) h5
    · go_enter Try.func9, Try.ntmps9
      go_wp2
      all_goals first | (exfalso; omega) | skip
      go_ret
      exact ⟨rfl, Below.refl _ _⟩
  · by_cases h5 : n' ≤ 500
    · exact key n' (by omega) (by omega) (.inr ⟨rfl, by omega⟩) h5
    · go_enter Try.func9, Try.ntmps9
      go_wp2
      all_goals first | (exfalso; omega) | skip
      go_ret
      exact ⟨rfl, Below.refl _ _⟩

/-! ### THE ROW's STEP around the walk. -/
theorem own_crcLinear : ownKnob Try.prog.godebug = none := by kernel_rfl
theorem laidOut_crcLinear : laidOutB Try.prog = true := by kernel_rfl
set_option maxRecDepth 100000 in
theorem lifted_crcLinear (os : Os) (started : os.Started) (H : Type) (enc : TypeId × Value → H) :
    ReturnsInHanded {} Try.checked os 9 .any (Rows.crcLinearSpec.pre6 enc Try.prog Try.f9 Rows.crcLinearRow.domain false) (Rows.crcLinearSpec.post enc Try.prog Try.f9 false true false false) := by
  refine returnsInHanded_of_change (C := Try.checked) own_crcLinear started (by kernel_rfl) Try.func9
    (ChangeSpec.witness6 (enc := enc) (C := Try.checked) false ⟨#[], #[.int .i64 0, .int .i64 0, .slice none 0 0, .slice none 0 0], []⟩ 8 (by kernel_rfl) (by kernel_rfl) (by kernel_rfl) (by kernel_rfl)) ?_
  intro W base args ds gs before hval0 hW hcnd _
  have hval : ∀ (j : Nat) t v, Try.f9.params[j]? = some t → args[j]? = some v → Value.okWide Try.prog W .any base t v := hval0
  have hW' := hW
  obtain ⟨p, q, hA0, hV, rfl, hfz, hnd⟩ := hW
  have hA : DataW.TrodAll enc Try.prog W 0 (fun _ => true) true Try.f9.params.toList args.toList ds p := hA0
  rw [Try.params9] at hA hval
  obtain ⟨v0, vs0, d0, ds0, p0, q0, hargs, rfl, rfl, h0, r0⟩ := trodAll_cons hA
  obtain ⟨v1, vs1, d1, ds1, p1, q1, rfl, rfl, rfl, h1, r1⟩ := trodAll_cons r0
  obtain ⟨v2, vs2, d2, ds2, p2, q2, rfl, rfl, rfl, h2, r2⟩ := trodAll_cons r1
  obtain ⟨v3, vs3, d3, ds3, p3, q3, rfl, rfl, rfl, h3, r3⟩ := trodAll_cons r2
  obtain ⟨rfl, rfl, rfl⟩ := trodAll_nil r3
  obtain rfl : args = #[v0, v1, v2, v3] := by cases args; simp_all
  obtain ⟨rfl, rfl⟩ := trodVars_none hV
  obtain ⟨a0, rfl, rfl, rfl, w0⟩ := open_int Try.underlying3 (hval 0 3 v0 rfl rfl) h0
  obtain ⟨a1, rfl, rfl, rfl, w1⟩ := open_int Try.underlying3 (hval 1 3 v1 rfl rfl) h1
  obtain ⟨A2, n2, c2, rfl⟩ := okWide_slice Try.underlying36 (hval 2 36 v2 rfl rfl)
  have k2 := h2
  have lt2 : ∀ x ∈ p2, x.block < W.heap.size := by obtain ⟨m, hm⟩ := k2; exact DataW.trod_lt m _ _ _ hm
  obtain ⟨z2, s2⟩ := sees_bytes Try.underlying36 Try.underlying5 (by kernel_rfl) h2
  obtain ⟨A3, n3, c3, rfl⟩ := okWide_slice Try.underlying36 (hval 3 36 v3 rfl rfl)
  have k3 := h3
  have lt3 : ∀ x ∈ p3, x.block < W.heap.size := by obtain ⟨m, hm⟩ := k3; exact DataW.trod_lt m _ _ _ hm
  obtain ⟨z3, s3⟩ := sees_bytes Try.underlying36 Try.underlying5 (by kernel_rfl) h3
  clear hA0 hval0
  refine (walk_crcLinear a0 a1 A2 n2 c2 z2 A3 n3 c3 z3 W (bounds_i64 w0) (bounds_i64 w1) s2 s3).mono fun e W' ⟨he, bel⟩ => ?_
  subst he
  exact ⟨_, rfl, _, _, _, [], _, [], hW', trodAll_mk1 (shut_bool Try.underlying4 _), (trodAll_cons_mk (shut_int Try.underlying3 w0) (trodAll_cons_mk (shut_int Try.underlying3 w1) (trodAll_cons_mk (Below.trod laidOut_crcLinear (by kernel_rfl) (of_decide_eq_true (by kernel_rfl)) k2 bel lt2) (trodAll_cons_mk (Below.trod laidOut_crcLinear (by kernel_rfl) (of_decide_eq_true (by kernel_rfl)) k3 bel lt3) trodAll_mk0)))), rfl, bel.frame _, fun h => by cases h⟩

theorem over_crcLinear : Rows.crcLinearRow.holds Try.pinned (OpenSpec.ofChange Rows.crcLinearSpec) :=
  OpenClaim.holds_of_wide 9 Try.f9 rfl rfl rfl rfl rfl rfl rfl ⟨rfl, rfl, rfl, rfl, rfl⟩ rfl rfl rfl rfl rfl (by kernel_rfl) Try.func9 (by kernel_rfl)
    (of_decide_eq_true (by kernel_rfl)) (by unfold Func.isWrapper; first | (rw [if_pos (by decide +kernel)]; kernel_rfl) | (rw [if_neg (by decide +kernel)]; exact ⟨rfl, rfl⟩))
    (fun os started H enc _ => lifted_crcLinear os started H enc)

theorem proved_crcLinear : Rows.CrcLinearSaid := over_crcLinear
end Go.Proofs.Ytbjojpcgigoenaa
