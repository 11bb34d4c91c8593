/- CrcTurned holds: bytes that differ in one alone have unlike sums. For all numbers and bytes. -/
import Derived.Test.YtbjojpcgigoenaaCrcC
namespace Go.Proofs.Ytbjojpcgigoenaa
open Go.ChangeShapes Go.WideShapes Go.ChangeAt Go.RowKit
open Go.ChangeMaps (open_string shut_string)

theorem owns_form {w : World} {B n : Nat} {e : TypeId} {v : Value} {V : Nat → Value} (h : Owns w B e v n V) (h0 : 0 < n) : ∃ g c, v = .slice (some ⟨g, 0, none⟩) n c ∧ B ≤ g := by
  rcases h.2 with ⟨_, h2⟩ | ⟨g, cap, cur, h1, h2, _⟩
  · omega
  · exact ⟨g, cap, h1, h2⟩
theorem and_mask16 (a : Int) : bits BinOp.and IntKind.i64 a 65535 = (((a % 65536).toNat : Nat) : Int) := by
  show IntKind.i64.wrap ((BitVec.ofInt 64 a &&& BitVec.ofInt 64 65535).toNat : Int) = _
  rw [BitVec.toNat_and, show (BitVec.ofInt 64 65535).toNat = 2 ^ 16 - 1 by decide, Nat.and_two_pow_sub_one_eq_mod, BitVec.toNat_ofInt, IntKind.wrap_i64]
  omega
theorem xor_other (x y : Int) (hx : 0 ≤ x ∧ x < 256) (hy : 0 ≤ y ∧ y < 256) (h : y ≠ 0) : (0 ≤ bits BinOp.xor IntKind.u8 x y ∧ bits BinOp.xor IntKind.u8 x y < 256) ∧ x ≠ bits BinOp.xor IntKind.u8 x y := by
  obtain ⟨X, rfl⟩ := Int.eq_ofNat_of_zero_le hx.1
  obtain ⟨Y, rfl⟩ := Int.eq_ofNat_of_zero_le hy.1
  have hl : X ^^^ Y < 256 := Nat.xor_lt_two_pow (n := 8) (by omega) (by omega)
  rw [u8_xor_nat X Y (by omega) (by omega)]
  refine ⟨⟨by omega, by omega⟩, fun e => h ?_⟩
  have e2 : X = X ^^^ Y := by omega
  have := congrArg (X ^^^ ·) e2
  simp only [Nat.xor_self, ← Nat.xor_assoc, Nat.zero_xor] at this
  omega

set_option maxHeartbeats 400000 in
theorem walk_crcTurned (a : Int) (A : Option Addr) (n c : Nat) (z : Nat → Int) (t : Int) (y : Int) (w : World) (_ha : -9223372036854775808 ≤ a ∧ a ≤ 9223372036854775807) (h : InBytesN w A n c z) (_ht : -9223372036854775808 ≤ t ∧ t ≤ 9223372036854775807) (hy : 0 ≤ y ∧ y ≤ 255) :
    Calls Try.prog 7 #[.int .i64 a, .slice A n c, .int .i64 t, .int .u8 y] w fun e w' => e = .returned (.bool true) ∧ Below w.heap.size w w' := by
  obtain ⟨⟨hs, hz, hn, hc⟩, hnil, -⟩ := h
  by_cases h0 : n < 1
  · have hd0 : decide ((n : Int) < 1) = true := by simp; omega
    go_enter Try.func7, Try.ntmps7
    go_wp2
    go_ret
    exact ⟨rfl, Below.refl _ _⟩
  have hd0 : decide ((n : Int) < 1) = false := by simp; omega
  by_cases h1 : 1000 < n
  · have hd1 : decide ((1000 : Int) < n) = true := by simp; omega
    go_enter Try.func7, Try.ntmps7
    go_wp2
    go_ret
    exact ⟨rfl, Below.refl _ _⟩
  have hd1 : decide ((1000 : Int) < n) = false := by simp; omega
  by_cases h2 : y = 0
  · subst h2
    go_enter Try.func7, Try.ntmps7
    go_wp2
    go_ret
    exact ⟨rfl, Below.refl _ _⟩
  have hd2 : (y == 0) = false := by simpa using h2
  have hm : n ≤ maxLen := by unfold maxLen; omega
  have hmask := and_mask16 t
  obtain ⟨i, hi⟩ : ∃ i, i = (t % 65536).toNat % n := ⟨_, rfl⟩
  have hin : i < n := by rw [hi]; exact Nat.mod_lt _ (by omega)
  have hrem : (((t % 65536).toNat : Nat) : Int) % (n : Int) = (i : Int) := by rw [hi, Int.natCast_emod]
  generalize (t % 65536).toNat = T at *
  obtain ⟨⟨hx0, hx1⟩, hx2⟩ := xor_other (z i) y (hz i hin) ⟨hy.1, by omega⟩ h2
  have hzi := hz i hin
  have H1 := fun W g (hg : g = W.heap.size) (hs : Sees W W.heap.size A n fun k => .int .u8 (z k)) => Lib.hid (sum_one A n c z a W 36 g hg hs hz hm)
  have hne := Cr.sumTo_turned (Cr.sd_lt a) (z := z) (y := fun k => if k = i then bits BinOp.xor IntKind.u8 (z i) y else z k) i n hin hzi (by simp only [if_true]; exact ⟨hx0, hx1⟩) (by simpa using hx2) (fun j hj => by simp [hj])
  have H2 := fun W A c g (hg : g = W.heap.size) (hs : Sees W W.heap.size A n fun k => .int .u8 (if k = i then bits BinOp.xor IntKind.u8 (z i) y else z k)) => Lib.hid (sum_one A n c (fun k => if k = i then bits BinOp.xor IntKind.u8 (z i) y else z k) a W 36 g hg hs (fun k hk => by
    show 0 ≤ (if k = i then bits BinOp.xor IntKind.u8 (z i) y else z k) ∧ (if k = i then bits BinOp.xor IntKind.u8 (z i) y else z k) < 256
    split
    · exact ⟨hx0, hx1⟩
    · exact hz k hk) hm)
  generalize Cr.sumTo (Cr.sd a) z n = S at *
  generalize Cr.sumTo (Cr.sd a) (fun k => if k = i then bits BinOp.xor IntKind.u8 (z i) y else z k) n = U at *
  have e1 : ((S : Int) == (U : Int)) = false := by simp; omega
  have e2 : ((S : Int) != (U : Int)) = true := by simp; omega
  clear hz hn hc hne hx0 hx1 hx2 hzi h2 hi
  go_enter Try.func7, Try.ntmps7
  go_wp2_with (at_builtin; go_loud (refine wpList_appendAll _ rfl _ _ 36 rfl w.heap.size 5 (.int .u8 0) 1 infoU8 rfl Try.underlying36 _ 0 (fun _ => .int .u8 0) w (World.ownsRow_made w #[] 0 (Nat.le_refl _) (by unfold maxLen; omega) rfl) ((Below.refl _ _).alloc (Nat.le_refl _) _) rfl w.heap.size A n c _ rfl hnil (hs.below ((Below.refl _ _).alloc (Nat.le_refl _) _)) (fun _ _ => rfl) (by simp) (by omega) (by omega) ?_))
  intro v w1 ho1 hb1 _
  obtain ⟨g, c1, rfl, hg⟩ := owns_form ho1 (by omega)
  have hold := ho1.cell hin
  have hfr := ho1.frozen i
  have ho2 := ho1.set_ (V' := fun k => .int .u8 (if k = i then bits BinOp.xor IntKind.u8 (z i) y else z k)) i (.int .u8 (bits BinOp.xor IntKind.u8 (z i) y)) (by simp) (fun j _ hj => by simp [hj])
  have hb2 := hb1.setCell (p := ⟨g, i, none⟩) hg (.int .u8 (bits BinOp.xor IntKind.u8 (z i) y))
  clear ho1 hb1
  obtain ⟨A2, c2, he, -, -, g2⟩ := Owns.form ho2
  injection he with he1 _ he2
  subst he1; subst he2
  go_wp2_with fail
  refine (H1 _ _ (by simp) ((hs.below hb2).more hb2.size)).out.mono ?_
  rintro e w2 ⟨rfl, rfl⟩
  have hb3 := hb2.alloc hb2.size (.cells #[.slice A n c] 36)
  have g3 := (g2.below ((Below.refl _ _).alloc (Nat.le_refl _) (.cells #[.slice A n c] 36))).more (show _ ≤ ((w1.setCell ⟨g, i, none⟩ (.int .u8 (bits BinOp.xor IntKind.u8 (z i) y))).alloc (.cells #[.slice A n c] 36)).heap.size by simp)
  clear ho2 hold hfr hb2 g2
  generalize (w1.setCell ⟨g, i, none⟩ (.int .u8 (bits BinOp.xor IntKind.u8 (z i) y))).alloc (.cells #[.slice A n c] 36) = w2 at *
  go_wp2_with fail
  refine (H2 _ _ _ _ (by simp) g3).out.mono ?_
  rintro e w3 ⟨rfl, rfl⟩
  have hb4 := hb3.alloc hb3.size (.cells #[.slice (some ⟨g, 0, none⟩) n c1] 36)
  generalize w2.alloc (.cells #[.slice (some ⟨g, 0, none⟩) n c1] 36) = w3 at *
  go_wp2_with (go_at_call 31; refine (knownCrc_any _).mono ?_; rintro e w3 ⟨rfl, hb5⟩)
  go_ret
  exact ⟨by simp, hb4.trans (hb5.mono hb4.size)⟩

/-! ### THE ROW's STEP around the walk. -/
theorem own_crcTurned : ownKnob Try.prog.godebug = none := by kernel_rfl
theorem laidOut_crcTurned : laidOutB Try.prog = true := by kernel_rfl
set_option maxRecDepth 100000 in
theorem lifted_crcTurned (os : Os) (started : os.Started) (H : Type) (enc : TypeId × Value → H) :
    ReturnsInHanded {} Try.checked os 7 .any (Rows.crcTurnedSpec.pre6 enc Try.prog Try.f7 Rows.crcTurnedRow.domain false) (Rows.crcTurnedSpec.post enc Try.prog Try.f7 false true false false) := by
  refine returnsInHanded_of_change_sized (C := Try.checked) own_crcTurned started (by kernel_rfl) Try.func7
    (ChangeSpec.witness6 (enc := enc) (C := Try.checked) false ⟨#[], #[.int .i64 0, .slice none 0 0, .int .i64 0, .int .u8 0], []⟩ 8 (by kernel_rfl) (by kernel_rfl) (by kernel_rfl) (by kernel_rfl)) ?_
  intro W base args ds gs before hval0 hW hcnd hsz0 _
  have hval : ∀ (j : Nat) t v, Try.f7.params[j]? = some t → args[j]? = some v → Value.okWide Try.prog W .any base t v := hval0
  have hW' := hW
  obtain ⟨p, q, hA0, hV, rfl, hfz, hnd⟩ := hW
  have hA : DataW.TrodAll enc Try.prog W 0 (fun _ => true) true Try.f7.params.toList args.toList ds p := hA0
  have hsz : (DataW.weightsEach Try.prog (Try.f7.params.toList ++ Rows.crcTurnedSpec.plain.varTypes Try.prog) (ds ++ gs)).all (· ≤ reachBytes) = true := hsz0
  rw [Try.params7] at hA hval hsz
  obtain ⟨v0, vs0, d0, ds0, p0, q0, hargs, rfl, rfl, h0, r0⟩ := trodAll_cons hA
  obtain ⟨v1, vs1, d1, ds1, p1, q1, rfl, rfl, rfl, h1, r1⟩ := trodAll_cons r0
  obtain ⟨v2, vs2, d2, ds2, p2, q2, rfl, rfl, rfl, h2, r2⟩ := trodAll_cons r1
  obtain ⟨v3, vs3, d3, ds3, p3, q3, rfl, rfl, rfl, h3, r3⟩ := trodAll_cons r2
  obtain ⟨rfl, rfl, rfl⟩ := trodAll_nil r3
  obtain rfl : args = #[v0, v1, v2, v3] := by cases args; simp_all
  obtain ⟨rfl, rfl⟩ := trodVars_none hV
  obtain ⟨a0, rfl, rfl, rfl, w0⟩ := open_int Try.underlying3 (hval 0 3 v0 rfl rfl) h0
  obtain ⟨A1, n1, c1, rfl⟩ := okWide_slice Try.underlying36 (hval 1 36 v1 rfl rfl)
  have k1 := h1
  have lt1 : ∀ x ∈ p1, x.block < W.heap.size := by obtain ⟨m, hm⟩ := k1; exact DataW.trod_lt m _ _ _ hm
  obtain ⟨z1, s1⟩ := sees_bytesn Try.underlying36 Try.underlying5 (by kernel_rfl) h1 (by kernel_rfl) (fun _ _ hd => sized_slice hsz (j := 1) (t := 36) (e := 5) rfl (congrArg some hd) Try.underlying36)
  obtain ⟨a2, rfl, rfl, rfl, w2⟩ := open_int Try.underlying3 (hval 2 3 v2 rfl rfl) h2
  obtain ⟨a3, rfl, rfl, rfl, w3⟩ := open_int Try.underlying5 (hval 3 5 v3 rfl rfl) h3
  clear hA0 hval0
  refine (walk_crcTurned a0 A1 n1 c1 z1 a2 a3 W (bounds_i64 w0) s1 (bounds_i64 w2) (bounds_u8 w3)).mono fun e W' ⟨he, bel⟩ => ?_
  subst he
  exact ⟨_, rfl, _, _, _, [], _, [], hW', trodAll_mk1 (shut_bool Try.underlying4 _), (trodAll_cons_mk (shut_int Try.underlying3 w0) (trodAll_cons_mk (Below.trod laidOut_crcTurned (by kernel_rfl) (of_decide_eq_true (by kernel_rfl)) k1 bel lt1) (trodAll_cons_mk (shut_int Try.underlying3 w2) (trodAll_cons_mk (shut_int Try.underlying5 w3) trodAll_mk0)))), rfl, bel.frame _, fun h => by cases h⟩

theorem over_crcTurned : Rows.crcTurnedRow.holds Try.pinned (OpenSpec.ofChange Rows.crcTurnedSpec) :=
  OpenClaim.holds_of_wide 7 Try.f7 rfl rfl rfl rfl rfl rfl rfl ⟨rfl, rfl, rfl, rfl, rfl⟩ rfl rfl rfl rfl rfl (by kernel_rfl) Try.func7 (by kernel_rfl)
    (of_decide_eq_true (by kernel_rfl)) (by unfold Func.isWrapper; first | (rw [if_pos (by decide +kernel)]; kernel_rfl) | (rw [if_neg (by decide +kernel)]; exact ⟨rfl, rfl⟩))
    (fun os started H enc _ => lifted_crcTurned os started H enc)

theorem proved_crcTurned : Rows.CrcTurnedSaid := over_crcTurned
end Go.Proofs.Ytbjojpcgigoenaa
