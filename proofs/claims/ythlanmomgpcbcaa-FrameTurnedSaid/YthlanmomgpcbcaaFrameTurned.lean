/- FrameTurned holds: a frame with a byte behind the first ones turned, all of its length as it was, is not read. For all frames, numbers and bytes. -/
import Derived.Test.YthlanmomgpcbcaaFrP
namespace Go.Proofs.Ythlanmomgpcbcaa
open Go.ChangeShapes Go.WideShapes Go.ChangeAt Go.RowKit
open Go.ChangeMaps (open_string shut_string)
open Fr (St F)

set_option maxRecDepth 100000 in
set_option maxHeartbeats 4000000 in
theorem walk_frameTurned (f : F) (v : Value) (t y : Int) (w : World) (h : InFrame w f v) (_ht : -9223372036854775808 ≤ t ∧ t ≤ 9223372036854775807) (hy : 0 ≤ y ∧ y ≤ 255) :
    Calls Try.prog 7 #[frV f v, .int .i64 t, .int .u8 y] w fun e w' => e = .returned (.bool true) ∧ Below w.heap.size w w' := by
  obtain ⟨hv, hd, -, -, hreach⟩ := h
  obtain ⟨A, c, rfl, c1, c2, -, -⟩ := hv.at_
  have R4 := fun W (hb : Below w.heap.size w W) => Lib.hid (is_ref f _ W w.heap.size (hv.below hb))
  cases hi : f.is
  · rw [hi] at R4
    unfold frV at R4 ⊢
    clear hi
    go_enter Try.func7, Try.ntmps7
    go_wp2_with fail
    refine (R4 _ ((Below.refl _ _).alloc (Nat.le_refl _) _)).out.mono ?_
    rintro e w1 ⟨rfl, hb⟩
    have hb := ((Below.refl w.heap.size w).alloc (Nat.le_refl _) _).trans (hb.mono (by simp))
    go_wp2
    go_ret
    exact ⟨rfl, hb⟩
  rw [hi] at R4
  by_cases hy0 : y = 0
  · subst hy0
    unfold frV at R4 ⊢
    clear hi
    go_enter Try.func7, Try.ntmps7
    go_wp2_with fail
    refine (R4 _ ((Below.refl _ _).alloc (Nat.le_refl _) _)).out.mono ?_
    rintro e w1 ⟨rfl, hb⟩
    have hb := ((Below.refl w.heap.size w).alloc (Nat.le_refl _) _).trans (hb.mono (by simp))
    go_wp2
    go_ret
    exact ⟨rfl, hb⟩
  have hyb : (y == 0) = false := by simpa using hy0
  have R1 := fun W (hb : Below w.heap.size w W) => encode_dev f _ W ((hv.below hb).more hb.size) hd
  obtain ⟨⟨k1, k3⟩, hmay, hlen⟩ := f.is_iff.1 hi
  have hLl := f.bytes_length
  have hLb : bytesL f.bytes := F.bytes_ok hi hd
  have hhl : 2 ≤ f.hl ∧ f.hl ≤ 6 := by unfold F.hl; split <;> omega
  unfold Enc at R1
  rw [(encR_is hi).1, (encR_is hi).2] at R1
  have hmask := mask16 t
  obtain ⟨T, hT⟩ : ∃ T, T = (t % 65536).toNat := ⟨_, rfl⟩
  rw [← hT] at hmask
  obtain ⟨i0, hi0⟩ : ∃ i0, i0 = T % (f.d.length + 2) := ⟨_, rfl⟩
  have hi1 : i0 < f.d.length + 2 := by rw [hi0]; exact Nat.mod_lt _ (by omega)
  have hrem : ((T : Nat) : Int) % ((f.d.length : Nat) + 2 : Int) = (i0 : Int) := by rw [hi0, Int.natCast_emod]; rfl
  have hxg := hLb.getD (f.hl + i0)
  obtain ⟨hx0, hx1⟩ := xor_byte (f.bytes.getD (f.hl + i0) 0) y hxg ⟨hy.1, by omega⟩ hy0
  have hX : ∃ X, X = f.bytes.getD (f.hl + i0) 0 := ⟨_, rfl⟩
  obtain ⟨hF, hS⟩ := Fr.turned hi hd f.st hmay (fun _ => rfl) (i := f.hl + i0) (by omega) (by omega) _ hx0 hx1
  have hErr : Fr.err (f.bytes.set (f.hl + i0) (bits BinOp.xor IntKind.u8 (f.bytes.getD (f.hl + i0) 0) y)) f.st = 3 := by rw [Fr.err, hF, hS]; rfl
  have R2 := fun V W (hs : SeesL W W.heap.size V _) => decode_dev V (f.bytes.set (f.hl + i0) (bits BinOp.xor IntKind.u8 (f.bytes.getD (f.hl + i0) 0) y)) f.st W hs (hLb.set _ hx0)
  unfold Dec at R2
  rw [hErr] at R2
  obtain ⟨X, hX⟩ := hX
  rw [← hX] at R2
  have HX := Lib.hid hX
  clear hX
  have R1 := fun W hb => Lib.hid (R1 W hb)
  have R2 := fun V W hs => Lib.hid (R2 V W hs)
  generalize hl : f.hl = H at *
  generalize f.bytes = L at *
  generalize Fr.res (L.set (H + i0) (bits BinOp.xor IntKind.u8 X y)) f.st = Z at *
  have hLl1 : H + f.d.length + 2 ≤ L.length := by omega
  have hLl2 : L.length ≤ H + f.d.length + 2 := by omega
  have hL := Lib.hid hLl
  clear hi hl hLl hErr hF hS hx0 hx1 hxg hLb hi0 hT hmay hy0
  unfold frV at R1 R2 R4 ⊢
  unfold stV at R2
  go_enter Try.func7, Try.ntmps7
  go_wp2_with fail
  have hbox := Lib.hid (box5 w (.int .i64 f.k) (.int .i64 f.st.r) (.int .i64 f.st.s) (.int .i64 f.st.m) (.slice A f.d.length c) 26)
  generalize w.alloc (.cells #[.int .i64 f.k, .int .i64 f.st.r, .int .i64 f.st.s, .int .i64 f.st.m, .slice A f.d.length c] 26) = w0 at *
  have hz0 : w0.heap.size ≤ w.heap.size + 1 ∧ w.heap.size + 1 ≤ w0.heap.size := by have := hbox.out.size; omega
  refine (R4 _ hbox.out.below).out.mono ?_
  rintro e wa ⟨rfl, hb0⟩
  obtain ⟨z0, c00, c01, c02, c03, c04⟩ := hbox.out.cell wa hb0
  go_wp2_with fail
  refine (R1 _ (hbox.out.below.trans (hb0.mono (by omega)))).out.mono ?_
  rintro e w1 ⟨v1, rfl, ho1, hb⟩
  have hb1 := hb0.trans (hb.mono hb0.size)
  obtain ⟨z1, c10, c11, c12, c13, c14⟩ := hbox.out.cell w1 hb1
  obtain ⟨g, d1, rfl, hg⟩ := ho1.block (by omega)
  have hg0 : w0.heap.size ≤ g := by have := hb0.size; omega
  have hcl := ho1.cell rfl (i := H + i0) (by omega)
  rw [← HX.out] at hcl
  have hfz := ho1.frozen rfl (H + i0)
  have ho2 := ho1.set rfl (H + i0) (bits BinOp.xor IntKind.u8 X y) (by omega)
  have hb2 := hb1.setCell (p := ⟨g, H + i0, none⟩) hg0 (.int .u8 (bits BinOp.xor IntKind.u8 X y))
  obtain ⟨-, x20, x21, x22, x23, x24⟩ := hbox.out.cell _ hb2
  have hs2 := Lib.hid ho2.sees
  have p1 : (H + i0 : Nat) < L.length := by omega
  have p2 : ((L.length : Nat) : Int) - 2 - (f.d.length : Nat) = H := by omega
  have p3 : ((L.length : Nat) : Int) - H = (f.d.length : Nat) + 2 := by omega
  clear R1 R4 hb0 hb ho1 ho2 c00 c01 c02 c03 c04
  go_wp2_with fail
  refine (R2 _ _ hs2.out).out.mono ?_
  rintro e w3 ⟨v3, rfl, ho3, hb3⟩
  obtain ⟨A3, d3, rfl, -⟩ := ho3.sees.at_
  have hb4 := hbox.out.below.trans ((hb2.trans (hb3.mono hb2.size)).mono (by omega))
  clear R2 ho3 hb3 hs2 hb2 x20 x21 x22 x23 x24
  go_wp2_with (go_at_call 22; refine (knownFr_any _).mono ?_; rintro e w5 ⟨rfl, hb5⟩)
  go_ret
  have hb6 := hb4.alloc hb4.size (.cells #[.int .i64 Z.k, .int .i64 Z.st.r, .int .i64 Z.st.s, .int .i64 Z.st.m, .slice A3 Z.d.length d3] 26)
  exact ⟨by simp, hb6.trans (hb5.mono hb6.size)⟩

/-! ### THE ROW's STEP around the walk. -/
theorem own_frameTurned : ownKnob Try.prog.godebug = none := by kernel_rfl
theorem laidOut_frameTurned : laidOutB Try.prog = true := by kernel_rfl
set_option maxRecDepth 100000 in
theorem lifted_frameTurned (os : Os) (started : os.Started) (H : Type) (enc : TypeId × Value → H) :
    ReturnsInHanded {} Try.checked os 7 .any (Rows.frameTurnedSpec.pre6 enc Try.prog Try.f7 Rows.frameTurnedRow.domain false) (Rows.frameTurnedSpec.post enc Try.prog Try.f7 false true false false) := by
  refine returnsInHanded_of_change_sized (C := Try.checked) own_frameTurned started (by kernel_rfl) Try.func7
    (ChangeSpec.witness6 (enc := enc) (C := Try.checked) false ⟨#[], #[.agg #[.int .i64 0, .int .i64 0, .int .i64 0, .int .i64 0, .slice none 0 0], .int .i64 0, .int .u8 0], []⟩ 8 (by kernel_rfl) (by kernel_rfl) (by kernel_rfl) (by kernel_rfl)) ?_
  intro W base args ds gs before hval0 hW hcnd hsz0 _
  have hval : ∀ (j : Nat) t v, Try.f7.params[j]? = some t → args[j]? = some v → Value.okWide Try.prog W .any base t v := hval0
  have hW' := hW
  obtain ⟨p, q, hA0, hV, rfl, hfz, hnd⟩ := hW
  have hA : DataW.TrodAll enc Try.prog W 0 (fun _ => true) true Try.f7.params.toList args.toList ds p := hA0
  have hsz : (DataW.weightsEach Try.prog (Try.f7.params.toList ++ Rows.frameTurnedSpec.plain.varTypes Try.prog) (ds ++ gs)).all (· ≤ reachBytes) = true := hsz0
  rw [Try.params7] at hA hval hsz
  obtain ⟨v0, vs0, d0, ds0, p0, q0, hargs, rfl, rfl, h0, r0⟩ := trodAll_cons hA
  obtain ⟨v1, vs1, d1, ds1, p1, q1, rfl, rfl, rfl, h1, r1⟩ := trodAll_cons r0
  obtain ⟨v2, vs2, d2, ds2, p2, q2, rfl, rfl, rfl, h2, r2⟩ := trodAll_cons r1
  obtain ⟨rfl, rfl, rfl⟩ := trodAll_nil r2
  obtain rfl : args = #[v0, v1, v2] := by cases args; simp_all
  obtain ⟨rfl, rfl⟩ := trodVars_none hV
  obtain ⟨y0, x0, rfl, s0⟩ := sees_frame Try.underlying26 (by kernel_rfl) ⟨rfl, rfl⟩ ⟨rfl, rfl⟩ ⟨rfl, rfl⟩ Try.underlying23 (by kernel_rfl) ⟨rfl, rfl⟩ ⟨rfl, rfl⟩ ⟨rfl, rfl⟩ Try.underlying3 (by kernel_rfl) Try.underlying24 Try.underlying5 (by kernel_rfl) (by kernel_rfl) (by kernel_rfl) (hval 0 26 v0 rfl rfl) (fun n hn => of_decide_eq_true (List.all_eq_true.1 hsz _ (DataW.weights_mem_each (j := 0) rfl rfl n hn))) h0
  have k0 := h0
  have lt0 : ∀ x ∈ p0, x.block < W.heap.size := by obtain ⟨m, hm⟩ := k0; exact DataW.trod_lt m _ _ _ hm
  obtain ⟨a1, rfl, rfl, rfl, w1⟩ := open_int Try.underlying3 (hval 1 3 v1 rfl rfl) h1
  obtain ⟨a2, rfl, rfl, rfl, w2⟩ := open_int Try.underlying5 (hval 2 5 v2 rfl rfl) h2
  clear hA0 hval0
  refine (walk_frameTurned y0 x0 a1 a2 W s0 (bounds_i64 w1) (bounds_u8 w2)).mono fun e W' ⟨he, bel⟩ => ?_
  subst he
  exact ⟨_, rfl, _, _, _, [], _, [], hW', trodAll_mk1 (shut_bool Try.underlying4 _), (trodAll_cons_mk (Below.trod laidOut_frameTurned (by kernel_rfl) (of_decide_eq_true (by kernel_rfl)) k0 bel lt0) (trodAll_cons_mk (shut_int Try.underlying3 w1) (trodAll_cons_mk (shut_int Try.underlying5 w2) trodAll_mk0))), rfl, bel.frame _, fun h => by cases h⟩

theorem over_frameTurned : Rows.frameTurnedRow.holds Try.pinned (OpenSpec.ofChange Rows.frameTurnedSpec) :=
  OpenClaim.holds_of_wide 7 Try.f7 rfl rfl rfl rfl rfl rfl rfl ⟨rfl, rfl, rfl, rfl, rfl⟩ rfl rfl rfl rfl rfl (by kernel_rfl) Try.func7 (by kernel_rfl)
    (of_decide_eq_true (by kernel_rfl)) (by unfold Func.isWrapper; first | (rw [if_pos (by decide +kernel)]; kernel_rfl) | (rw [if_neg (by decide +kernel)]; exact ⟨rfl, rfl⟩))
    (fun os started H enc _ => lifted_frameTurned os started H enc)

theorem proved_frameTurned : Rows.FrameTurnedSaid := over_frameTurned
end Go.Proofs.Ythlanmomgpcbcaa
