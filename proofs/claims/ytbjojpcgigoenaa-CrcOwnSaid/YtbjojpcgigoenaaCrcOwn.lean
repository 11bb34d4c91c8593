/- CrcOwn holds: what is handed in is not changed. For all numbers and bytes. -/
import Derived.Test.YtbjojpcgigoenaaStr
namespace Go.Proofs.Ytbjojpcgigoenaa
open Go.ChangeShapes Go.WideShapes Go.ChangeAt Go.RowKit
open Go.ChangeMaps (open_string shut_string)

theorem walk_crcOwn (a : Int) (A : Option Addr) (n c : Nat) (z : Nat → Int) (w : World) (_ha : -9223372036854775808 ≤ a ∧ a ≤ 9223372036854775807) (h : InBytesN w A n c z) :
    Calls Try.prog 11 #[.int .i64 a, .slice A n c] w fun e w' => e = .returned (.bool true) ∧ Below w.heap.size w w' := by
  obtain ⟨⟨hs, hz, hn, hc⟩, hnil, -⟩ := h
  by_cases h0 : 500 < n
  · go_enter Try.func11, Try.ntmps11
    go_wp2
    go_ret
    exact ⟨rfl, Below.refl _ _⟩
  have hd0 : decide (500 < (n : Int)) = false := by simp; omega
  have hm : n ≤ maxLen := by unfold maxLen; omega
  have H1 := fun W A c g (hg : g = W.heap.size) (hs : Sees W W.heap.size A n fun k => .int .u8 (z k)) => Lib.hid (sum_one A n c z a W 36 g hg hs hz hm)
  have H2 := fun W A c g (hg : g = W.heap.size) (hs : Sees W W.heap.size A n fun k => .int .u8 (z k)) => Lib.hid (sum_pair A none n 0 c 0 z (fun _ => 0) a W 36 g hg hs Sees.none_ hz (fun k hk => absurd hk (by omega)) hm (by unfold maxLen; omega))
  have eS : ∀ s, Cr.sumTo s (fun _ => 0) 0 = s := fun _ => rfl
  simp only [eS] at H2
  clear eS
  generalize Cr.sumTo (Cr.sd a) z n = S at *
  clear hz hn hc
  have hnil' := Lib.hid hnil
  clear hnil
  go_enter Try.func11, Try.ntmps11
  go_wp2_with (at_builtin; go_loud (refine wpList_appendAll _ rfl _ _ 36 rfl w.heap.size 5 (.int .u8 0) 1 infoU8 rfl Try.underlying36 _ 0 (fun _ => .int .u8 0) w (World.ownsRow_made w #[] 0 (Nat.le_refl _) (by unfold maxLen; omega) rfl) ((Below.refl _ _).alloc (Nat.le_refl _) _) rfl w.heap.size A n c _ rfl hnil'.out (hs.below ((Below.refl _ _).alloc (Nat.le_refl _) _)) (fun _ _ => rfl) (by simp) (by omega) (by omega) ?_))
  intro v w1 ho1 hb1 _
  obtain ⟨A1, c1, rfl, -, -, g1, hn1⟩ := Owns.formN ho1
  have hn1' := Lib.hid hn1
  clear ho1 hn1
  go_wp2_with fail
  refine (H1 _ A1 c1 _ rfl g1).out.mono ?_
  rintro e w2 ⟨rfl, rfl⟩
  have hb2 := hb1.alloc hb1.size (.cells #[.slice A1 n c1] 36)
  have g2 := (g1.below ((Below.refl _ _).alloc (Nat.le_refl _) (.cells #[.slice A1 n c1] 36))).more (show _ ≤ (w1.alloc (.cells #[.slice A1 n c1] 36)).heap.size by simp)
  clear g1 hb1
  generalize w1.alloc (.cells #[.slice A1 n c1] 36) = w2 at *
  go_wp2_with fail
  refine (H2 _ A1 c1 _ rfl g2).out.mono ?_
  rintro e w2 ⟨rfl, rfl⟩
  have hb3 := hb2.alloc hb2.size (.cells #[.slice A1 n c1, .slice none 0 0] 36)
  have g3 := (g2.below ((Below.refl _ _).alloc (Nat.le_refl _) (.cells #[.slice A1 n c1, .slice none 0 0] 36)))
  clear g2 hb2
  generalize w2.alloc (.cells #[.slice A1 n c1, .slice none 0 0] 36) = w3 at *
  have t1 := run_text (c := c1) g3 hn1'.out
  have t2 := run_text (c := c) (hs.below hb3) hnil'.out
  clear g3 hn1'
  go_wp2_with (go_at_call 31; refine (knownCrc_any _).mono ?_; rintro e w4 ⟨rfl, hb4⟩)
  go_ret
  exact ⟨by simp, hb3.trans (hb4.mono hb3.size)⟩

/-! ### THE ROW's STEP around the walk. -/
theorem own_crcOwn : ownKnob Try.prog.godebug = none := by kernel_rfl
theorem laidOut_crcOwn : laidOutB Try.prog = true := by kernel_rfl
set_option maxRecDepth 100000 in
theorem lifted_crcOwn (os : Os) (started : os.Started) (H : Type) (enc : TypeId × Value → H) :
    ReturnsInHanded {} Try.checked os 11 .any (Rows.crcOwnSpec.pre6 enc Try.prog Try.f11 Rows.crcOwnRow.domain false) (Rows.crcOwnSpec.post enc Try.prog Try.f11 false true false false) := by
  refine returnsInHanded_of_change_sized (C := Try.checked) own_crcOwn started (by kernel_rfl) Try.func11
    (ChangeSpec.witness6 (enc := enc) (C := Try.checked) false ⟨#[], #[.int .i64 0, .slice none 0 0], []⟩ 8 (by kernel_rfl) (by kernel_rfl) (by kernel_rfl) (by kernel_rfl)) ?_
  intro W base args ds gs before hval0 hW hcnd hsz0 _
  have hval : ∀ (j : Nat) t v, Try.f11.params[j]? = some t → args[j]? = some v → Value.okWide Try.prog W .any base t v := hval0
  have hW' := hW
  obtain ⟨p, q, hA0, hV, rfl, hfz, hnd⟩ := hW
  have hA : DataW.TrodAll enc Try.prog W 0 (fun _ => true) true Try.f11.params.toList args.toList ds p := hA0
  have hsz : (DataW.weightsEach Try.prog (Try.f11.params.toList ++ Rows.crcOwnSpec.plain.varTypes Try.prog) (ds ++ gs)).all (· ≤ reachBytes) = true := hsz0
  rw [Try.params11] at hA hval hsz
  obtain ⟨v0, vs0, d0, ds0, p0, q0, hargs, rfl, rfl, h0, r0⟩ := trodAll_cons hA
  obtain ⟨v1, vs1, d1, ds1, p1, q1, rfl, rfl, rfl, h1, r1⟩ := trodAll_cons r0
  obtain ⟨rfl, rfl, rfl⟩ := trodAll_nil r1
  obtain rfl : args = #[v0, v1] := by cases args; simp_all
  obtain ⟨rfl, rfl⟩ := trodVars_none hV
  obtain ⟨a0, rfl, rfl, rfl, w0⟩ := open_int Try.underlying3 (hval 0 3 v0 rfl rfl) h0
  obtain ⟨A1, n1, c1, rfl⟩ := okWide_slice Try.underlying36 (hval 1 36 v1 rfl rfl)
  have k1 := h1
  have lt1 : ∀ x ∈ p1, x.block < W.heap.size := by obtain ⟨m, hm⟩ := k1; exact DataW.trod_lt m _ _ _ hm
  obtain ⟨z1, s1⟩ := sees_bytesn Try.underlying36 Try.underlying5 (by kernel_rfl) h1 (by kernel_rfl) (fun _ _ hd => sized_slice hsz (j := 1) (t := 36) (e := 5) rfl (congrArg some hd) Try.underlying36)
  clear hA0 hval0
  refine (walk_crcOwn a0 A1 n1 c1 z1 W (bounds_i64 w0) s1).mono fun e W' ⟨he, bel⟩ => ?_
  subst he
  exact ⟨_, rfl, _, _, _, [], _, [], hW', trodAll_mk1 (shut_bool Try.underlying4 _), (trodAll_cons_mk (shut_int Try.underlying3 w0) (trodAll_cons_mk (Below.trod laidOut_crcOwn (by kernel_rfl) (of_decide_eq_true (by kernel_rfl)) k1 bel lt1) trodAll_mk0)), rfl, bel.frame _, fun h => by cases h⟩

theorem over_crcOwn : Rows.crcOwnRow.holds Try.pinned (OpenSpec.ofChange Rows.crcOwnSpec) :=
  OpenClaim.holds_of_wide 11 Try.f11 rfl rfl rfl rfl rfl rfl rfl ⟨rfl, rfl, rfl, rfl, rfl⟩ rfl rfl rfl rfl rfl (by kernel_rfl) Try.func11 (by kernel_rfl)
    (of_decide_eq_true (by kernel_rfl)) (by unfold Func.isWrapper; first | (rw [if_pos (by decide +kernel)]; kernel_rfl) | (rw [if_neg (by decide +kernel)]; exact ⟨rfl, rfl⟩))
    (fun os started H enc _ => lifted_crcOwn os started H enc)

theorem proved_crcOwn : Rows.CrcOwnSaid := over_crcOwn
end Go.Proofs.Ytbjojpcgigoenaa
