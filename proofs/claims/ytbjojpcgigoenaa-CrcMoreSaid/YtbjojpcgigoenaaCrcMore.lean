/- CrcMore holds: a sum goes on: of bytes behind bytes it is that of the latter by that of the former. For all numbers and bytes. -/
import Derived.Test.YtbjojpcgigoenaaCrcC
namespace Go.Proofs.Ytbjojpcgigoenaa
open Go.ChangeShapes Go.WideShapes Go.ChangeAt Go.RowKit
open Go.ChangeMaps (open_string shut_string)

theorem walk_crcMore (a : Int) (A : Option Addr) (n c : Nat) (z : Nat → Int) (A' : Option Addr) (n' c' : Nat) (z' : Nat → Int) (w : World) (_ha : -9223372036854775808 ≤ a ∧ a ≤ 9223372036854775807) (h : InBytesN w A n c z) (h' : InBytesN w A' n' c' z') :
    Calls Try.prog 12 #[.int .i64 a, .slice A n c, .slice A' n' c'] w fun e w' => e = .returned (.bool true) ∧ Below w.heap.size w w' := by
  obtain ⟨⟨hs, hz, hn, hc⟩, -, hr⟩ := h
  obtain ⟨⟨hs', hz', hn', hc'⟩, -, hr'⟩ := h'
  by_cases h0 : 1000 < n + n'
  · have hd : decide (1000 < (n : Int) + n') = true := by simp; omega
    go_enter Try.func12, Try.ntmps12
    go_wp2
    go_ret
    exact ⟨rfl, Below.refl _ _⟩
  have hm : n ≤ maxLen := by unfold maxLen; omega
  have hm' : n' ≤ maxLen := by unfold maxLen; omega
  have hd : decide (1000 < (n : Int) + n') = false := by simp; omega
  have hl := Cr.sumTo_lt (Cr.sd_lt a) z n
  have H1 := Lib.hid (sum_pair A A' n n' c c' z z' a w 36 w.heap.size rfl hs hs' hz hz' hm hm')
  have H2 := fun W (hs : Sees W W.heap.size A n fun k => .int .u8 (z k)) => Lib.hid (sum_one A n c z a W 36 W.heap.size rfl hs hz hm)
  generalize hS : Cr.sumTo (Cr.sd a) z n = S at *
  have H3 := fun W (hs : Sees W W.heap.size A' n' fun k => .int .u8 (z' k)) => Lib.hid (sum_one A' n' c' z' S W 36 W.heap.size rfl hs hz' hm')
  rw [Cr.sd_of hl] at H3
  generalize Cr.sumTo S z' n' = T at *
  clear hz hn hc hm hz' hn' hc' hm' hS
  go_enter Try.func12, Try.ntmps12
  go_wp2_with fail
  refine H1.out.mono ?_
  rintro e w1 ⟨rfl, rfl⟩
  have hb1 : Below w.heap.size w (w.alloc (.cells #[.slice A n c, .slice A' n' c'] 36)) := (Below.refl _ _).alloc (Nat.le_refl _) _
  generalize w.alloc (.cells #[.slice A n c, .slice A' n' c'] 36) = w1 at *
  go_wp2_with fail
  refine (H2 _ ((hs.below hb1).more hb1.size)).out.mono ?_
  rintro e w2 ⟨rfl, rfl⟩
  have hb2 : Below w.heap.size w (w1.alloc (.cells #[.slice A n c] 36)) := hb1.alloc hb1.size _
  generalize w1.alloc (.cells #[.slice A n c] 36) = w2 at *
  go_wp2_with fail
  refine (H3 _ ((hs'.below hb2).more hb2.size)).out.mono ?_
  rintro e w2 ⟨rfl, rfl⟩
  have hb3 : Below w.heap.size w (w2.alloc (.cells #[.slice A' n' c'] 36)) := hb2.alloc hb2.size _
  generalize w2.alloc (.cells #[.slice A' n' c'] 36) = w3 at *
  go_wp2_with (go_at_call 31; refine (knownCrc_any _).mono ?_; rintro e w3 ⟨rfl, hb4⟩)
  go_ret
  exact ⟨by simp, hb3.trans (hb4.mono hb3.size)⟩

/-! ### THE ROW's STEP around the walk. -/
theorem own_crcMore : ownKnob Try.prog.godebug = none := by kernel_rfl
theorem laidOut_crcMore : laidOutB Try.prog = true := by kernel_rfl
set_option maxRecDepth 100000 in
theorem lifted_crcMore (os : Os) (started : os.Started) (H : Type) (enc : TypeId × Value → H) :
    ReturnsInHanded {} Try.checked os 12 .any (Rows.crcMoreSpec.pre6 enc Try.prog Try.f12 Rows.crcMoreRow.domain false) (Rows.crcMoreSpec.post enc Try.prog Try.f12 false true false false) := by
  refine returnsInHanded_of_change_sized (C := Try.checked) own_crcMore started (by kernel_rfl) Try.func12
    (ChangeSpec.witness6 (enc := enc) (C := Try.checked) false ⟨#[], #[.int .i64 0, .slice none 0 0, .slice none 0 0], []⟩ 8 (by kernel_rfl) (by kernel_rfl) (by kernel_rfl) (by kernel_rfl)) ?_
  intro W base args ds gs before hval0 hW hcnd hsz0 _
  have hval : ∀ (j : Nat) t v, Try.f12.params[j]? = some t → args[j]? = some v → Value.okWide Try.prog W .any base t v := hval0
  have hW' := hW
  obtain ⟨p, q, hA0, hV, rfl, hfz, hnd⟩ := hW
  have hA : DataW.TrodAll enc Try.prog W 0 (fun _ => true) true Try.f12.params.toList args.toList ds p := hA0
  have hsz : (DataW.weightsEach Try.prog (Try.f12.params.toList ++ Rows.crcMoreSpec.plain.varTypes Try.prog) (ds ++ gs)).all (· ≤ reachBytes) = true := hsz0
  rw [Try.params12] at hA hval hsz
  obtain ⟨v0, vs0, d0, ds0, p0, q0, hargs, rfl, rfl, h0, r0⟩ := trodAll_cons hA
  obtain ⟨v1, vs1, d1, ds1, p1, q1, rfl, rfl, rfl, h1, r1⟩ := trodAll_cons r0
  obtain ⟨v2, vs2, d2, ds2, p2, q2, rfl, rfl, rfl, h2, r2⟩ := trodAll_cons r1
  obtain ⟨rfl, rfl, rfl⟩ := trodAll_nil r2
  obtain rfl : args = #[v0, v1, v2] := by cases args; simp_all
  obtain ⟨rfl, rfl⟩ := trodVars_none hV
  obtain ⟨a0, rfl, rfl, rfl, w0⟩ := open_int Try.underlying3 (hval 0 3 v0 rfl rfl) h0
  obtain ⟨A1, n1, c1, rfl⟩ := okWide_slice Try.underlying36 (hval 1 36 v1 rfl rfl)
  have k1 := h1
  have lt1 : ∀ x ∈ p1, x.block < W.heap.size := by obtain ⟨m, hm⟩ := k1; exact DataW.trod_lt m _ _ _ hm
  obtain ⟨z1, s1⟩ := sees_bytesn Try.underlying36 Try.underlying5 (by kernel_rfl) h1 (by kernel_rfl) (fun _ _ hd => sized_slice hsz (j := 1) (t := 36) (e := 5) rfl (congrArg some hd) Try.underlying36)
  obtain ⟨A2, n2, c2, rfl⟩ := okWide_slice Try.underlying36 (hval 2 36 v2 rfl rfl)
  have k2 := h2
  have lt2 : ∀ x ∈ p2, x.block < W.heap.size := by obtain ⟨m, hm⟩ := k2; exact DataW.trod_lt m _ _ _ hm
  obtain ⟨z2, s2⟩ := sees_bytesn Try.underlying36 Try.underlying5 (by kernel_rfl) h2 (by kernel_rfl) (fun _ _ hd => sized_slice hsz (j := 2) (t := 36) (e := 5) rfl (congrArg some hd) Try.underlying36)
  clear hA0 hval0
  refine (walk_crcMore a0 A1 n1 c1 z1 A2 n2 c2 z2 W (bounds_i64 w0) s1 s2).mono fun e W' ⟨he, bel⟩ => ?_
  subst he
  exact ⟨_, rfl, _, _, _, [], _, [], hW', trodAll_mk1 (shut_bool Try.underlying4 _), (trodAll_cons_mk (shut_int Try.underlying3 w0) (trodAll_cons_mk (Below.trod laidOut_crcMore (by kernel_rfl) (of_decide_eq_true (by kernel_rfl)) k1 bel lt1) (trodAll_cons_mk (Below.trod laidOut_crcMore (by kernel_rfl) (of_decide_eq_true (by kernel_rfl)) k2 bel lt2) trodAll_mk0))), rfl, bel.frame _, fun h => by cases h⟩

theorem over_crcMore : Rows.crcMoreRow.holds Try.pinned (OpenSpec.ofChange Rows.crcMoreSpec) :=
  OpenClaim.holds_of_wide 12 Try.f12 rfl rfl rfl rfl rfl rfl rfl ⟨rfl, rfl, rfl, rfl, rfl⟩ rfl rfl rfl rfl rfl (by kernel_rfl) Try.func12 (by kernel_rfl)
    (of_decide_eq_true (by kernel_rfl)) (by unfold Func.isWrapper; first | (rw [if_pos (by decide +kernel)]; kernel_rfl) | (rw [if_neg (by decide +kernel)]; exact ⟨rfl, rfl⟩))
    (fun os started H enc _ => lifted_crcMore os started H enc)

theorem proved_crcMore : Rows.CrcMoreSaid := over_crcMore
end Go.Proofs.Ytbjojpcgigoenaa
