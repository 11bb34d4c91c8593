/- TableBack holds: a table comes back as it was; cut short, or with more behind, it is none. For all tables, numbers and bytes. -/
import Derived.Test.YtpkdfdlchidmlaaTbM
import Derived.Test.YtpkdfdlchidmlaaTbS
import Derived.Test.YtpkdfdlchidmlaaTbL
import Derived.Test.YtpkdfdlchidmlaaTbO
namespace Go.Proofs.Ytpkdfdlchidmlaa
open Go.ChangeShapes Go.WideShapes Go.ChangeAt Go.RowKit
open Go.ChangeMaps (open_string shut_string)
open Tb (D T)

theorem bytesL.take {l : List Int} (h : bytesL l) (k : Nat) : bytesL (l.take k) := fun x hx => h x (List.mem_of_mem_take hx)
theorem bytesL.snoc {l : List Int} (h : bytesL l) {y : Int} (hy : 0 ≤ y ∧ y < 256) : bytesL (l ++ [y]) := fun x hx => by
  rcases List.mem_append.1 hx with h1 | h1
  · exact h x h1
  · simp at h1; subst h1; exact hy

set_option maxRecDepth 100000 in
set_option maxHeartbeats 4000000 in
theorem walk_tableBack (t : T) (v : Value) (cut y : Int) (w : World) (h : InTable w t v) (_h1 : -9223372036854775808 ≤ cut ∧ cut ≤ 9223372036854775807) (hy : 0 ≤ y ∧ y ≤ 255) :
    Calls Try.prog 5 #[tabV t v, .int .i64 cut, .int .u8 y] w fun e w' => e = .returned (.bool true) ∧ Below w.heap.size w w' := by
  obtain ⟨hv, -, -, -⟩ := h
  have R0 := fun W (hb : Below w.heap.size w W) => is_rf t v W w.heap.size hb.size (hv.below hb)
  have R1 := fun W (hb : Below w.heap.size w W) => pack_tb t v W w.heap.size hb.size (hv.below hb)
  have R4 := fun u W (hb : Below w.heap.size w W) (h : SeesT W W.heap.size u t.ns) => same_rf t t v u W W.heap.size (Nat.le_refl _) ((hv.below hb).more hb.size) h
  obtain ⟨A, c, rfl, c1, c2, -, -⟩ := hv.at_
  have hbx := fun o => (Below.refl w.heap.size w).alloc (Nat.le_refl _) o
  by_cases h0 : 50 < t.ns.length
  · have q1 : decide ((50 : Int) < (t.ns.length : Nat)) = true := by simp; omega
    unfold tabV
    go_enter Try.func5, Try.ntmps5
    go_wp2
    go_ret
    exact ⟨rfl, hbx _⟩
  have q1 : decide ((50 : Int) < (t.ns.length : Nat)) = false := by simp; omega
  cases hi : t.is
  · rw [hi] at R0
    have R0 := fun W hb => Lib.hid (R0 W hb)
    unfold tabV at R0 ⊢
    clear hv hi R1 R4
    go_enter Try.func5, Try.ntmps5
    go_wp2_with fail
    refine (R0 _ (hbx _)).out.mono ?_
    rintro e w1 ⟨rfl, hb⟩
    have hbb := (hbx _).trans (hb.mono (hbx _).size)
    go_wp2
    go_ret
    exact ⟨rfl, hbb⟩
  have hlen := t.bytes_length
  have hm := Tb.T.may hi
  have hN1 := hm.n4
  have hN2 := hm.n8
  have hbk := Tb.back hi
  have hok : bytesL t.bytes := Tb.bytes_ok hi
  have hcut := fun k hk => Tb.cut_bad (t := t) k hk
  have hmore := Tb.more_bad (t := t) y
  unfold Pk pkR pkE at R1
  simp only [hi, if_true] at R0 R1
  simp only [decide_true] at R4
  generalize t.bytes = L at *
  have U1 := fun u W (h : SeesL W W.heap.size u L) => unpack_tb u L W h hok
  have U2 := fun k (_ : k < L.length) u W (h : SeesL W W.heap.size u (L.take k)) => unpack_tb u (L.take k) W h (hok.take k)
  have U3 := fun u W (h : SeesL W W.heap.size u (L ++ [y])) => unpack_tb u (L ++ [y]) W h (hok.snoc (by omega))
  unfold Un at U1 U2 U3
  rw [hbk.1, hbk.2] at U1
  rw [hmore.1, hmore.2] at U3
  have U2' : ∀ k, k < L.length → ∀ u W, SeesL W W.heap.size u (L.take k) → Hid (Calls Try.prog 19 #[u] W fun e w' => ∃ v, e = .returned (.tuple #[tabV Tb.zero v, .int .i64 2]) ∧ OwnsD w' W.heap.size v Tb.zero.ns ∧ Below W.heap.size W w') := by
    intro k hk u W h
    have := U2 k hk u W h
    rw [(hcut k hk).1, (hcut k hk).2] at this
    exact this
  clear U2 hcut hmore hbk hi hm
  obtain ⟨ns, dr, wi, lm⟩ := t
  simp only at hlen hN1 hN2 h0 c1 q1
  unfold Tb.zero at U2' U3
  unfold tabV at R0 R1 R4 U1 U2' U3 ⊢
  simp only at R0 R1 R4 U1 U2' U3 ⊢
  have R0 := fun W hb => Lib.hid (R0 W hb)
  have R1 := fun W hb => Lib.hid (R1 W hb)
  have R4 := fun u W hb h => Lib.hid (R4 u W hb h)
  have U1 := fun u W h => Lib.hid (U1 u W h)
  have U3 := fun u W h => Lib.hid (U3 u W h)
  obtain ⟨N, hN⟩ : ∃ N, N = L.length := ⟨_, rfl⟩
  have hmask := mask16 cut
  obtain ⟨K, hK⟩ : ∃ K, K = (cut % 65536).toNat := ⟨_, rfl⟩
  rw [← hK] at hmask
  obtain ⟨i0, hi0⟩ : ∃ i0, i0 = K % N := ⟨_, rfl⟩
  have hi1 : i0 < N := by rw [hi0]; exact Nat.mod_lt _ (by omega)
  have hrem : ((K : Nat) : Int) % ((N : Nat) : Int) = (i0 : Int) := by rw [hi0, Int.natCast_emod]
  have hNL := Lib.hid hN
  have hNb : 27 ≤ N ∧ N ≤ 43 := by omega
  have hT0 := Blk.new w _ rfl #[.slice A ns.length c, .int .i64 dr, .int .i64 wi, .int .i64 lm] 24
  have hb0 := hbx (.cells #[.slice A ns.length c, .int .i64 dr, .int .i64 wi, .int .i64 lm] 24)
  clear hv hlen hK hi0 hN hok hbx
  go_enter Try.func5, Try.ntmps5
  go_wp2_with fail
  generalize w.alloc (.cells #[.slice A ns.length c, .int .i64 dr, .int .i64 wi, .int .i64 lm] 24) = w0 at *
  refine (R0 w0 hb0).out.mono ?_
  rintro e w1 ⟨rfl, hb⟩
  have hb1 := hb0.trans (hb.mono hb0.size)
  have hT1 := hT0.below hb hT0.lt
  have t0 := hT1.cell 0 rfl
  have t1 := hT1.cell 1 rfl
  have t2 := hT1.cell 2 rfl
  have t3 := hT1.cell 3 rfl
  clear hb hT0 R0
  go_wp2_with fail
  refine (R1 w1 hb1).out.mono ?_
  rintro e w2 ⟨p, rfl, ho2, hb⟩
  have hb2 := hb1.trans (hb.mono hb1.size)
  have hT2 := hT1.below hb hT1.lt
  obtain ⟨g, d, rfl, hgb, hgc⟩ : ∃ g d, p = .slice (some ⟨g, 0, none⟩) N d ∧ w1.heap.size ≤ g ∧ N ≤ d := by
    rcases ho2.2 with ⟨-, h2⟩ | ⟨g, cap, cur, h1, h2, h3, h4, -⟩
    · have := hNL.out; omega
    · exact ⟨g, cap, by rw [h1, hNL.out], h2, by rw [hNL.out]; exact h4⟩
  clear hb hT1 R1 t0 t1 t2 t3
  have hs2 := ho2.sees
  have hs2k := ho2.first i0 (by have := hNL.out; omega)
  have qN : ¬ N = 0 := by omega
  go_wp2_with fail
  refine (U1 _ w2 hs2).out.mono ?_
  rintro e w3 ⟨v3, rfl, ho3, hb⟩
  obtain ⟨A3, d3, rfl, -⟩ := ho3.sees.at_
  have hbB := hb.alloc hb.size (.cells #[.slice A3 ns.length d3, .int .i64 dr, .int .i64 wi, .int .i64 lm] 24)
  have hU := Blk.new w3 _ rfl #[.slice A3 ns.length d3, .int .i64 dr, .int .i64 wi, .int .i64 lm] 24
  have hSU := (ho3.sees.below ((Below.refl _ _).alloc (Nat.le_refl _) (.cells #[.slice A3 ns.length d3, .int .i64 dr, .int .i64 wi, .int .i64 lm] 24))).more (B' := (w3.alloc (.cells #[.slice A3 ns.length d3, .int .i64 dr, .int .i64 wi, .int .i64 lm] 24)).heap.size) (by simp)
  clear U1 ho3 hb
  have p1 : (0 : Int) ≤ (i0 : Nat) := by omega
  have p2 : ((i0 : Nat) : Int) ≤ (d : Nat) := by omega
  go_wp2_with fail
  generalize w3.alloc (.cells #[.slice A3 ns.length d3, .int .i64 dr, .int .i64 wi, .int .i64 lm] 24) = wb at *
  refine (U2' i0 (by have := hNL.out; omega) _ wb ((hs2k.below hbB).more hbB.size)).out.mono ?_
  rintro e w4 ⟨v4, rfl, ho4, hb⟩
  obtain ⟨A4, d4, rfl⟩ : ∃ A d, v4 = .slice A 0 d := by
    obtain ⟨A, d, h, -⟩ := ho4.sees.at_
    exact ⟨A, d, h⟩
  have hb4 := hbB.trans (hb.mono hbB.size)
  have hU4 := (hU.below hb hU.lt)
  have hSU4 := (hSU.below hb).more hb.size
  have hb4a := hb4.alloc hb4.size (.cells #[.slice A4 0 d4, .int .i64 0, .int .i64 0, .int .i64 0] 24)
  have hU4a := hU4.alloc (.cells #[.slice A4 0 d4, .int .i64 0, .int .i64 0, .int .i64 0] 24)
  have hSU4a := (hSU4.below ((Below.refl _ _).alloc (Nat.le_refl _) (.cells #[.slice A4 0 d4, .int .i64 0, .int .i64 0, .int .i64 0] 24))).more (B' := (w4.alloc (.cells #[.slice A4 0 d4, .int .i64 0, .int .i64 0, .int .i64 0] 24)).heap.size) (by simp)
  clear U2' ho4 hb hU hSU hU4 hSU4 hs2k
  have hcell := (Lib.hid ho2)
  have hE := owns_empty (w4.alloc (.cells #[.slice A4 0 d4, .int .i64 0, .int .i64 0, .int .i64 0] 24)) 5 rfl w2.heap.size _ hb4a.size rfl
  have hb5 := hb4a.alloc hb4a.size (.cells #[] 5)
  have hU5 := hU4a.alloc (.cells #[] 5)
  have hSU5 := hSU4a.below ((Below.refl _ _).alloc (Nat.le_refl _) (.cells #[] 5))
  have hsb5 := hs2.below hb5
  have hLN : L.length ≤ 43 := by have := hNL.out; omega
  have hLN2 : L.length = N := hNL.out.symm
  have hE' : OwnsL ((w4.alloc (.cells #[.slice A4 0 d4, .int .i64 0, .int .i64 0, .int .i64 0] 24)).alloc (.cells #[] 5)) w2.heap.size (.slice (some ⟨w4.heap.size + 1, 0, none⟩) 0 0) [] := by simpa using hE
  have hLN3 := Lib.hid hLN2
  clear hLN2 hE
  go_wp2_with (at_builtin; go_loud (refine wpList_pushL _ rfl (.tmp 53) (.tmp 54) 25 rfl w2.heap.size infoU8 Try.underlying25 _ [] hE' rfl _ _ L rfl hsb5 hb5.size (by simp; omega) ?_))
  intro v6 w6 ho6 hx6
  have ho6 : OwnsL w6 w2.heap.size v6 L := by simpa using ho6
  have hb6 := hb5.trans (hx6.toBelow (B := w2.heap.size) hb5.size (fun j hj => by simp [Value.ownBlock] at hj; have := hb4.size; omega))
  have hsY := sees_lit w6 5 #[.int .u8 y] [y] rfl (w6.heap.size + 1) (by simp) (by simp [maxLen]) w6.heap.size 1 1 rfl rfl rfl
  clear hcell hE' hsb5 hs2
  go_wp2_with (at_builtin; go_loud (refine wpList_pushL _ rfl (.tmp 55) (.tmp 57) 25 rfl w2.heap.size infoU8 Try.underlying25 v6 L (ho6.alloc _) rfl _ _ [y] rfl hsY (by simp; have := hb6.size; omega) (by simp; omega) ?_))
  intro v7 w7 ho7 hx7
  have hx67 := hx6.trans (((Ext.refl w6 v6).alloc (.cells #[.int .u8 y] 5)).trans hx7)
  have hbq := hx67.toBelow (B := (w4.alloc (.cells #[.slice A4 0 d4, .int .i64 0, .int .i64 0, .int .i64 0] 24)).heap.size) (by simp) (fun j hj => by simp [Value.ownBlock] at hj; simp; omega)
  have hb7 := hb5.trans (hbq.mono hb4a.size)
  have hU7 := hU5.below hbq (by have := hU4a.lt; exact this)
  have hSU7 := hSU5.below hbq
  have hs7 := ho7.sees
  clear hx6 hx7 hx67 ho6 hsY hU5 hSU5 hb6
  go_wp2_with fail
  refine (U3 v7 w7 hs7).out.mono ?_
  rintro e w8 ⟨v8, rfl, ho8, hb⟩
  obtain ⟨A8, d8, rfl⟩ : ∃ A d, v8 = .slice A 0 d := by
    obtain ⟨A, d, h, -⟩ := ho8.sees.at_
    exact ⟨A, d, h⟩
  have hb8 := hb7.trans (hb.mono hb7.size)
  have hU8 := (hU7.below hb hU7.lt).alloc (.cells #[.slice A8 0 d8, .int .i64 0, .int .i64 0, .int .i64 0] 24)
  have hb8a := hb8.alloc hb8.size (.cells #[.slice A8 0 d8, .int .i64 0, .int .i64 0, .int .i64 0] 24)
  have hT8 := hT2.below hb8a hT2.lt
  have hbz := hb2.trans (hb8a.mono hb2.size)
  have hz7 : (w4.alloc (.cells #[.slice A4 0 d4, .int .i64 0, .int .i64 0, .int .i64 0] 24)).heap.size ≤ w7.heap.size := by have := hbq.size; simp at this ⊢; omega
  have hz8 := Nat.le_trans hz7 hb.size
  have hSU8 := ((hSU7.below (hb.mono hz7)).below (((Below.refl w8.heap.size w8).alloc (Nat.le_refl _) (.cells #[.slice A8 0 d8, .int .i64 0, .int .i64 0, .int .i64 0] 24)).mono hz8)).more (B' := (w8.alloc (.cells #[.slice A8 0 d8, .int .i64 0, .int .i64 0, .int .i64 0] 24)).heap.size) (Nat.le_trans hz8 (by simp))
  have t0 := hT8.cell 0 rfl
  have t1 := hT8.cell 1 rfl
  have t2 := hT8.cell 2 rfl
  have t3 := hT8.cell 3 rfl
  have u0 := hU8.cell 0 rfl
  have u1 := hU8.cell 1 rfl
  have u2 := hU8.cell 2 rfl
  have u3 := hU8.cell 3 rfl
  clear U3 ho8 hs7 hSU7 hU7 hT2 ho7 hT8 hU8
  go_wp2_with fail
  refine (R4 _ _ hbz hSU8).out.mono ?_
  rintro e w9 ⟨rfl, hb9⟩
  have hbf := hbz.trans (hb9.mono hbz.size)
  go_wp2_with (go_at_call 18; refine (known_tb _).mono ?_; rintro e wf ⟨rfl, hb6⟩)
  go_ret
  exact ⟨by simp, hbf.trans (hb6.mono hbf.size)⟩

/-! ### THE ROW's STEP around the walk. -/
theorem own_tableBack : ownKnob Try.prog.godebug = none := by kernel_rfl
theorem laidOut_tableBack : laidOutB Try.prog = true := by kernel_rfl
set_option maxRecDepth 100000 in
theorem lifted_tableBack (os : Os) (started : os.Started) (H : Type) (enc : TypeId × Value → H) :
    ReturnsInHanded {} Try.checked os 5 .any (Rows.tableBackSpec.pre6 enc Try.prog Try.f5 Rows.tableBackRow.domain false) (Rows.tableBackSpec.post enc Try.prog Try.f5 false true false false) := by
  refine returnsInHanded_of_change (C := Try.checked) own_tableBack started (by kernel_rfl) Try.func5
    (ChangeSpec.witness6 (enc := enc) (C := Try.checked) false ⟨#[], #[.agg #[.slice none 0 0, .int .i64 0, .int .i64 0, .int .i64 0], .int .i64 0, .int .u8 0], []⟩ 8 (by kernel_rfl) (by kernel_rfl) (by kernel_rfl) (by kernel_rfl)) ?_
  intro W base args ds gs before hval0 hW hcnd _
  have hval : ∀ (j : Nat) t v, Try.f5.params[j]? = some t → args[j]? = some v → Value.okWide Try.prog W .any base t v := hval0
  have hW' := hW
  obtain ⟨p, q, hA0, hV, rfl, hfz, hnd⟩ := hW
  have hA : DataW.TrodAll enc Try.prog W 0 (fun _ => true) true Try.f5.params.toList args.toList ds p := hA0
  rw [Try.params5] at hA hval
  obtain ⟨v0, vs0, d0, ds0, p0, q0, hargs, rfl, rfl, h0, r0⟩ := trodAll_cons hA
  obtain ⟨v1, vs1, d1, ds1, p1, q1, rfl, rfl, rfl, h1, r1⟩ := trodAll_cons r0
  obtain ⟨v2, vs2, d2, ds2, p2, q2, rfl, rfl, rfl, h2, r2⟩ := trodAll_cons r1
  obtain ⟨rfl, rfl, rfl⟩ := trodAll_nil r2
  obtain rfl : args = #[v0, v1, v2] := by cases args; simp_all
  obtain ⟨rfl, rfl⟩ := trodVars_none hV
  obtain ⟨y0, x0, rfl, s0⟩ := sees_table Try.underlying24 (by kernel_rfl) ⟨rfl, rfl⟩ ⟨rfl, rfl⟩ ⟨rfl, rfl⟩ ⟨rfl, rfl⟩ Try.underlying22 (by kernel_rfl) Try.underlying42 (by kernel_rfl) ⟨rfl, rfl⟩ ⟨rfl, rfl⟩ ⟨rfl, rfl⟩ ⟨rfl, rfl⟩ Try.underlying3 Try.underlying4 (by kernel_rfl) (by kernel_rfl) (hval 0 24 v0 rfl rfl) h0
  have k0 := h0
  have lt0 : ∀ x ∈ p0, x.block < W.heap.size := by obtain ⟨m, hm⟩ := k0; exact DataW.trod_lt m _ _ _ hm
  obtain ⟨a1, rfl, rfl, rfl, w1⟩ := open_int Try.underlying3 (hval 1 3 v1 rfl rfl) h1
  obtain ⟨a2, rfl, rfl, rfl, w2⟩ := open_int Try.underlying5 (hval 2 5 v2 rfl rfl) h2
  clear hA0 hval0
  refine (walk_tableBack y0 x0 a1 a2 W s0 (bounds_i64 w1) (bounds_u8 w2)).mono fun e W' ⟨he, bel⟩ => ?_
  subst he
  exact ⟨_, rfl, _, _, _, [], _, [], hW', trodAll_mk1 (shut_bool Try.underlying4 _), (trodAll_cons_mk (Below.trod laidOut_tableBack (by kernel_rfl) (of_decide_eq_true (by kernel_rfl)) k0 bel lt0) (trodAll_cons_mk (shut_int Try.underlying3 w1) (trodAll_cons_mk (shut_int Try.underlying5 w2) trodAll_mk0))), rfl, bel.frame _, fun h => by cases h⟩

theorem over_tableBack : Rows.tableBackRow.holds Try.pinned (OpenSpec.ofChange Rows.tableBackSpec) :=
  OpenClaim.holds_of_wide 5 Try.f5 rfl rfl rfl rfl rfl rfl rfl ⟨rfl, rfl, rfl, rfl, rfl⟩ rfl rfl rfl rfl rfl (by kernel_rfl) Try.func5 (by kernel_rfl)
    (of_decide_eq_true (by kernel_rfl)) (by unfold Func.isWrapper; first | (rw [if_pos (by decide +kernel)]; kernel_rfl) | (rw [if_neg (by decide +kernel)]; exact ⟨rfl, rfl⟩))
    (fun os started H enc _ => lifted_tableBack os started H enc)

theorem proved_tableBack : Rows.TableBackSaid := over_tableBack
end Go.Proofs.Ytpkdfdlchidmlaa
