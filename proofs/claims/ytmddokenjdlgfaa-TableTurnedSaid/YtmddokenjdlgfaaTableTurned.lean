/- TableTurned holds: a table's bytes with one turned are taken just as the document takes them. For all tables, numbers and bytes. -/
import Derived.Test.YtmddokenjdlgfaaTbU
import Derived.Test.YtmddokenjdlgfaaTbS
import Derived.Test.YtmddokenjdlgfaaTbO
namespace Go.Proofs.Ytmddokenjdlgfaa
open Go.ChangeShapes Go.WideShapes Go.ChangeAt Go.RowKit
open Go.ChangeMaps (open_string shut_string)
open Tb (D T)

theorem OwnsL.cell {w : World} {B g n c : Nat} {l : List Int} (h : OwnsL w B (.slice (some ⟨g, 0, none⟩) n c) l) (hn : n = l.length) {i : Nat} (hi : i < l.length) : w.cell? ⟨g, i, none⟩ = some (.int .u8 (l.getD i 0)) := by
  subst hn
  exact Owns.cell h hi
theorem OwnsL.frozen {w : World} {B g n c : Nat} {l : List Int} (h : OwnsL w B (.slice (some ⟨g, 0, none⟩) n c) l) (hn : n = l.length) (i : Nat) : w.frozen? ⟨g, i, none⟩ = false := by
  subst hn
  exact Owns.frozen h i
theorem OwnsL.set {w : World} {B g n c : Nat} {l : List Int} (h : OwnsL w B (.slice (some ⟨g, 0, none⟩) n c) l) (hn : n = l.length) (i : Nat) (x : Int) (hi : i < l.length) : OwnsL (w.setCell ⟨g, i, none⟩ (.int .u8 x)) B (.slice (some ⟨g, 0, none⟩) n c) (l.set i x) := by
  subst hn
  have := Owns.set_ h i (.int .u8 x) (V' := bv (l.set i x)) (by simp [bv, List.getD_eq_getElem?_getD, hi]) (fun j _ hj => by simp [bv, List.getD_eq_getElem?_getD, List.getElem?_set_ne (Ne.symm hj)])
  unfold OwnsL
  rw [List.length_set]
  exact this

theorem mask16 (a : Int) : bits BinOp.and IntKind.i64 a 65535 = (((a % 65536).toNat : Nat) : Int) := by
  show IntKind.i64.wrap ((BitVec.ofInt 64 a &&& BitVec.ofInt 64 65535).toNat : Int) = _
  rw [BitVec.toNat_and, show (BitVec.ofInt 64 65535).toNat = 2 ^ 16 - 1 by decide, Nat.and_two_pow_sub_one_eq_mod, BitVec.toNat_ofInt, IntKind.wrap_i64]
  omega
set_option maxRecDepth 100000 in
set_option maxHeartbeats 4000000 in
theorem walk_tableTurned (t : T) (v : Value) (q y : Int) (w : World) (h : InTable w t v) (_hq : -9223372036854775808 ≤ q ∧ q ≤ 9223372036854775807) (hy : 0 ≤ y ∧ y ≤ 255) :
    Calls Try.prog 11 #[tabV t v, .int .i64 q, .int .u8 y] w fun e w' => e = .returned (.bool true) ∧ Below w.heap.size w w' := by
  obtain ⟨hv, -, -, -⟩ := h
  have R0 := fun W (hb : Below w.heap.size w W) => is_rf t v W w.heap.size hb.size (hv.below hb)
  have R1 := fun W (hb : Below w.heap.size w W) => pack_rf t v W w.heap.size hb.size (hv.below hb)
  obtain ⟨A, c, rfl, c1, c2, -, -⟩ := hv.at_
  have hbx := fun o => (Below.refl w.heap.size w).alloc (Nat.le_refl _) o
  by_cases h0 : 20 < t.ns.length
  · have q1 : decide ((20 : Int) < (t.ns.length : Nat)) = true := by simp; omega
    unfold tabV
    go_enter Try.func11, Try.ntmps11
    go_wp2
    go_ret
    exact ⟨rfl, hbx _⟩
  have q1 : decide ((20 : Int) < (t.ns.length : Nat)) = false := by simp; omega
  cases hi : t.is
  · rw [hi] at R0
    have R0 := fun W hb => Lib.hid (R0 W hb)
    unfold tabV at R0 ⊢
    clear hv hi R1
    go_enter Try.func11, Try.ntmps11
    go_wp2_with fail
    refine (R0 _ (hbx _)).out.mono ?_
    rintro e w1 ⟨rfl, hb⟩
    have hbb := (hbx _).trans (hb.mono (hbx _).size)
    go_wp2
    go_ret
    exact ⟨rfl, hbb⟩
  have hlen := t.bytes_length
  have hm := Tb.T.may hi
  have hN1 := hm.n4
  have hN2 := hm.n8
  have hok : bytesL t.bytes := Tb.bytes_ok hi
  unfold Pk pkR pkE at R1
  simp only [hi, if_true] at R0 R1
  generalize t.bytes = L at *
  have hmask := mask16 q
  obtain ⟨Q, hQ⟩ : ∃ Q, Q = (q % 65536).toNat := ⟨_, rfl⟩
  rw [← hQ] at hmask
  obtain ⟨N, hN⟩ : ∃ N, N = L.length := ⟨_, rfl⟩
  obtain ⟨i0, hi0⟩ : ∃ i0, i0 = Q % N := ⟨_, rfl⟩
  have hNb : 27 ≤ N ∧ N ≤ 43 := by omega
  have hi1 : i0 < N := by rw [hi0]; exact Nat.mod_lt _ (by omega)
  have hrem : ((Q : Nat) : Int) % (N : Int) = (i0 : Int) := by rw [hi0, Int.natCast_emod]
  have hok2 : bytesL (L.set i0 y) := fun x hx => by
    rcases List.mem_or_eq_of_mem_set hx with h | h
    · exact hok x h
    · omega
  have U1 := fun u W (h : SeesL W W.heap.size u (L.set i0 y)) => unpack_tb u (L.set i0 y) W h hok2
  have U2 := fun u W (h : SeesL W W.heap.size u (L.set i0 y)) => unpack_rf u (L.set i0 y) W h hok2
  have R3 := fun u u' W (h : SeesT W W.heap.size u (Tb.res (L.set i0 y)).ns) (h' : SeesT W W.heap.size u' (Tb.res (L.set i0 y)).ns) => same_rf (Tb.res (L.set i0 y)) (Tb.res (L.set i0 y)) u u' W W.heap.size (Nat.le_refl _) h h'
  unfold Un at U1 U2
  simp only [decide_true] at R3
  generalize Tb.res (L.set i0 y) = s at *
  generalize Tb.err (L.set i0 y) = er at *
  have hee : (er == er) = true := by simp
  have hNL := Lib.hid hN
  clear hi hm hok hlen hN hi0 hQ hok2
  obtain ⟨ns, dr, wi, lm⟩ := t
  obtain ⟨ns', dr', wi', lm'⟩ := s
  simp only at hN1 hN2 h0 c1 q1
  unfold tabV at R0 R1 R3 U1 U2 ⊢
  simp only at R0 R1 R3 U1 U2 ⊢
  have R0 := fun W hb => Lib.hid (R0 W hb)
  have R1 := fun W hb => Lib.hid (R1 W hb)
  have R3 := fun u u' W h h' => Lib.hid (R3 u u' W h h')
  have U1 := fun u W h => Lib.hid (U1 u W h)
  have U2 := fun u W h => Lib.hid (U2 u W h)
  have hT0 := Blk.new w _ rfl #[.slice A ns.length c, .int .i64 dr, .int .i64 wi, .int .i64 lm] 24
  have hb0 := hbx (.cells #[.slice A ns.length c, .int .i64 dr, .int .i64 wi, .int .i64 lm] 24)
  clear hv hbx
  go_enter Try.func11, Try.ntmps11
  go_wp2_with fail
  generalize w.alloc (.cells #[.slice A ns.length c, .int .i64 dr, .int .i64 wi, .int .i64 lm] 24) = w0 at *
  refine (R0 w0 hb0).out.mono ?_
  rintro e w1 ⟨rfl, hb⟩
  have hb1 := hb0.trans (hb.mono hb0.size)
  have hT1 := hT0.below hb hT0.lt
  have t0 := hT1.cell 0 rfl
  have t1 := hT1.cell 1 rfl
  have t2 := hT1.cell 2 rfl
  have t3 := hT1.cell 3 rfl
  clear hb R0
  go_wp2_with fail
  refine (R1 w1 hb1).out.mono ?_
  rintro e w2 ⟨p, rfl, ho2, hb⟩
  have hb2 := hb1.trans (hb.mono hb1.size)
  obtain ⟨g, d, rfl, hgb, hgc⟩ : ∃ g d, p = .slice (some ⟨g, 0, none⟩) N d ∧ w1.heap.size ≤ g ∧ N ≤ d := by
    rcases ho2.2 with ⟨-, h2⟩ | ⟨g, cap, cur, h1, h2, h3, h4, -⟩
    · have := hNL.out; omega
    · exact ⟨g, cap, by rw [h1, hNL.out], h2, by rw [hNL.out]; exact h4⟩
  have hg0 : w.heap.size ≤ g := by have := hb1.size; omega
  have hcl := ho2.cell hNL.out (i := i0) (by have := hNL.out; omega)
  have hfz := ho2.frozen hNL.out i0
  have ho3 := ho2.set hNL.out i0 y (by have := hNL.out; omega)
  have hs3 := Lib.hid ho3.sees
  have hb3 := hb2.setCell (p := ⟨g, i0, none⟩) hg0 (.int .u8 y)
  have p1 : ((i0 : Nat) : Int) < (N : Nat) := by omega
  have p2 : (0 : Int) ≤ (i0 : Nat) := by omega
  have p3 : ((N : Nat) : Int) ≠ 0 := by omega
  clear hb hT1 R1 t0 t1 t2 t3 hT0 ho2 ho3
  go_wp2_with fail
  generalize w2.setCell ⟨g, i0, none⟩ (.int .u8 y) = w3 at *
  refine (U1 _ w3 hs3.out).out.mono ?_
  rintro e w4 ⟨u1, rfl, ho4, hb⟩
  have hs4 := (hs3.out.below hb).more hb.size
  have hb4 := hb3.trans (hb.mono hb3.size)
  obtain ⟨A1, d1, rfl, -⟩ := ho4.sees.at_
  have hT1 := Blk.new w4 _ rfl #[.slice A1 ns'.length d1, .int .i64 dr', .int .i64 wi', .int .i64 lm'] 24
  have ho4a := ho4.alloc (.cells #[.slice A1 ns'.length d1, .int .i64 dr', .int .i64 wi', .int .i64 lm'] 24)
  have hs4a := (hs4.alloc (.cells #[.slice A1 ns'.length d1, .int .i64 dr', .int .i64 wi', .int .i64 lm'] 24)).more (B' := (w4.alloc (.cells #[.slice A1 ns'.length d1, .int .i64 dr', .int .i64 wi', .int .i64 lm'] 24)).heap.size) (by simp)
  have hb4a := hb4.alloc hb4.size (.cells #[.slice A1 ns'.length d1, .int .i64 dr', .int .i64 wi', .int .i64 lm'] 24)
  clear hs3 hs4 ho4 U1 hb hb3 hcl hfz
  go_wp2_with fail
  generalize w4.alloc (.cells #[.slice A1 ns'.length d1, .int .i64 dr', .int .i64 wi', .int .i64 lm'] 24) = w4a at *
  refine (U2 _ w4a hs4a).out.mono ?_
  rintro e w5 ⟨u2, rfl, ho5, hb5⟩
  have hT1b := hT1.below hb5 hT1.lt
  have hs5 := (ho4a.sees.below hb5).more hb5.size
  have hb5 := hb4a.trans (hb5.mono hb4a.size)
  obtain ⟨A2, d2, rfl, -⟩ := ho5.sees.at_
  have hT2 := Blk.new w5 _ rfl #[.slice A2 ns'.length d2, .int .i64 dr', .int .i64 wi', .int .i64 lm'] 24
  have hT1c := hT1b.alloc (.cells #[.slice A2 ns'.length d2, .int .i64 dr', .int .i64 wi', .int .i64 lm'] 24)
  have hs2c := (hs5.below ((Below.refl _ _).alloc (Nat.le_refl _) (.cells #[.slice A2 ns'.length d2, .int .i64 dr', .int .i64 wi', .int .i64 lm'] 24))).more (B' := (w5.alloc (.cells #[.slice A2 ns'.length d2, .int .i64 dr', .int .i64 wi', .int .i64 lm'] 24)).heap.size) (by simp)
  have hs3c := (ho5.sees.below ((Below.refl _ _).alloc (Nat.le_refl _) (.cells #[.slice A2 ns'.length d2, .int .i64 dr', .int .i64 wi', .int .i64 lm'] 24))).more (B' := (w5.alloc (.cells #[.slice A2 ns'.length d2, .int .i64 dr', .int .i64 wi', .int .i64 lm'] 24)).heap.size) (by simp)
  have hb5a := hb5.alloc hb5.size (.cells #[.slice A2 ns'.length d2, .int .i64 dr', .int .i64 wi', .int .i64 lm'] 24)
  have p0 := hT1c.cell 0 rfl
  have p1 := hT1c.cell 1 rfl
  have p2 := hT1c.cell 2 rfl
  have p3 := hT1c.cell 3 rfl
  have s0 := hT2.cell 0 rfl
  have s1 := hT2.cell 1 rfl
  have s2 := hT2.cell 2 rfl
  have s3 := hT2.cell 3 rfl
  clear hT1 hT1b hT1c hT2 ho4a ho5 hs5 U2 hs4a
  go_wp2_with fail
  refine (R3 _ _ _ hs2c hs3c).out.mono ?_
  rintro e w6 ⟨rfl, hb6⟩
  have hb6 := hb5a.trans (hb6.mono hb5a.size)
  go_wp2_with fail
  refine (known_tb _).mono ?_
  rintro e w7 ⟨rfl, hb7⟩
  have hb7 := hb6.trans (hb7.mono hb6.size)
  go_wp2
  go_ret
  exact ⟨rfl, hb7⟩

/-! ### THE ROW's STEP around the walk. -/
theorem own_tableTurned : ownKnob Try.prog.godebug = none := by kernel_rfl
theorem laidOut_tableTurned : laidOutB Try.prog = true := by kernel_rfl
set_option maxRecDepth 100000 in
theorem lifted_tableTurned (os : Os) (started : os.Started) (H : Type) (enc : TypeId × Value → H) :
    ReturnsInHanded {} Try.checked os 11 .any (Rows.tableTurnedSpec.pre6 enc Try.prog Try.f11 Rows.tableTurnedRow.domain false) (Rows.tableTurnedSpec.post enc Try.prog Try.f11 false true false false) := by
  refine returnsInHanded_of_change (C := Try.checked) own_tableTurned started (by kernel_rfl) Try.func11
    (ChangeSpec.witness6 (enc := enc) (C := Try.checked) false ⟨#[], #[.agg #[.slice none 0 0, .int .i64 0, .int .i64 0, .int .i64 0], .int .i64 0, .int .u8 0], []⟩ 8 (by kernel_rfl) (by kernel_rfl) (by kernel_rfl) (by kernel_rfl)) ?_
  intro W base args ds gs before hval0 hW hcnd _
  have hval : ∀ (j : Nat) t v, Try.f11.params[j]? = some t → args[j]? = some v → Value.okWide Try.prog W .any base t v := hval0
  have hW' := hW
  obtain ⟨p, q, hA0, hV, rfl, hfz, hnd⟩ := hW
  have hA : DataW.TrodAll enc Try.prog W 0 (fun _ => true) true Try.f11.params.toList args.toList ds p := hA0
  rw [Try.params11] at hA hval
  obtain ⟨v0, vs0, d0, ds0, p0, q0, hargs, rfl, rfl, h0, r0⟩ := trodAll_cons hA
  obtain ⟨v1, vs1, d1, ds1, p1, q1, rfl, rfl, rfl, h1, r1⟩ := trodAll_cons r0
  obtain ⟨v2, vs2, d2, ds2, p2, q2, rfl, rfl, rfl, h2, r2⟩ := trodAll_cons r1
  obtain ⟨rfl, rfl, rfl⟩ := trodAll_nil r2
  obtain rfl : args = #[v0, v1, v2] := by cases args; simp_all
  obtain ⟨rfl, rfl⟩ := trodVars_none hV
  obtain ⟨y0, x0, rfl, s0⟩ := sees_table Try.underlying24 (by kernel_rfl) ⟨rfl, rfl⟩ ⟨rfl, rfl⟩ ⟨rfl, rfl⟩ ⟨rfl, rfl⟩ Try.underlying22 (by kernel_rfl) Try.underlying42 (by kernel_rfl) ⟨rfl, rfl⟩ ⟨rfl, rfl⟩ ⟨rfl, rfl⟩ ⟨rfl, rfl⟩ Try.underlying3 Try.underlying4 (by kernel_rfl) (by kernel_rfl) (hval 0 24 v0 rfl rfl) h0
  have k0 := h0
  have lt0 : ∀ x ∈ p0, x.block < W.heap.size := by obtain ⟨m, hm⟩ := k0; exact DataW.trod_lt m _ _ _ hm
  obtain ⟨a1, rfl, rfl, rfl, w1⟩ := open_int Try.underlying3 (hval 1 3 v1 rfl rfl) h1
  obtain ⟨a2, rfl, rfl, rfl, w2⟩ := open_int Try.underlying5 (hval 2 5 v2 rfl rfl) h2
  clear hA0 hval0
  refine (walk_tableTurned y0 x0 a1 a2 W s0 (bounds_i64 w1) (bounds_u8 w2)).mono fun e W' ⟨he, bel⟩ => ?_
  subst he
  exact ⟨_, rfl, _, _, _, [], _, [], hW', trodAll_mk1 (shut_bool Try.underlying4 _), (trodAll_cons_mk (Below.trod laidOut_tableTurned (by kernel_rfl) (of_decide_eq_true (by kernel_rfl)) k0 bel lt0) (trodAll_cons_mk (shut_int Try.underlying3 w1) (trodAll_cons_mk (shut_int Try.underlying5 w2) trodAll_mk0))), rfl, bel.frame _, fun h => by cases h⟩

theorem over_tableTurned : Rows.tableTurnedRow.holds Try.pinned (OpenSpec.ofChange Rows.tableTurnedSpec) :=
  OpenClaim.holds_of_wide 11 Try.f11 rfl rfl rfl rfl rfl rfl rfl ⟨rfl, rfl, rfl, rfl, rfl⟩ rfl rfl rfl rfl rfl (by kernel_rfl) Try.func11 (by kernel_rfl)
    (of_decide_eq_true (by kernel_rfl)) (by unfold Func.isWrapper; first | (rw [if_pos (by decide +kernel)]; kernel_rfl) | (rw [if_neg (by decide +kernel)]; exact ⟨rfl, rfl⟩))
    (fun os started H enc _ => lifted_tableTurned os started H enc)

theorem proved_tableTurned : Rows.TableTurnedSaid := over_tableTurned
end Go.Proofs.Ytmddokenjdlgfaa
