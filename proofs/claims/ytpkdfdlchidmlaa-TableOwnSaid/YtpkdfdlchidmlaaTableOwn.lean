/- TableOwn holds: what is packed and taken hangs no more on the bytes. For all tables. -/
import Derived.Test.YtpkdfdlchidmlaaTbM
import Derived.Test.YtpkdfdlchidmlaaTbS
import Derived.Test.YtpkdfdlchidmlaaTbO
namespace Go.Proofs.Ytpkdfdlchidmlaa
open Go.ChangeShapes Go.WideShapes Go.ChangeAt Go.RowKit
open Go.ChangeMaps (open_string shut_string)
open Tb (D T)

theorem OwnsL.cell {w : World} {B g n c : Nat} {l : List Int} (h : OwnsL w B (.slice (some ⟨g, 0, none⟩) n c) l) (hn : n = l.length) {i : Nat} (hi : i < l.length) : w.cell? ⟨g, i, none⟩ = some (.int .u8 (l.getD i 0)) := by
  subst hn
  exact Owns.cell h hi
theorem OwnsL.frozen {w : World} {B g n c : Nat} {l : List Int} (h : OwnsL w B (.slice (some ⟨g, 0, none⟩) n c) l) (hn : n = l.length) (i : Nat) : w.frozen? ⟨g, i, none⟩ = false := by
  subst hn
  exact Owns.frozen h i
theorem OwnsL.set {w : World} {B g n c : Nat} {l : List Int} (h : OwnsL w B (.slice (some ⟨g, 0, none⟩) n c) l) (hn : n = l.length) (i : Nat) (x : Int) (hi : i < l.length) : OwnsL (w.setCell ⟨g, i, none⟩ (.int .u8 x)) B (.slice (some ⟨g, 0, none⟩) n c) (l.set i x) := by
  subst hn
  have := Owns.set_ h i (.int .u8 x) (V' := bv (l.set i x)) (by simp [bv, List.getD_eq_getElem?_getD, hi]) (fun j _ hj => by simp [bv, List.getD_eq_getElem?_getD, List.getElem?_set_ne (Ne.symm hj)])
  unfold OwnsL
  rw [List.length_set]
  exact this

set_option maxRecDepth 100000 in
set_option maxHeartbeats 4000000 in
theorem walk_tableOwn (t : T) (v : Value) (w : World) (h : InTable w t v) :
    Calls Try.prog 12 #[tabV t v] w fun e w' => e = .returned (.bool true) ∧ Below w.heap.size w w' := by
  obtain ⟨hv, -, -, -⟩ := h
  have R0 := fun W (hb : Below w.heap.size w W) => is_rf t v W w.heap.size hb.size (hv.below hb)
  have R1 := fun W (hb : Below w.heap.size w W) => pack_tb t v W w.heap.size hb.size (hv.below hb)
  have R4 := fun u W (hb : Below w.heap.size w W) (h : SeesT W W.heap.size u t.ns) => same_rf t t u v W W.heap.size (Nat.le_refl _) h ((hv.below hb).more hb.size)
  obtain ⟨A, c, rfl, c1, c2, -, -⟩ := hv.at_
  have hbx := fun o => (Below.refl w.heap.size w).alloc (Nat.le_refl _) o
  by_cases h0 : 20 < t.ns.length
  · have q1 : decide ((20 : Int) < (t.ns.length : Nat)) = true := by simp; omega
    unfold tabV
    go_enter Try.func12, Try.ntmps12
    go_wp2
    go_ret
    exact ⟨rfl, hbx _⟩
  have q1 : decide ((20 : Int) < (t.ns.length : Nat)) = false := by simp; omega
  cases hi : t.is
  · rw [hi] at R0
    have R0 := fun W hb => Lib.hid (R0 W hb)
    unfold tabV at R0 ⊢
    clear hv hi R1 R4
    go_enter Try.func12, Try.ntmps12
    go_wp2_with fail
    refine (R0 _ (hbx _)).out.mono ?_
    rintro e w1 ⟨rfl, hb⟩
    have hbb := (hbx _).trans (hb.mono (hbx _).size)
    go_wp2
    go_ret
    exact ⟨rfl, hbb⟩
  have hlen := t.bytes_length
  have hm := Tb.T.may hi
  have hN1 := hm.n4
  have hN2 := hm.n8
  have hbk := Tb.back hi
  have hok : bytesL t.bytes := Tb.bytes_ok hi
  unfold Pk pkR pkE at R1
  simp only [hi, if_true] at R0 R1
  simp only [decide_true] at R4
  generalize t.bytes = L at *
  have U1 := fun u W (h : SeesL W W.heap.size u L) => unpack_tb u L W h hok
  unfold Un at U1
  rw [hbk.1, hbk.2] at U1
  clear hbk hi hm hok
  obtain ⟨ns, dr, wi, lm⟩ := t
  simp only at hlen hN1 hN2 h0 c1 q1
  unfold tabV at R0 R1 R4 U1 ⊢
  simp only at R0 R1 R4 U1 ⊢
  have R0 := fun W hb => Lib.hid (R0 W hb)
  have R1 := fun W hb => Lib.hid (R1 W hb)
  have R4 := fun u W hb h => Lib.hid (R4 u W hb h)
  have U1 := fun u W h => Lib.hid (U1 u W h)
  obtain ⟨N, hN⟩ : ∃ N, N = L.length := ⟨_, rfl⟩
  have hNL := Lib.hid hN
  have hNb : 27 ≤ N ∧ N ≤ 43 := by omega
  have hT0 := Blk.new w _ rfl #[.slice A ns.length c, .int .i64 dr, .int .i64 wi, .int .i64 lm] 24
  have hb0 := hbx (.cells #[.slice A ns.length c, .int .i64 dr, .int .i64 wi, .int .i64 lm] 24)
  clear hv hlen hN hbx
  go_enter Try.func12, Try.ntmps12
  go_wp2_with fail
  generalize w.alloc (.cells #[.slice A ns.length c, .int .i64 dr, .int .i64 wi, .int .i64 lm] 24) = w0 at *
  refine (R0 w0 hb0).out.mono ?_
  rintro e w1 ⟨rfl, hb⟩
  have hb01 := hb
  have hb1 := hb0.trans (hb.mono hb0.size)
  have hT1 := hT0.below hb hT0.lt
  have t0 := hT1.cell 0 rfl
  have t1 := hT1.cell 1 rfl
  have t2 := hT1.cell 2 rfl
  have t3 := hT1.cell 3 rfl
  clear hb R0
  go_wp2_with fail
  refine (R1 w1 hb1).out.mono ?_
  rintro e w2 ⟨p, rfl, ho2, hb⟩
  have hb2 := hb1.trans (hb.mono hb1.size)
  have hb02 := hb01.trans (hb.mono hb01.size)
  obtain ⟨g, d, rfl, hgb, hgc⟩ : ∃ g d, p = .slice (some ⟨g, 0, none⟩) N d ∧ w1.heap.size ≤ g ∧ N ≤ d := by
    rcases ho2.2 with ⟨-, h2⟩ | ⟨g, cap, cur, h1, h2, h3, h4, -⟩
    · have := hNL.out; omega
    · exact ⟨g, cap, by rw [h1, hNL.out], h2, by rw [hNL.out]; exact h4⟩
  have hg2 : g < w2.heap.size := (ho2.lt g (by simp [Value.ownBlock])).2
  clear hb hT1 R1 t0 t1 t2 t3
  have hs2 := ho2.sees
  go_wp2_with fail
  refine (U1 _ w2 hs2).out.mono ?_
  rintro e w3 ⟨v3, rfl, ho3, hb⟩
  obtain ⟨A3, d3, rfl, -⟩ := ho3.sees.at_
  have hb03 := (hb02.trans (hb.mono hb02.size)).alloc (Nat.le_trans hb02.size hb.size) (.cells #[.slice A3 ns.length d3, .int .i64 dr, .int .i64 wi, .int .i64 lm] 24)
  have hU := Blk.new w3 _ rfl #[.slice A3 ns.length d3, .int .i64 dr, .int .i64 wi, .int .i64 lm] 24
  have ho3a := ho3.alloc (.cells #[.slice A3 ns.length d3, .int .i64 dr, .int .i64 wi, .int .i64 lm] 24)
  have ho2a := (ho2.below hb (Nat.le_refl _)).alloc (.cells #[.slice A3 ns.length d3, .int .i64 dr, .int .i64 wi, .int .i64 lm] 24)
  have hz3 := hb.size
  have hzx : w3.heap.size < (w3.alloc (.cells #[.slice A3 ns.length d3, .int .i64 dr, .int .i64 wi, .int .i64 lm] 24)).heap.size := by simp
  clear U1 ho3 hb hs2 ho2
  go_wp2_with fail
  generalize w3.alloc (.cells #[.slice A3 ns.length d3, .int .i64 dr, .int .i64 wi, .int .i64 lm] 24) = X at *
  have hgU : w3.heap.size ≠ g := by omega
  have hg0 : w0.heap.size ≤ g := by have := hb01.size; omega
  have hv3 : (Value.slice A3 ns.length d3).ownBlock ≠ some g := fun e => by have := (ho3a.lt _ e).1; omega
  go_loopw [7] (fun i wr => ∃ k : Nat, k ≤ N ∧ i = .int .i64 k ∧ (∃ l' : List Int, Hid (l'.length = N) ∧ OwnsL wr w1.heap.size (.slice (some ⟨g, 0, none⟩) N d) l') ∧ OwnsD wr w2.heap.size (.slice A3 ns.length d3) ns ∧ Blk wr w3.heap.size #[.slice A3 ns.length d3, .int .i64 dr, .int .i64 wi, .int .i64 lm] 24 ∧ Below w0.heap.size w0 wr) (fun i _ => N - (intOf i).toNat)
  case atStart => exact ⟨0, by omega, rfl, ⟨L, Lib.hid hNL.out.symm, ho2a⟩, ho3a, hU, hb03⟩
  case round =>
    obtain ⟨k, hk, rfl, ⟨l', hl', hown⟩, hod, hblk, hbk⟩ := hrel
    by_cases hlt : k < N
    · have hold := hown.cell hl'.out.symm (i := k) (by have := hl'.out; omega)
      have hfr := hown.frozen hl'.out.symm k
      have ho' := hown.set hl'.out.symm k 0 (by have := hl'.out; omega)
      have hod' := hod.setOther ⟨g, k, none⟩ (.int .u8 0) hv3
      have hblk' := hblk.other ⟨g, k, none⟩ hgU (.int .u8 0)
      have hbk' := hbk.setCell (p := ⟨g, k, none⟩) hg0 (.int .u8 0)
      have q1 : decide ((k : Int) < (N : Nat)) = true := by simp; omega
      have p1 : (0 : Int) ≤ (k : Nat) := by omega
      have p2 : ((k : Nat) : Int) < (N : Nat) := by omega
      go_wp2
      go_roundw
      case rel => exact ⟨k + 1, by omega, by go_num, ⟨_, Lib.hid (by rw [List.length_set]; exact hl'.out), ho'⟩, hod', hblk', hbk'⟩
      case measure => simp [intOf]; omega
    · obtain rfl : k = N := by omega
      have q1 : decide ((k : Int) < (k : Nat)) = false := by simp
      have hT := hT0.below hbk hT0.lt
      have t0 := hT.cell 0 rfl
      have t1 := hT.cell 1 rfl
      have t2 := hT.cell 2 rfl
      have t3 := hT.cell 3 rfl
      have u0 := hblk.cell 0 rfl
      have u1 := hblk.cell 1 rfl
      have u2 := hblk.cell 2 rfl
      have u3 := hblk.cell 3 rfl
      have hsx := hod.sees
      have hbz := hb0.trans (hbk.mono hb0.size)
      clear hown hod hblk hT hU ho3a ho2a hT0
      go_wp2_with fail
      refine (R4 _ _ hbz hsx).out.mono ?_
      rintro e w9 ⟨rfl, hb9⟩
      have hbf := hbz.trans (hb9.mono hbz.size)
      go_wp2_with (go_at_call 18; refine (known_tb _).mono ?_; rintro e wf ⟨rfl, hb6⟩)
      go_ret
      exact ⟨by simp, hbf.trans (hb6.mono hbf.size)⟩

/-! ### THE ROW's STEP around the walk. -/
theorem own_tableOwn : ownKnob Try.prog.godebug = none := by kernel_rfl
theorem laidOut_tableOwn : laidOutB Try.prog = true := by kernel_rfl
set_option maxRecDepth 100000 in
theorem lifted_tableOwn (os : Os) (started : os.Started) (H : Type) (enc : TypeId × Value → H) :
    ReturnsInHanded {} Try.checked os 12 .any (Rows.tableOwnSpec.pre6 enc Try.prog Try.f12 Rows.tableOwnRow.domain false) (Rows.tableOwnSpec.post enc Try.prog Try.f12 false true false false) := by
  refine returnsInHanded_of_change (C := Try.checked) own_tableOwn started (by kernel_rfl) Try.func12
    (ChangeSpec.witness6 (enc := enc) (C := Try.checked) false ⟨#[], #[.agg #[.slice none 0 0, .int .i64 0, .int .i64 0, .int .i64 0]], []⟩ 8 (by kernel_rfl) (by kernel_rfl) (by kernel_rfl) (by kernel_rfl)) ?_
  intro W base args ds gs before hval0 hW hcnd _
  have hval : ∀ (j : Nat) t v, Try.f12.params[j]? = some t → args[j]? = some v → Value.okWide Try.prog W .any base t v := hval0
  have hW' := hW
  obtain ⟨p, q, hA0, hV, rfl, hfz, hnd⟩ := hW
  have hA : DataW.TrodAll enc Try.prog W 0 (fun _ => true) true Try.f12.params.toList args.toList ds p := hA0
  rw [Try.params12] at hA hval
  obtain ⟨v0, vs0, d0, ds0, p0, q0, hargs, rfl, rfl, h0, r0⟩ := trodAll_cons hA
  obtain ⟨rfl, rfl, rfl⟩ := trodAll_nil r0
  obtain rfl : args = #[v0] := by cases args; simp_all
  obtain ⟨rfl, rfl⟩ := trodVars_none hV
  obtain ⟨y0, x0, rfl, s0⟩ := sees_table Try.underlying24 (by kernel_rfl) ⟨rfl, rfl⟩ ⟨rfl, rfl⟩ ⟨rfl, rfl⟩ ⟨rfl, rfl⟩ Try.underlying22 (by kernel_rfl) Try.underlying42 (by kernel_rfl) ⟨rfl, rfl⟩ ⟨rfl, rfl⟩ ⟨rfl, rfl⟩ ⟨rfl, rfl⟩ Try.underlying3 Try.underlying4 (by kernel_rfl) (by kernel_rfl) (hval 0 24 v0 rfl rfl) h0
  have k0 := h0
  have lt0 : ∀ x ∈ p0, x.block < W.heap.size := by obtain ⟨m, hm⟩ := k0; exact DataW.trod_lt m _ _ _ hm
  clear hA0 hval0
  refine (walk_tableOwn y0 x0 W s0).mono fun e W' ⟨he, bel⟩ => ?_
  subst he
  exact ⟨_, rfl, _, _, _, [], _, [], hW', trodAll_mk1 (shut_bool Try.underlying4 _), (trodAll_cons_mk (Below.trod laidOut_tableOwn (by kernel_rfl) (of_decide_eq_true (by kernel_rfl)) k0 bel lt0) trodAll_mk0), rfl, bel.frame _, fun h => by cases h⟩

theorem over_tableOwn : Rows.tableOwnRow.holds Try.pinned (OpenSpec.ofChange Rows.tableOwnSpec) :=
  OpenClaim.holds_of_wide 12 Try.f12 rfl rfl rfl rfl rfl rfl rfl ⟨rfl, rfl, rfl, rfl, rfl⟩ rfl rfl rfl rfl rfl (by kernel_rfl) Try.func12 (by kernel_rfl)
    (of_decide_eq_true (by kernel_rfl)) (by unfold Func.isWrapper; first | (rw [if_pos (by decide +kernel)]; kernel_rfl) | (rw [if_neg (by decide +kernel)]; exact ⟨rfl, rfl⟩))
    (fun os started H enc _ => lifted_tableOwn os started H enc)

theorem proved_tableOwn : Rows.TableOwnSaid := over_tableOwn
end Go.Proofs.Ytpkdfdlchidmlaa
