/- Texts SrF, FrK, FrO, FrP in one. For what each says in front of its theorems. -/
import Derived.ProofKit
import Derived.OpenShut
import Derived.Lib.SmallJoins
import Derived.Test.YtjoioojckekfhaaGreatVB3
import Derived.Test.YtjoioojckekfhaaGreatVB7
import Derived.Test.YtjoioojckekfhaaGreatVB24
import Derived.Test.YtjoioojckekfhaaGreatVB37
/-! ### SrF -/
namespace Go.Proofs.YtjoioojckekfhaaGreat
open Go.RowKit

/-- Who sends, and when. -/
def sF (m : List Sd) (i : Nat) : Bool := match m[i]? with
  | some s => decide (0 < s.n)
  | none => false
def sA (m : List Sd) (i : Nat) : Int := match m[i]? with
  | some s => s.at_
  | none => 0
def b8 (f : Nat → Bool) : Array Value := #[.bool (f 0), .bool (f 1), .bool (f 2), .bool (f 3), .bool (f 4), .bool (f 5), .bool (f 6), .bool (f 7)]
def i8 (f : Nat → Int) : Array Value := #[.int .i64 (f 0), .int .i64 (f 1), .int .i64 (f 2), .int .i64 (f 3), .int .i64 (f 4), .int .i64 (f 5), .int .i64 (f 6), .int .i64 (f 7)]
theorem b8_set (f : Nat → Bool) (k : Nat) (hk : k < 8) : (b8 fun i => decide (i < k) && f i).setIfInBounds k (.bool (f k)) = b8 fun i => decide (i < k + 1) && f i := by
  rcases (by omega : k = 0 ∨ k = 1 ∨ k = 2 ∨ k = 3 ∨ k = 4 ∨ k = 5 ∨ k = 6 ∨ k = 7) with rfl | rfl | rfl | rfl | rfl | rfl | rfl | rfl <;> simp [b8]
theorem i8_set (f : Nat → Int) (k : Nat) (hk : k < 8) : (i8 fun i => if i < k then f i else 0).setIfInBounds k (.int .i64 (f k)) = i8 fun i => if i < k + 1 then f i else 0 := by
  rcases (by omega : k = 0 ∨ k = 1 ∨ k = 2 ∨ k = 3 ∨ k = 4 ∨ k = 5 ∨ k = 6 ∨ k = 7) with rfl | rfl | rfl | rfl | rfl | rfl | rfl | rfl <;> simp [i8]
theorem sF_all (m : List Sd) : (fun i => decide (i < m.length) && sF m i) = sF m := by
  funext i
  by_cases h : i < m.length
  · simp [h]
  · unfold sF; rw [List.getElem?_eq_none (by omega)]; simp
theorem sA_all (m : List Sd) : (fun i => if i < m.length then sA m i else 0) = sA m := by
  funext i
  by_cases h : i < m.length
  · simp [h]
  · unfold sA; rw [List.getElem?_eq_none (by omega)]; simp
theorem results_cells2 {fn : Func} {p q : Tmp} {ty uy : TypeId} (h : fn.results = #[.cell p ty, .cell q uy]) (tmps : Array Value) (P : Program) (w : World) :
    (results fn tmps).run P w = ((asAddr (tmps.getD p undef)).run P w).andThen fun a w₁ => ((loadVar ty a).run P w₁).andThen fun v w₂ => ((asAddr (tmps.getD q undef)).run P w₂).andThen fun b w₃ => ((loadVar uy b).run P w₃).andThen fun u w₄ => .ok (.tuple #[v, u]) w₄ := by
  simp only [results, h]
  simp [Sem.run_bind, Result.andThen]
set_option maxRecDepth 100000 in
set_option maxHeartbeats 4000000 in
theorem senders_sr (x b : Nat) (l : List (Value × Sd)) (c d : Ch) (P : List Nat) (w : World) (h : XAt w P x b l c d) (hl : l.length ≤ 8) :
    Calls Tryz.prog 105 #[.pointer (some ⟨x, 0, none⟩)] w fun e w' => e = .returned (.tuple #[bools8 (sF (l.map Prod.snd)), ints8 (sA (l.map Prod.snd))]) ∧ Below w.heap.size w w' := by
  have X0 := (Blk.new w w.heap.size rfl (b8 fun _ => false) 88).alloc (.cells (i8 fun _ => 0) 22)
  have X1 := Blk.new (w.alloc (.cells (b8 fun _ => false) 88)) (w.heap.size + 1) (by simp) (i8 fun _ => 0) 22
  have hb := ((Below.refl w.heap.size w).alloc (Nat.le_refl _) (.cells (b8 fun _ => false) 88)).alloc (by simp) (.cells (i8 fun _ => 0) 22)
  have H := h.below hb
  have hz : ((w.alloc (.cells (b8 fun _ => false) 88)).alloc (.cells (i8 fun _ => 0) 22)).heap.size = w.heap.size + 1 + 1 := by simp
  have y0 := H.blk.cell 0 (x := .slice (some ⟨b, 0, none⟩) l.length l.length) rfl
  unfold b8 i8 at *
  unfold bools8 ints8
  go_enter Tryz.func105, Tryz.ntmps105
  go_wp2_with fail
  generalize ((w.alloc (.cells #[.bool false, .bool false, .bool false, .bool false, .bool false, .bool false, .bool false, .bool false] 88)).alloc (.cells #[.int .i64 0, .int .i64 0, .int .i64 0, .int .i64 0, .int .i64 0, .int .i64 0, .int .i64 0, .int .i64 0] 22)) = w2 at *
  have HX : Hid (∀ W k v s, Below w.heap.size w W → l[k]? = some (v, s) → W.cell? ⟨b, k * 3, none⟩ = some v ∧ W.cell? ⟨b, k * 3 + 1, none⟩ = some (.int .i64 s.at_) ∧ W.cell? ⟨b, k * 3 + 2, none⟩ = some (.bool s.df) ∧ ∃ A c, v = .slice A s.n c) := Lib.hid fun W k v s hW hk => by
    have h2 := (h.below hW).sd
    obtain ⟨A, c, e, -⟩ := (h2.row _ (List.mem_of_getElem? hk)).sees
    obtain ⟨e0, e1, e2⟩ := h2.cells hk
    exact ⟨e0, e1, e2, A, c, e⟩
  clear H h
  go_loopw [11] (fun i wr => ∃ k : Nat, k ≤ l.length ∧ i = .int .i64 k ∧ Blk wr w.heap.size (b8 fun i => decide (i < k) && sF (l.map Prod.snd) i) 88 ∧ Blk wr (w.heap.size + 1) (i8 fun i => if i < k then sA (l.map Prod.snd) i else 0) 22 ∧ Below w.heap.size w wr ∧ w.heap.size + 1 + 1 ≤ wr.heap.size) (fun i _ => l.length - (intOf i).toNat)
  case atStart => exact ⟨0, by omega, rfl, by simpa [b8] using X0, by simpa [i8] using X1, hb, by omega⟩
  case round =>
    obtain ⟨k, hk, rfl, hR0, hR1, hbk, hzk⟩ := hrel
    clear X0 X1
    by_cases hlt : k < l.length
    · have q1 : decide ((k : Int) < (l.length : Nat)) = true := by simp; omega
      obtain ⟨⟨v, s⟩, hk0⟩ : ∃ y, l[k]? = some y := ⟨_, List.getElem?_eq_getElem hlt⟩
      obtain ⟨e0, e1, e2, A, c', rfl⟩ := HX.out wr k v s hbk hk0
      have eF : sF (l.map Prod.snd) k = decide (0 < s.n) := by simp [sF, hk0]
      have eA : sA (l.map Prod.snd) k = s.at_ := by simp [sA, hk0]
      have N0 := Lib.hid (b8_set (sF (l.map Prod.snd)) k (by omega))
      have N1 := Lib.hid (i8_set (sA (l.map Prod.snd)) k (by omega))
      rw [eF] at N0
      rw [eA] at N1
      have O := hR0.alloc (.cells #[.slice A s.n c', .int .i64 s.at_, .bool s.df] 164)
      have O1 := hR1.alloc (.cells #[.slice A s.n c', .int .i64 s.at_, .bool s.df] 164)
      have ON := Blk.new wr wr.heap.size rfl #[.slice A s.n c', .int .i64 s.at_, .bool s.df] 164
      have hbk2 := hbk.alloc hbk.size (.cells #[.slice A s.n c', .int .i64 s.at_, .bool s.df] 164)
      have c0 := O.cell k (b8_get (fun i => decide (i < k) && sF (l.map Prod.snd) i) k (by omega))
      have c1 := O1.cell k (i8_get (fun i => if i < k then sA (l.map Prod.snd) i else 0) k (by omega))
      have f0 := O.frozen k
      have f1 := O1.frozen k
      have n0 := ON.cell 0 (x := .slice A s.n c') rfl
      have n1 := ON.cell 1 (x := .int .i64 s.at_) rfl
      have i1 : (k : Int) < 8 := by omega
      have q2 : decide ((s.n : Int) > 0) = decide (0 < s.n) := by rw [Bool.eq_iff_iff]; simp
      have q3 : decide ((0 : Int) < (s.n : Int)) = decide (0 < s.n) := by rw [Bool.eq_iff_iff]; simp
      go_wp2_with fail
      generalize wr.alloc (.cells #[.slice A s.n c', .int .i64 s.at_, .bool s.df] 164) = wx at *
      have RR0 := Lib.hid (((O.set k (.bool (decide (0 < s.n)))).other ⟨w.heap.size + 1, k, none⟩ (by simp) (.int .i64 s.at_)).eq N0.out)
      have RR1 := Lib.hid (((O1.other ⟨w.heap.size, k, none⟩ (by simp) (.bool (decide (0 < s.n)))).set k (.int .i64 s.at_)).eq N1.out)
      have BB := Lib.hid ((hbk2.setCell (p := ⟨w.heap.size, k, none⟩) (Nat.le_refl _) (.bool (decide (0 < s.n)))).setCell (p := ⟨w.heap.size + 1, k, none⟩) (by simp) (.int .i64 s.at_))
      have hzx : w.heap.size + 1 + 1 ≤ wx.heap.size := by have := O1.lt; have := ON.lt; omega
      have ZZ := Lib.hid (show w.heap.size + 1 + 1 ≤ ((wx.setCell ⟨w.heap.size, k, none⟩ (.bool (decide (0 < s.n)))).setCell ⟨w.heap.size + 1, k, none⟩ (.int .i64 s.at_)).heap.size by simpa [World.setCell] using hzx)
      clear hR0 hR1 hbk O O1 ON N0 N1 hbk2 eF eA HX
      go_region
      go_wp2_with fail
      go_roundw
      case rel => exact ⟨k + 1, by omega, by go_num, RR0.out.drew, RR1.out.drew, BB.out.drew, ZZ.out⟩
      case measure => simp [intOf]; omega
    · obtain rfl : k = l.length := by omega
      have q1 : decide ((l.length : Int) < (l.length : Nat)) = false := by simp
      have e0 := sF_all (l.map Prod.snd)
      have e1 := sA_all (l.map Prod.snd)
      simp only [List.length_map] at e0 e1
      rw [e0] at hR0
      rw [e1] at hR1
      clear e0 e1 HX
      generalize hff : sF (l.map Prod.snd) = ff at *
      generalize haa : sA (l.map Prod.snd) = aa at *
      have HFF := Lib.hid hff
      have HAA := Lib.hid haa
      clear hff haa
      have c00 := hR0.cell 0 (x := .bool (ff 0)) rfl
      have f00 := hR0.frozen 0
      have c01 := hR0.cell 1 (x := .bool (ff 1)) rfl
      have f01 := hR0.frozen 1
      have c02 := hR0.cell 2 (x := .bool (ff 2)) rfl
      have f02 := hR0.frozen 2
      have c03 := hR0.cell 3 (x := .bool (ff 3)) rfl
      have f03 := hR0.frozen 3
      have c04 := hR0.cell 4 (x := .bool (ff 4)) rfl
      have f04 := hR0.frozen 4
      have c05 := hR0.cell 5 (x := .bool (ff 5)) rfl
      have f05 := hR0.frozen 5
      have c06 := hR0.cell 6 (x := .bool (ff 6)) rfl
      have f06 := hR0.frozen 6
      have c07 := hR0.cell 7 (x := .bool (ff 7)) rfl
      have f07 := hR0.frozen 7
      have c10 := hR1.cell 0 (x := .int .i64 (aa 0)) rfl
      have f10 := hR1.frozen 0
      have c11 := hR1.cell 1 (x := .int .i64 (aa 1)) rfl
      have f11 := hR1.frozen 1
      have c12 := hR1.cell 2 (x := .int .i64 (aa 2)) rfl
      have f12 := hR1.frozen 2
      have c13 := hR1.cell 3 (x := .int .i64 (aa 3)) rfl
      have f13 := hR1.frozen 3
      have c14 := hR1.cell 4 (x := .int .i64 (aa 4)) rfl
      have f14 := hR1.frozen 4
      have c15 := hR1.cell 5 (x := .int .i64 (aa 5)) rfl
      have f15 := hR1.frozen 5
      have c16 := hR1.cell 6 (x := .int .i64 (aa 6)) rfl
      have f16 := hR1.frozen 6
      have c17 := hR1.cell 7 (x := .int .i64 (aa 7)) rfl
      have f17 := hR1.frozen 7
      have HB := Lib.hid hbk
      clear hR0 hR1 hbk y0 hb
      go_wp2_with fail
      go_region
      go_wp2_with fail
      refine bodyPost_ret (v := .tuple #[.agg #[.bool (ff 0), .bool (ff 1), .bool (ff 2), .bool (ff 3), .bool (ff 4), .bool (ff 5), .bool (ff 6), .bool (ff 7)], .agg #[.int .i64 (aa 0), .int .i64 (aa 1), .int .i64 (aa 2), .int .i64 (aa 3), .int .i64 (aa 4), .int .i64 (aa 5), .int .i64 (aa 6), .int .i64 (aa 7)]]) ?_ rfl ⟨by rw [HFF.out, HAA.out], ?_⟩
      · rw [results_cells2 rfl]
        go_simp
      · (repeat' (first | (with_reducible exact HB.out) | (with_reducible refine Below.drew ?_) | (with_reducible refine Below.setCell ?_ ?_ _) | exact Nat.le_refl _ | (simp; done)))
set_option maxRecDepth 100000 in
set_option maxHeartbeats 1000000 in
theorem when_no (x : Nat) (w : World) :
    Calls Tryz.prog 112 #[.pointer (some ⟨x, 0, none⟩), .int .i64 (-1)] w fun e w' => e = .returned (.int .i64 0) ∧ w = w' := by
  go_enter Tryz.func112, Tryz.ntmps112
  go_wp2
  go_ret
  exact ⟨rfl, rfl⟩
set_option maxRecDepth 100000 in
set_option maxHeartbeats 1000000 in
theorem when_yes (x b k : Nat) (l : List (Value × Sd)) (v : Value) (s : Sd) (c d : Ch) (P : List Nat) (w : World) (h : XAt w P x b l c d) (hk : l[k]? = some (v, s)) :
    Calls Tryz.prog 112 #[.pointer (some ⟨x, 0, none⟩), .int .i64 (k : Nat)] w fun e w' => e = .returned (.int .i64 s.at_) ∧ w = w' := by
  have y0 := h.blk.cell 0 (x := .slice (some ⟨b, 0, none⟩) l.length l.length) rfl
  obtain ⟨-, e1, -⟩ := h.sd.cells hk
  have hlt := (List.getElem?_eq_some_iff.1 hk).1
  have q0 : ((k : Int) == -1) = false := by rw [beq_eq_false_iff_ne]; omega
  have i1 : (k : Int) < (l.length : Nat) := by omega
  clear h
  go_enter Tryz.func112, Tryz.ntmps112
  go_wp2
  go_ret
  exact ⟨rfl, rfl⟩
end Go.Proofs.YtjoioojckekfhaaGreat

/-! ### FrK -/
namespace Go.Proofs.YtjoioojckekfhaaGreat
open Go.RowKit
open Fr (St F)

end Go.Proofs.YtjoioojckekfhaaGreat

/-! ### FrO -/
namespace Go.Proofs.YtjoioojckekfhaaGreat
open Go.ChangeShapes Go.WideShapes Go.ChangeAt Go.RowKit Go.Joins Go.Deep
open Fr (St F)

/-- Bounds of an int. -/
def i64f (x : Int) : Prop := -9223372036854775808 ≤ x ∧ x ≤ 9223372036854775807
structure InState (s : St) : Prop where
  hr : i64f s.r
  hs : i64f s.s
  hm : i64f s.m
structure InFrame (w : World) (f : F) (v : Value) : Prop where
  sees : SeesL w w.heap.size v f.d
  bytes : bytesL f.d
  hk : i64f f.k
  hst : InState f.st
  reach : f.d.length ≤ 140737488351232

section
variable {H : Type} {enc : TypeId × Value → H} {P : Program} {w : World} {base : Nat} {spare : Nat → Bool} {held : Bool}
theorem int_cell {t : TypeId} {n : Nat} {v : Value} {y : DataW H × List MemPlace} (hi : P.underlying t = some (.int .i64)) (h : DataW.trod enc P w base spare held n t [v] = some y) : ∃ z, v = .int .i64 z ∧ i64f z := by
  obtain ⟨z, hz, hy, hw⟩ := DataW.trod_int hi h
  exact ⟨z, by simpa using hz, bounds_i64 hw⟩
theorem array5 {α : Type} {cs : Array α} (h : cs.size = 5) : ∃ c0 c1 c2 c3 c4, cs = #[c0, c1, c2, c3, c4] := by
  obtain ⟨l⟩ := cs
  match l, h with
  | [c0, c1, c2, c3, c4], _ => exact ⟨c0, c1, c2, c3, c4, rfl⟩
theorem state_cells {t ti : TypeId} {f0 f1 f2 : Field} {n : Nat} {c0 c1 c2 : Value} {y : DataW H × List MemPlace} (hs : P.underlying t = some (.struct #[f0, f1, f2])) (t0 : f0.type = ti ∧ f0.offset = 0) (t1 : f1.type = ti ∧ f1.offset = 1) (t2 : f2.type = ti ∧ f2.offset = 2) (hi : P.underlying ti = some (.int .i64)) (hc : P.cellsOf ti = 1)
    (h : DataW.trod enc P w base spare held n t [c0, c1, c2] = some y) : ∃ s : St, c0 = .int .i64 s.r ∧ c1 = .int .i64 s.s ∧ c2 = .int .i64 s.m ∧ InState s := by
  obtain ⟨y0, y1, y2, m, _, _, h0, h1, h2⟩ := trod_struct3 hs h
  rw [t0.1, t0.2, hc] at h0
  rw [t1.1, t1.2, hc] at h1
  rw [t2.1, t2.2, hc] at h2
  obtain ⟨a, rfl, ha⟩ := int_cell hi h0
  obtain ⟨b, rfl, hb⟩ := int_cell hi h1
  obtain ⟨c, rfl, hc⟩ := int_cell hi h2
  exact ⟨⟨a, b, c⟩, rfl, rfl, rfl, ha, hb, hc⟩
theorem sees_state {r : Reach} {b0 : Nat} {t ti : TypeId} {f0 f1 f2 : Field} {v : Value} {d : DataW H} {ps : List MemPlace} (hs : P.underlying t = some (.struct #[f0, f1, f2])) (hC : P.cellsOf t = 3) (t0 : f0.type = ti ∧ f0.offset = 0) (t1 : f1.type = ti ∧ f1.offset = 1) (t2 : f2.type = ti ∧ f2.offset = 2) (hi : P.underlying ti = some (.int .i64)) (hc : P.cellsOf ti = 1)
    (hv : Value.okWide P w r b0 t v) (h : DataW.Trod enc P w base spare held t v d ps) : ∃ s : St, v = stV s ∧ InState s := by
  obtain ⟨cs, rfl, hsz⟩ := okWide_struct hs hv
  obtain ⟨c0, c1, c2, rfl⟩ := array3 (hsz.trans hC)
  obtain ⟨fuel, hf⟩ := h
  obtain ⟨s, rfl, rfl, rfl, hS⟩ := state_cells hs t0 t1 t2 hi hc hf
  exact ⟨s, rfl, hS⟩
theorem sees_frame {r : Reach} {b0 : Nat} {t ts ti tb te : TypeId} {g0 g1 g2 f0 f1 f2 : Field} {v : Value} {d : DataW H} {ps : List MemPlace} (hF : P.underlying t = some (.struct #[g0, g1, g2])) (hC : P.cellsOf t = 5) (u0 : g0.type = ti ∧ g0.offset = 0) (u1 : g1.type = ts ∧ g1.offset = 1) (u2 : g2.type = tb ∧ g2.offset = 4)
    (hS : P.underlying ts = some (.struct #[f0, f1, f2])) (hCs : P.cellsOf ts = 3) (t0 : f0.type = ti ∧ f0.offset = 0) (t1 : f1.type = ti ∧ f1.offset = 1) (t2 : f2.type = ti ∧ f2.offset = 2) (hi : P.underlying ti = some (.int .i64)) (hc : P.cellsOf ti = 1)
    (hb : P.underlying tb = some (.slice te)) (he : P.underlying te = some (.int .u8)) (hcb : P.cellsOf tb = 1) (hce : P.cellsOf te = 1) (hbe : P.bytesOf te = 1)
    (hv : Value.okWide P w r b0 t v) (hw : ∀ n ∈ d.weights P t, n ≤ reachBytes) (h : DataW.Trod enc P w base spare held t v d ps) : ∃ (f : F) (s : Value), v = frV f s ∧ InFrame w f s := by
  obtain ⟨cs, rfl, hsz⟩ := okWide_struct hF hv
  obtain ⟨c0, c1, c2, c3, c4, rfl⟩ := array5 (hsz.trans hC)
  obtain ⟨fuel, hf⟩ := h
  obtain ⟨y0, y1, y2, n, hx, _, h0, h1, h2⟩ := trod_struct3 hF hf
  rw [u0.1, u0.2, hc] at h0
  rw [u1.1, u1.2, hCs] at h1
  rw [u2.1, u2.2, hcb] at h2
  obtain ⟨k, rfl, hk⟩ := int_cell hi h0
  obtain ⟨st, rfl, rfl, rfl, hst⟩ := state_cells hS t0 t1 t2 hi hc h1
  have h2' : DataW.trod enc P w base spare held n tb [c4] = some y2 := h2
  have hd : d = .agg [y0.1, y1.1, y2.1] := (Prod.mk.inj hx).1
  have hw2 : ∀ m ∈ y2.1.weights P tb, m ≤ reachBytes := fun m hm => hw m (by
    rw [hd]
    simp only [DataW.weights, hF, List.map_cons, List.map_nil, DataW.weightsEach, u2.1]
    simp [hm])
  have hform : ∃ A l c, c4 = .slice A l c := by
    rcases open_ints hb he hce h2' with ⟨hcs, _⟩ | ⟨x, l, cp, zs, hcs, _⟩
    · exact ⟨_, _, _, by simpa using hcs⟩
    · exact ⟨_, _, _, by simpa using hcs⟩
  obtain ⟨A, l, c, rfl⟩ := hform
  obtain ⟨z, hz⟩ := sees_bytesn (d := y2.1) (ps := y2.2) hb he hce ⟨n, h2'⟩ hbe (fun es rest hes => hw2 _ (by rw [hes]; simp [DataW.weights, hb]))
  obtain ⟨hl1, hl2⟩ := hz.list
  exact ⟨⟨k, st, lst z l⟩, .slice A l c, rfl, hl1, hl2, hk, hst, by rw [lst_length]; exact hz.reach⟩
end
end Go.Proofs.YtjoioojckekfhaaGreat

/-! ### FrP -/
namespace Go.Proofs.YtjoioojckekfhaaGreat
open Go.RowKit
open Fr (St F)

theorem OwnsL.block {w : World} {B : Nat} {v : Value} {l : List Int} (h : OwnsL w B v l) (h0 : 0 < l.length) : ∃ g c, v = .slice (some ⟨g, 0, none⟩) l.length c ∧ B ≤ g := by
  rcases h.2 with ⟨_, h2⟩ | ⟨g, cap, cur, h1, h2, _⟩
  · omega
  · exact ⟨g, cap, h1, h2⟩
theorem OwnsL.cell {w : World} {B g n c : Nat} {l : List Int} (h : OwnsL w B (.slice (some ⟨g, 0, none⟩) n c) l) (hn : n = l.length) {i : Nat} (hi : i < l.length) : w.cell? ⟨g, i, none⟩ = some (.int .u8 (l.getD i 0)) := by
  subst hn
  exact Owns.cell h hi
theorem OwnsL.frozen {w : World} {B g n c : Nat} {l : List Int} (h : OwnsL w B (.slice (some ⟨g, 0, none⟩) n c) l) (hn : n = l.length) (i : Nat) : w.frozen? ⟨g, i, none⟩ = false := by
  subst hn
  exact Owns.frozen h i
theorem OwnsL.set {w : World} {B g n c : Nat} {l : List Int} (h : OwnsL w B (.slice (some ⟨g, 0, none⟩) n c) l) (hn : n = l.length) (i : Nat) (x : Int) (hi : i < l.length) : OwnsL (w.setCell ⟨g, i, none⟩ (.int .u8 x)) B (.slice (some ⟨g, 0, none⟩) n c) (l.set i x) := by
  subst hn
  have := Owns.set_ h i (.int .u8 x) (V' := bv (l.set i x)) (by simp [bv, List.getD_eq_getElem?_getD, hi]) (fun j _ hj => by simp [bv, List.getD_eq_getElem?_getD, List.getElem?_set_ne (Ne.symm hj)])
  unfold OwnsL
  rw [List.length_set]
  exact this
theorem bytesL.set {l : List Int} (h : bytesL l) (i : Nat) {x : Int} (hx : 0 ≤ x ∧ x < 256) : bytesL (l.set i x) := fun y hy => by
  rcases List.mem_or_eq_of_mem_set hy with hy | rfl
  · exact h y hy
  · exact hx
/-- Two new blocks, of five cells and of three. -/
structure Box53 (w w0 : World) (x0 x1 x2 x3 x4 y0 y1 y2 : Value) : Prop where
  size : w0.heap.size = w.heap.size + 2
  below : Below w.heap.size w w0
  cell : ∀ W, Below w0.heap.size w0 W → w.heap.size + 1 < W.heap.size ∧ (W.cell? ⟨w.heap.size, 0, none⟩ = some x0 ∧ W.cell? ⟨w.heap.size, 1, none⟩ = some x1 ∧ W.cell? ⟨w.heap.size, 2, none⟩ = some x2 ∧ W.cell? ⟨w.heap.size, 3, none⟩ = some x3 ∧ W.cell? ⟨w.heap.size, 4, none⟩ = some x4) ∧
    W.cell? ⟨w.heap.size + 1, 0, none⟩ = some y0 ∧ W.cell? ⟨w.heap.size + 1, 1, none⟩ = some y1 ∧ W.cell? ⟨w.heap.size + 1, 2, none⟩ = some y2
theorem box53 (w : World) (x0 x1 x2 x3 x4 y0 y1 y2 : Value) (t t' : TypeId) : Box53 w ((w.alloc (.cells #[x0, x1, x2, x3, x4] t)).alloc (.cells #[y0, y1, y2] t')) x0 x1 x2 x3 x4 y0 y1 y2 := by
  refine ⟨by simp, ((Below.refl _ _).alloc (Nat.le_refl _) _).alloc (by simp) _, fun W hb => ?_⟩
  have hz := hb.size
  have hc := bcell hb
  simp only [World.size_alloc] at hz
  refine ⟨by omega, ⟨?_, ?_, ?_, ?_, ?_⟩, ?_, ?_, ?_⟩
  iterate 5 (rw [hc _ _ (by simp; omega), World.cell?_alloc_past _ _ _ (by simp), World.cell?_alloc_at _ _ _ _ rfl]; rfl)
  iterate 3 (rw [hc _ _ (by simp), World.cell?_alloc_at _ _ _ _ (by simp)]; rfl)
structure Box55 (w w0 : World) (x0 x1 x2 x3 x4 y0 y1 y2 y3 y4 : Value) : Prop where
  size : w0.heap.size = w.heap.size + 2
  below : Below w.heap.size w w0
  cell : ∀ W, Below w0.heap.size w0 W → w.heap.size + 1 < W.heap.size ∧ (W.cell? ⟨w.heap.size, 0, none⟩ = some x0 ∧ W.cell? ⟨w.heap.size, 1, none⟩ = some x1 ∧ W.cell? ⟨w.heap.size, 2, none⟩ = some x2 ∧ W.cell? ⟨w.heap.size, 3, none⟩ = some x3 ∧ W.cell? ⟨w.heap.size, 4, none⟩ = some x4) ∧
    W.cell? ⟨w.heap.size + 1, 0, none⟩ = some y0 ∧ W.cell? ⟨w.heap.size + 1, 1, none⟩ = some y1 ∧ W.cell? ⟨w.heap.size + 1, 2, none⟩ = some y2 ∧ W.cell? ⟨w.heap.size + 1, 3, none⟩ = some y3 ∧ W.cell? ⟨w.heap.size + 1, 4, none⟩ = some y4
theorem box55 (w : World) (x0 x1 x2 x3 x4 y0 y1 y2 y3 y4 : Value) (t t' : TypeId) : Box55 w ((w.alloc (.cells #[x0, x1, x2, x3, x4] t)).alloc (.cells #[y0, y1, y2, y3, y4] t')) x0 x1 x2 x3 x4 y0 y1 y2 y3 y4 := by
  refine ⟨by simp, ((Below.refl _ _).alloc (Nat.le_refl _) _).alloc (by simp) _, fun W hb => ?_⟩
  have hz := hb.size
  have hc := bcell hb
  simp only [World.size_alloc] at hz
  refine ⟨by omega, ⟨?_, ?_, ?_, ?_, ?_⟩, ?_, ?_, ?_, ?_, ?_⟩
  iterate 5 (rw [hc _ _ (by simp; omega), World.cell?_alloc_past _ _ _ (by simp), World.cell?_alloc_at _ _ _ _ rfl]; rfl)
  iterate 5 (rw [hc _ _ (by simp), World.cell?_alloc_at _ _ _ _ (by simp)]; rfl)
structure Box33 (w w0 : World) (x0 x1 x2 y0 y1 y2 : Value) : Prop where
  size : w0.heap.size = w.heap.size + 2
  below : Below w.heap.size w w0
  cell : ∀ W, Below w0.heap.size w0 W → w.heap.size + 1 < W.heap.size ∧ (W.cell? ⟨w.heap.size, 0, none⟩ = some x0 ∧ W.cell? ⟨w.heap.size, 1, none⟩ = some x1 ∧ W.cell? ⟨w.heap.size, 2, none⟩ = some x2) ∧
    W.cell? ⟨w.heap.size + 1, 0, none⟩ = some y0 ∧ W.cell? ⟨w.heap.size + 1, 1, none⟩ = some y1 ∧ W.cell? ⟨w.heap.size + 1, 2, none⟩ = some y2
theorem box33 (w : World) (x0 x1 x2 y0 y1 y2 : Value) (t t' : TypeId) : Box33 w ((w.alloc (.cells #[x0, x1, x2] t)).alloc (.cells #[y0, y1, y2] t')) x0 x1 x2 y0 y1 y2 := by
  refine ⟨by simp, ((Below.refl _ _).alloc (Nat.le_refl _) _).alloc (by simp) _, fun W hb => ?_⟩
  have hz := hb.size
  have hc := bcell hb
  simp only [World.size_alloc] at hz
  refine ⟨by omega, ⟨?_, ?_, ?_⟩, ?_, ?_, ?_⟩
  iterate 3 (rw [hc _ _ (by simp; omega), World.cell?_alloc_past _ _ _ (by simp), World.cell?_alloc_at _ _ _ _ rfl]; rfl)
  iterate 3 (rw [hc _ _ (by simp), World.cell?_alloc_at _ _ _ _ (by simp)]; rfl)
theorem encR_is {f : F} (h : f.is = true) : encR f = f.bytes ∧ encE f = 0 := by simp [encR, encE, h]
theorem xor_byte (x y : Int) (hx : 0 ≤ x ∧ x < 256) (hy : 0 ≤ y ∧ y < 256) (h : y ≠ 0) : (0 ≤ bits BinOp.xor IntKind.u8 x y ∧ bits BinOp.xor IntKind.u8 x y < 256) ∧ bits BinOp.xor IntKind.u8 x y ≠ x := by
  obtain ⟨X, rfl⟩ := Int.eq_ofNat_of_zero_le hx.1
  obtain ⟨Y, rfl⟩ := Int.eq_ofNat_of_zero_le hy.1
  have hl : X ^^^ Y < 256 := Nat.xor_lt_two_pow (n := 8) (by omega) (by omega)
  rw [u8_xor_nat X Y (by omega) (by omega)]
  refine ⟨⟨by omega, by omega⟩, fun e => h ?_⟩
  have e2 : X = X ^^^ Y := by omega
  have := congrArg (X ^^^ ·) e2
  simp only [Nat.xor_self, ← Nat.xor_assoc, Nat.zero_xor] at this
  omega
end Go.Proofs.YtjoioojckekfhaaGreat
