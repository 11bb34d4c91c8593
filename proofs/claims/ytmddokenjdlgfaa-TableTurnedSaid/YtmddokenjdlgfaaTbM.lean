/- The contract of Unpack; of the reference's Same. -/
import Derived.Test.YtmddokenjdlgfaaTbI
import Derived.Test.YtmddokenjdlgfaaTbK
namespace Go.Proofs.Ytmddokenjdlgfaa
open Go.RowKit
open Tb (D T)

theorem equal_any (va vb : Value) (la lb : List Int) (w : World) (B : Nat) (ha : SeesL w B va la) (hb : SeesL w B vb lb) (hla : bytesL la) (hlb : bytesL lb) :
    Calls Try.prog 34 #[va, vb] w fun e w' => e = .returned (.bool (decide (la = lb))) ∧ w = w' := by
  have t1 := run_textL ha
  have t2 := run_textL hb
  have hd : decide (la = lb) = decide (textL la = textL lb) := by simp [textL_iff hla hlb]
  obtain ⟨A, c, rfl, -, -, -, -⟩ := ha.at_
  obtain ⟨A', c', rfl, -, -, -, -⟩ := hb.at_
  rw [hd]
  clear hd ha hb hla hlb
  generalize la.length = n at *
  generalize lb.length = n' at *
  generalize textL la = X at *
  generalize textL lb = X' at *
  by_cases eT : X = X'
  case' pos => subst eT
  case' neg =>
    have eT2 : ¬ X.toList = X'.toList := fun h => eT (by
      rw [ByteArray.toList_eq, ByteArray.toList_eq] at h
      exact ByteArray.ext (Array.toList_inj.1 h))
  all_goals
    go_enter Try.func34, Try.ntmps34
    go_wp2
    go_ret
    exact ⟨by simp [*], rfl⟩

/-- What Unpack answers. -/
def Un (w : World) (l : List Int) (e : Ending) (w' : World) : Prop := ∃ v, e = .returned (.tuple #[tabV (Tb.res l) v, .int .i64 (Tb.err l)]) ∧ OwnsD w' w.heap.size v (Tb.res l).ns ∧ Below w.heap.size w w'

theorem rd0_good (l : List Int) : ((rd0 l).is && decide ((rd0 l).bytes = l)) = Tb.good l := by
  unfold rd0 Tb.good
  cases Tb.lenB l
  · simp [Tb.zero_is]
  · simp
theorem results_cell_tmp {fn : Func} {p q : Tmp} {ty : TypeId} (h : fn.results = #[.cell p ty, .tmp q]) (tmps : Array Value) (P : Program) (w : World) :
    (results fn tmps).run P w = ((asAddr (tmps.getD p undef)).run P w).andThen fun a w₁ => ((loadVar ty a).run P w₁).andThen fun x w₂ => .ok (.tuple #[x, tmps.getD q undef]) w₂ := by
  simp only [results, h]
  simp [Sem.run_bind, Result.andThen]

set_option maxRecDepth 100000 in
set_option maxHeartbeats 4000000 in
theorem unpack_tb (v : Value) (l : List Int) (w : World) (hv : SeesL w w.heap.size v l) (hl : bytesL l) :
    Calls Try.prog 20 #[v] w (Un w l) := by
  have hr := fun W (hb : Below w.heap.size w W) => read_tb v l W ((hv.below hb).more hb.size) hl
  have hp := fun u W (h : SeesT W W.heap.size u (rd0 l).ns) => pack_tb (rd0 l) u W W.heap.size (Nat.le_refl _) h
  unfold Pk pkR pkE at hp
  have hg := rd0_good l
  have hres : Tb.res l = if Tb.good l then rd0 l else Tb.zero := by
    unfold Tb.res rd0
    cases h : Tb.good l
    · rfl
    · have : Tb.lenB l = true := by simp only [Tb.good, Bool.and_eq_true] at h; exact h.1
      simp [this]
  have herr : Tb.err l = if Tb.good l then 0 else 2 := rfl
  have hbo : (rd0 l).is = true → bytesL (rd0 l).bytes := fun h => Tb.bytes_ok h
  unfold Un
  rw [hres, herr, ← hg]
  generalize rd0 l = t at *
  clear hg hres herr
  unfold tabV at hr hp ⊢
  obtain ⟨A, c, rfl, c1, c2, -, -⟩ := hv.at_
  have hv2 := Lib.hid hv
  obtain ⟨ns, dr, wi, lm⟩ := t
  simp only at hr
  have hR := Blk.new w _ rfl #[.slice none 0 0, .int .i64 0, .int .i64 0, .int .i64 0] 24
  have hb0 := (Below.refl w.heap.size w).alloc (Nat.le_refl _) (.cells #[.slice none 0 0, .int .i64 0, .int .i64 0, .int .i64 0] 24)
  cases hi : T.is ⟨ns, dr, wi, lm⟩
  · simp only [hi, Bool.false_and, if_false, Bool.false_eq_true] at hp ⊢
    have hr := fun W hb => Lib.hid (hr W hb)
    have hp := fun u W h => Lib.hid (hp u W h)
    unfold Tb.zero
    simp only
    clear hbo hi hv
    go_enter Try.func20, Try.ntmps20
    go_wp2_with fail
    generalize w.alloc (.cells #[.slice none 0 0, .int .i64 0, .int .i64 0, .int .i64 0] 24) = w0 at *
    refine (hr w0 hb0).out.mono ?_
    rintro e w1 ⟨v1, rfl, ho1, hb1⟩
    obtain ⟨A1, d1, rfl, -⟩ := ho1.sees.at_
    have hs1 := (ho1.sees.below ((Below.refl _ _).alloc (Nat.le_refl _) (.cells #[.slice A1 ns.length d1, .int .i64 dr, .int .i64 wi, .int .i64 lm] 24))).more (B' := (w1.alloc (.cells #[.slice A1 ns.length d1, .int .i64 dr, .int .i64 wi, .int .i64 lm] 24)).heap.size) (by simp)
    have hbx := (hb0.trans (hb1.mono hb0.size)).alloc (Nat.le_trans hb0.size hb1.size) (.cells #[.slice A1 ns.length d1, .int .i64 dr, .int .i64 wi, .int .i64 lm] 24)
    have hR1 := (hR.below hb1 hR.lt).alloc (.cells #[.slice A1 ns.length d1, .int .i64 dr, .int .i64 wi, .int .i64 lm] 24)
    clear ho1 hr hR
    go_wp2_with fail
    generalize w1.alloc (.cells #[.slice A1 ns.length d1, .int .i64 dr, .int .i64 wi, .int .i64 lm] 24) = wx at *
    refine (hp _ wx hs1).out.mono ?_
    rintro e w2 ⟨p2, rfl, ho2, hb2⟩
    have hR2 := hR1.below hb2 hR1.lt
    have hbf := hbx.trans (hb2.mono hbx.size)
    have r0 := hR2.cell 0 rfl
    have r1 := hR2.cell 1 rfl
    have r2 := hR2.cell 2 rfl
    have r3 := hR2.cell 3 rfl
    have f0 := hR2.frozen 0
    have f1 := hR2.frozen 1
    have f2 := hR2.frozen 2
    have f3 := hR2.frozen 3
    clear hs1 ho2 hp hR1 hR2
    go_wp2_with fail
    (try simp only [Exit.inBlock, Exit.then])
    refine bodyPost_ret (v := .tuple #[.agg #[.slice none 0 0, .int .i64 0, .int .i64 0, .int .i64 0], .int .i64 2]) ?_ rfl ⟨_, rfl, OwnsD.nil, ?_⟩
    · rw [results_cell_tmp rfl]
      go_simp
    · (repeat' (first | exact hbf | (with_reducible refine Below.setCell ?_ ?_ _) | exact Nat.le_refl _))
  · have hbo := Lib.hid (hbo hi)
    simp only [hi, Bool.true_and, if_true] at hp ⊢
    obtain ⟨bs, hbs⟩ : ∃ bs, T.bytes ⟨ns, dr, wi, lm⟩ = bs := ⟨_, rfl⟩
    rw [hbs] at hp hbo ⊢
    have hr := fun W hb => Lib.hid (hr W hb)
    have hp := fun u W h => Lib.hid (hp u W h)
    have hL := Lib.hid hl
    have heq := fun u W (h1 : SeesL W W.heap.size u bs) (h2 : SeesL W W.heap.size (.slice A l.length c) l) => Lib.hid (equal_any u (.slice A l.length c) bs l W W.heap.size h1 h2 hbo.out hL.out)
    unfold Tb.zero
    clear hbs hi hv hl
    by_cases hbl : bs = l
    · subst hbl
      simp only [decide_true, if_true] at heq ⊢
      go_enter Try.func20, Try.ntmps20
      go_wp2_with fail
      generalize w.alloc (.cells #[.slice none 0 0, .int .i64 0, .int .i64 0, .int .i64 0] 24) = w0 at *
      refine (hr w0 hb0).out.mono ?_
      rintro e w1 ⟨v1, rfl, ho1, hb1⟩
      obtain ⟨A1, d1, rfl, -⟩ := ho1.sees.at_
      have hs1 := (ho1.sees.below ((Below.refl _ _).alloc (Nat.le_refl _) (.cells #[.slice A1 ns.length d1, .int .i64 dr, .int .i64 wi, .int .i64 lm] 24))).more (B' := (w1.alloc (.cells #[.slice A1 ns.length d1, .int .i64 dr, .int .i64 wi, .int .i64 lm] 24)).heap.size) (by simp)
      have hbx := (hb0.trans (hb1.mono hb0.size)).alloc (Nat.le_trans hb0.size hb1.size) (.cells #[.slice A1 ns.length d1, .int .i64 dr, .int .i64 wi, .int .i64 lm] 24)
      have hR1 := (hR.below hb1 hR.lt).alloc (.cells #[.slice A1 ns.length d1, .int .i64 dr, .int .i64 wi, .int .i64 lm] 24)
      have hT1 := Blk.new w1 _ rfl #[.slice A1 ns.length d1, .int .i64 dr, .int .i64 wi, .int .i64 lm] 24
      have hox := ho1.alloc (.cells #[.slice A1 ns.length d1, .int .i64 dr, .int .i64 wi, .int .i64 lm] 24)
      have hRl := hR.lt
      clear ho1 hr hR
      go_wp2_with fail
      generalize w1.alloc (.cells #[.slice A1 ns.length d1, .int .i64 dr, .int .i64 wi, .int .i64 lm] 24) = wx at *
      refine (hp _ wx hs1).out.mono ?_
      rintro e w2 ⟨p2, rfl, ho2, hb2⟩
      have hR2 := hR1.below hb2 hR1.lt
      have hT2 := hT1.below hb2 hT1.lt
      have ho3 := hox.below hb2 (Nat.le_refl _)
      have hbf := hbx.trans (hb2.mono hbx.size)
      have hsv := (hv2.out.below hbf).more hbf.size
      have hvR : (Value.slice A1 ns.length d1).ownBlock ≠ some w.heap.size := fun e => by have := (ho3.lt _ e).1; omega
      have hbz := hb0.size
      clear hs1 hp hR1 hT1 hox
      go_wp2_with fail
      refine (heq p2 w2 ho2.sees hsv).out.mono ?_
      rintro e w3 ⟨rfl, rfl⟩
      have r0 := hR2.cell 0 rfl
      have r1 := hR2.cell 1 rfl
      have r2 := hR2.cell 2 rfl
      have r3 := hR2.cell 3 rfl
      have f0 := hR2.frozen 0
      have f1 := hR2.frozen 1
      have f2 := hR2.frozen 2
      have f3 := hR2.frozen 3
      have t0 := hT2.cell 0 rfl
      have t1 := hT2.cell 1 rfl
      have t2 := hT2.cell 2 rfl
      have t3 := hT2.cell 3 rfl
      clear heq ho2 hR2 hT2 hsv
      go_wp2_with fail
      (try simp only [Exit.inBlock, Exit.then])
      refine bodyPost_ret (v := .tuple #[.agg #[.slice A1 ns.length d1, .int .i64 dr, .int .i64 wi, .int .i64 lm], .int .i64 0]) ?_ rfl ⟨_, rfl, ?_, ?_⟩
      · rw [results_cell_tmp rfl]
        go_simp
      · refine OwnsD.base (Bs := w0.heap.size) ?_ hbz
        (repeat' (first | exact ho3 | exact hvR | (with_reducible refine OwnsD.setOther ?_ _ _ ?_)))
      · (repeat' (first | exact hbf | (with_reducible refine Below.setCell ?_ ?_ _) | exact Nat.le_refl _))
    · have hd : decide (bs = l) = false := by simp [hbl]
      rw [hd] at heq ⊢
      simp only [if_false, Bool.false_eq_true]
      clear hd hbl
      go_enter Try.func20, Try.ntmps20
      go_wp2_with fail
      generalize w.alloc (.cells #[.slice none 0 0, .int .i64 0, .int .i64 0, .int .i64 0] 24) = w0 at *
      refine (hr w0 hb0).out.mono ?_
      rintro e w1 ⟨v1, rfl, ho1, hb1⟩
      obtain ⟨A1, d1, rfl, -⟩ := ho1.sees.at_
      have hs1 := (ho1.sees.below ((Below.refl _ _).alloc (Nat.le_refl _) (.cells #[.slice A1 ns.length d1, .int .i64 dr, .int .i64 wi, .int .i64 lm] 24))).more (B' := (w1.alloc (.cells #[.slice A1 ns.length d1, .int .i64 dr, .int .i64 wi, .int .i64 lm] 24)).heap.size) (by simp)
      have hbx := (hb0.trans (hb1.mono hb0.size)).alloc (Nat.le_trans hb0.size hb1.size) (.cells #[.slice A1 ns.length d1, .int .i64 dr, .int .i64 wi, .int .i64 lm] 24)
      have hR1 := (hR.below hb1 hR.lt).alloc (.cells #[.slice A1 ns.length d1, .int .i64 dr, .int .i64 wi, .int .i64 lm] 24)
      clear ho1 hr hR
      go_wp2_with fail
      generalize w1.alloc (.cells #[.slice A1 ns.length d1, .int .i64 dr, .int .i64 wi, .int .i64 lm] 24) = wx at *
      refine (hp _ wx hs1).out.mono ?_
      rintro e w2 ⟨p2, rfl, ho2, hb2⟩
      have hR2 := hR1.below hb2 hR1.lt
      have hbf := hbx.trans (hb2.mono hbx.size)
      have hsv := (hv2.out.below hbf).more hbf.size
      clear hs1 hp hR1
      go_wp2_with fail
      refine (heq p2 w2 ho2.sees hsv).out.mono ?_
      rintro e w3 ⟨rfl, rfl⟩
      have r0 := hR2.cell 0 rfl
      have r1 := hR2.cell 1 rfl
      have r2 := hR2.cell 2 rfl
      have r3 := hR2.cell 3 rfl
      have f0 := hR2.frozen 0
      have f1 := hR2.frozen 1
      have f2 := hR2.frozen 2
      have f3 := hR2.frozen 3
      clear heq ho2 hR2 hsv
      go_wp2_with fail
      (try simp only [Exit.inBlock, Exit.then])
      refine bodyPost_ret (v := .tuple #[.agg #[.slice none 0 0, .int .i64 0, .int .i64 0, .int .i64 0], .int .i64 2]) ?_ rfl ⟨_, rfl, OwnsD.nil, ?_⟩
      · rw [results_cell_tmp rfl]
        go_simp
      · (repeat' (first | exact hbf | (with_reducible refine Below.setCell ?_ ?_ _) | exact Nat.le_refl _))
end Go.Proofs.Ytmddokenjdlgfaa
