/- Texts FrF, FrG in one. For what each says in front of its theorems. -/
import Derived.Laws.ResultCell
import Derived.Deep.CutBlock
import Derived.Test.YtjoioojckekfhaaGreatVB3
/-! ### FrF -/
namespace Go.Proofs.YtjoioojckekfhaaGreat
open Go.RowKit
open Fr (St F)

theorem SeesL.alloc {w : World} {B : Nat} {v : Value} {l : List Int} (h : SeesL w B v l) (o : Obj) : SeesL (w.alloc o) B v l := ⟨by
  obtain ⟨A, c, rfl, h1, h2, h3, h4⟩ := h.at_
  refine ⟨A, c, rfl, h1, h2, fun h0 => ?_, h4⟩
  obtain ⟨b, off, e, hb, hc⟩ := h3 h0
  exact ⟨b, off, e, hb, fun k hk => Lib.cell?_alloc_some o (hc k hk)⟩⟩
theorem clone_any (v : Value) (l : List Int) (w : World) (B : Nat) (hv : SeesL w B v l) (hlen : l.length ≤ 140737488355328) :
    Calls Tryz.prog 60 #[v] w fun e w' => ∃ v', e = .returned v' ∧ OwnsL w' w.heap.size v' l ∧ Below w.heap.size w w' := by
  obtain ⟨A, c, rfl, h1, h2, h3, h4⟩ := hv.at_
  cases A with
  | none =>
    obtain ⟨hl, rfl⟩ := h4 rfl
    have hl' := List.length_eq_zero_iff.1 hl
    subst hl'
    clear h1 h2 h3 h4 hl hv hlen
    have hq := Lib.run_eql_slice_nil (P := Tryz.prog) w 36 5 none 0 0 0 0 Tryz.underlying36
    go_enter Tryz.func60, Tryz.ntmps60
    go_wp2
    go_ret
    exact ⟨_, rfl, OwnsL.nil, Below.refl _ _⟩
  | some a =>
    have hv := Lib.hid hv
    have hq := Lib.run_eql_slice_nil (P := Tryz.prog) w 36 5 (some a) l.length c 0 0 Tryz.underlying36
    clear h3 h4
    go_enter Tryz.func60, Tryz.ntmps60
    go_wp2_with (at_builtin; refine wpList_appendL _ rfl (.tmp 5) (.tmp 6) 36 rfl w.heap.size infoU8 Tryz.underlying36 _ [] w (owns_empty w _ rfl _ _ (Nat.le_refl _) rfl) ((Below.refl _ _).alloc (Nat.le_refl _) _) rfl _ _ l rfl (SeesL.alloc hv.out _) (by simp) (by simp only [List.length_nil]; omega) ?_)
    intro v' w1 ho hb
    go_wp2
    go_ret
    exact ⟨_, rfl, ho, hb⟩

theorem sumf_any (k : Int) (s : St) (v : Value) (l : List Int) (w : World) (hv : SeesL w w.heap.size v l) (hl : bytesL l) :
    Calls Tryz.prog 102 #[.int .i64 k, stV s, v] w fun e w' => e = .returned (.int .i64 (Fr.sumL (if k = 1 then s.seed else 0) l : Nat)) ∧ Below w.heap.size w w' := by
  obtain ⟨A, c, rfl, h1, h2, h3, -⟩ := hv.at_
  have hsum := fun a W (g : Nat) (hg : g = W.heap.size) (hb : Below w.heap.size w W) => sum_one A l.length c (fun k => l.getD k 0) a W 36 g hg ((h3.below hb).more hb.size) (fun k _ => hl.getD k) (by omega)
  simp only [Fr.sum_all] at hsum
  have hsum := fun a W g hg hb => Lib.hid (hsum a W g hg hb)
  have hseed := fun W => Lib.hid (seed_dev s W)
  have hlt := s.seed_lt
  have hbx := (Below.refl w.heap.size w).alloc (Nat.le_refl _) (.cells #[.int .i64 s.r, .int .i64 s.s, .int .i64 s.m] 42)
  clear hl hv
  unfold stV at hseed ⊢
  by_cases hk : k = 1
  · rw [if_pos hk]
    have hsd := Lib.hid (show Cr.sd (s.seed : Nat) = s.seed from Cr.sd_of hlt)
    generalize s.seed = q at *
    go_enter Tryz.func102, Tryz.ntmps102
    go_wp2_with fail
    refine (hseed _).out.mono ?_
    rintro e w1 ⟨rfl, hb⟩
    have hb := hbx.trans (hb.mono hbx.size)
    clear hbx hseed
    go_wp2_with fail
    refine (hsum _ _ _ rfl hb).out.mono ?_
    rintro e w2 ⟨rfl, rfl⟩
    go_wp2
    go_ret
    exact ⟨by show Ending.returned (.int .i64 (Fr.sumL (Cr.sd (q : Nat)) l : Nat)) = _; rw [hsd.out], hb.alloc hb.size _⟩
  · rw [if_neg hk]
    have hs0 := fun W g hg hb => (hsum 0 W g hg hb).out
    simp only [show Cr.sd 0 = 0 from rfl] at hs0
    have hs1 := fun W g hg hb => Lib.hid (hs0 W g hg hb)
    clear hsum hs0
    go_enter Tryz.func102, Tryz.ntmps102
    go_wp2_with fail
    refine (hs1 _ _ (by simp) hbx).out.mono ?_
    rintro e w2 ⟨rfl, rfl⟩
    go_wp2
    go_ret
    exact ⟨rfl, hbx.alloc hbx.size _⟩

theorem results_cell {fn : Func} {p : Tmp} {ty : TypeId} (h : fn.results = #[.cell p ty]) (tmps : Array Value) (P : Program) (w : World) :
    (results fn tmps).run P w = ((asAddr (tmps.getD p undef)).run P w).andThen fun a w₁ => (loadVar ty a).run P w₁ := by
  simp only [results, h]
  simp [Sem.run_bind, Result.andThen]
theorem read_any (b off n c : Nat) (x0 x1 x2 x3 : Int) (w : World) (hn : 4 ≤ n) (hn2 : n ≤ maxLen) (hbb : b < w.heap.size) (h0 : w.cell? ⟨b, off, none⟩ = some (.int .u8 x0)) (h1 : w.cell? ⟨b, off + 1, none⟩ = some (.int .u8 x1)) (h2 : w.cell? ⟨b, off + 2, none⟩ = some (.int .u8 x2)) (h3 : w.cell? ⟨b, off + 3, none⟩ = some (.int .u8 x3))
    (hx0 : 0 ≤ x0 ∧ x0 < 256) (hx1 : 0 ≤ x1 ∧ x1 < 256) (hx2 : 0 ≤ x2 ∧ x2 < 256) (hx3 : 0 ≤ x3 ∧ x3 < 256) :
    Calls Tryz.prog 154 #[.slice (some ⟨b, off, none⟩) n c] w fun e w' => e = .returned (stV ⟨x0 * 256 + x1, x2, x3⟩) ∧ Below w.heap.size w w' := by
  have hp := fun W (hb : Below w.heap.size w W) => Lib.hid (pair_any b off c n x0 x1 W (by omega) hn2 ((bcell hb _ _ hbb).trans h0) ((bcell hb _ _ hbb).trans h1) hx0 hx1)
  have CS := fun (W : World) (hb : Below w.heap.size w W) => (⟨(bcell hb _ _ hbb).trans h2, (bcell hb _ _ hbb).trans h3⟩ : W.cell? ⟨b, off + 2, none⟩ = some (.int .u8 x2) ∧ W.cell? ⟨b, off + 3, none⟩ = some (.int .u8 x3))
  unfold stV
  unfold maxLen at hn2
  have wr2 : IntKind.i64.wrap x2 = x2 := IntWalk.i64_in _ (by omega)
  have wr3 : IntKind.i64.wrap x3 = x3 := IntWalk.i64_in _ (by omega)
  have q2 : (2 : Int) < (n : Int) := by omega
  have q3 : (3 : Int) < (n : Int) := by omega
  clear h0 h1 h2 h3
  go_enter Tryz.func154, Tryz.ntmps154
  go_wp2_with fail
  go_region_held3 (fun W => W.cell? ⟨b, off + 2, none⟩ = some (.int .u8 x2) ∧ W.cell? ⟨b, off + 3, none⟩ = some (.int .u8 x3))
    ((refine CS _ ?_; repeat' (first | exact Below.refl _ _ | exact Nat.le_refl _ | (with_reducible refine Below.setCell ?_ ?_ _) | (with_reducible refine Below.alloc ?_ (Nat.le_refl _) _) | (with_reducible refine below_drewN ?_ _) | (with_reducible refine Below.drew ?_))))
    (first
      | ((go_at_call 155; refine (hp _ ?_).out.mono ?_); (repeat' (first | exact Below.refl _ _ | exact Nat.le_refl _ | (with_reducible refine Below.setCell ?_ ?_ _) | (with_reducible refine Below.alloc ?_ (Nat.le_refl _) _) | (with_reducible refine below_drewN ?_ _) | (with_reducible refine Below.drew ?_))); rintro e w3 ⟨rfl, m, rfl⟩)
      | fail)
  all_goals
    go_wp2
    (try simp only [Exit.inBlock, Exit.then])
    refine bodyPost_ret (v := .agg #[.int .i64 (x0 * 256 + x1), .int .i64 x2, .int .i64 x3]) ?_ rfl ⟨rfl, ?_⟩
    · rw [results_cell rfl]
      go_simp
    · (repeat' (first | exact Below.refl _ _ | exact Nat.le_refl _ | (with_reducible refine Below.setCell ?_ ?_ _) | (with_reducible refine Below.alloc ?_ (Nat.le_refl _) _) | (with_reducible refine below_drewN ?_ _) | (with_reducible refine Below.drew ?_)))
end Go.Proofs.YtjoioojckekfhaaGreat

/-! ### FrG -/
namespace Go.Proofs.YtjoioojckekfhaaGreat
open Go.RowKit
open Fr (St F)

set_option maxRecDepth 100000 in
set_option maxHeartbeats 2000000 in
theorem encode_dev (f : F) (v : Value) (w : World) (hv : SeesL w w.heap.size v f.d) (hd : bytesL f.d) :
    Calls Tryz.prog 81 #[frV f v] w (Enc w f) := by
  have his := fun W (hb : Below w.heap.size w W) => is_dev f v W w.heap.size (hv.below hb)
  obtain ⟨A, c, rfl, c1, c2, -, -⟩ := hv.at_
  cases hi : f.is
  · rw [hi] at his
    have his := fun W hb => Lib.hid (his W hb)
    have hE : encE f = 1 := by simp [encE, hi]
    have hR : encR f = [] := by simp [encR, hi]
    unfold Enc
    rw [hE, hR]
    clear hi hE hR hv
    unfold frV at his ⊢
    go_enter Tryz.func81, Tryz.ntmps81
    go_wp2_with fail
    refine (his _ ((Below.refl _ _).alloc (Nat.le_refl _) _)).out.mono ?_
    rintro e w1 ⟨rfl, hb⟩
    have hb := ((Below.refl w.heap.size w).alloc (Nat.le_refl _) _).trans (hb.mono (by simp))
    go_wp2
    go_ret2
    exact ⟨_, rfl, OwnsL.nil, hb⟩
  · rw [hi] at his
    have his := fun W hb => Lib.hid (his W hb)
    obtain ⟨⟨k1, k3⟩, hmay, hlen⟩ := f.is_iff.1 hi
    have hE : encE f = 0 := by simp [encE, hi]
    have hR : encR f = f.body ++ Fr.two (Fr.sumL f.seed f.body) := by simp [encR, hi, F.bytes]
    have hbody := Lib.hid (F.body_ok hi hd)
    have hbl := f.body_length
    have hsl := f.seed_lt
    have hspell := fun W => Lib.hid (spell_any f.st hmay W)
    have hhl : f.hl ≤ 6 := by unfold F.hl; split <;> omega
    have hS := Fr.sumL_lt hsl f.body
    unfold Enc
    rw [hE, hR]
    have hsum := fun (V : Value) (W : World) (h : SeesL W W.heap.size V f.body) => sumf_any f.k f.st V f.body W h hbody.out
    have hss : (if f.k = 1 then f.st.seed else 0) = f.seed := rfl
    simp only [hss] at hsum
    have hblen : f.body.length ≤ 100000 := by omega
    have hbd : f.body = (if f.k = 1 then [f.k] else [f.k] ++ f.st.bytes) ++ [(f.d.length : Int)] ++ f.d := by
      unfold F.body F.head
      split <;> simp
    clear hss hbl hhl hbody hi hE hR hd
    generalize hSS : Fr.sumL f.seed f.body = S at *
    have wS : IntKind.u8.wrap ((S : Nat) / 256 : Int) = ((S / 256 : Nat) : Int) := by rw [IntKind.wrap_u8]; omega
    have wS2 : IntKind.u8.wrap ((S : Nat) : Int) = ((S % 256 : Nat) : Int) := by rw [IntKind.wrap_u8]; omega
    clear hSS hS hsl
    generalize f.body = body at *
    obtain ⟨k, st, d⟩ := f
    simp only at hv k1 k3 hmay hlen his hspell hbd hsum
    have hwr : IntKind.u8.wrap ((d.length : Nat) : Int) = d.length := by rw [IntKind.wrap_u8]; omega
    have hwk : IntKind.u8.wrap k = k := by rw [IntKind.wrap_u8]; omega
    have hvd := Lib.hid hv
    have hH := fun V W h => Lib.hid (hsum V W h)
    clear hsum hv
    have hsb : st.bytes.length = 4 := rfl
    unfold frV at his ⊢
    unfold stV at hspell hH
    generalize st.bytes = sb at *
    have hsb1 : sb.length ≤ 4 := by omega
    clear hsb
    by_cases hk : k = 1
    case' pos =>
      rw [if_pos hk] at hbd
      subst hk
    case' neg =>
      rw [if_neg hk] at hbd
      have hk' : (k != 1) = true := by simpa using hk
    case pos =>
      go_enter Tryz.func81, Tryz.ntmps81
      go_wp2_with fail
      have hbox := Lib.hid (box5 w (.int .i64 1) (.int .i64 st.r) (.int .i64 st.s) (.int .i64 st.m) (.slice A d.length c) 140)
      generalize w.alloc (.cells #[.int .i64 1, .int .i64 st.r, .int .i64 st.s, .int .i64 st.m, .slice A d.length c] 140) = w0 at *
      have hz0 : w0.heap.size ≤ w.heap.size + 1 ∧ w.heap.size + 1 ≤ w0.heap.size := by have := hbox.out.size; omega
      refine (his _ hbox.out.below).out.mono ?_
      rintro e w1 ⟨rfl, hb1⟩
      obtain ⟨z1, c10, c11, c12, c13, c14⟩ := hbox.out.cell w1 hb1
      clear his
      have hba := hb1.alloc hb1.size (.cells #[.int .u8 1] 5)
      have hoB := (owns_lit w1 5 rfl #[.int .u8 1] [1] rfl w0.heap.size hb1.size (by simp [maxLen]) w1.heap.size 1 1 rfl rfl rfl)
      obtain ⟨za, a0, a1, a2, a3, a4⟩ := hbox.out.cell _ hba
      clear hspell
      go_upto_region 6 with fail
      clear c10 c11 c12 c13 c14 z1
      generalize w1.alloc (.cells #[.int .u8 1] 5) = wb at *
      generalize w1.heap.size = g at *
      have hoX := hoB.alloc (.cells #[.int .u8 (d.length : Int)] 5)
      have hbX := hba.alloc hba.size (.cells #[.int .u8 (d.length : Int)] 5)
      have hsX := sees_lit wb 5 #[.int .u8 (d.length : Int)] [(d.length : Int)] rfl _ (Nat.lt_succ_self _) (by simp [maxLen]) wb.heap.size 1 1 rfl rfl rfl
      go_wp2_with (at_builtin; go_loud (refine wpList_appendL _ rfl (.tmp 21) (.tmp 26) 36 rfl w0.heap.size infoU8 Tryz.underlying36 _ [1] w0 hoX hbX rfl _ _ [(d.length : Int)] rfl hsX hbX.size (by simp <;> omega) ?_))
      intro v3 w3 ho3 hb3
      obtain ⟨z3, b0, b1, b2, b3, b4⟩ := hbox.out.cell w3 hb3
      clear hoX hbX hsX hoB a0 a1 a2 a3 a4
      go_wp2_with (at_builtin; go_loud (refine wpList_appendL _ rfl (.tmp 28) (.tmp 30) 36 rfl w0.heap.size infoU8 Tryz.underlying36 v3 ([1] ++ [(d.length : Int)]) w0 ho3 hb3 rfl w.heap.size (.slice A d.length c) d rfl (hvd.out.below (hbox.out.below.trans (hb3.mono (by omega)))) hb3.size (by simp <;> omega) ?_))
      intro v4 w4 ho4 hb4
      have ho4 : OwnsL w4 w0.heap.size v4 body := by rw [hbd]; simpa using ho4
      obtain ⟨z4, d0, d1, d2, d3, d4⟩ := hbox.out.cell w4 hb4
      have ho4S := ho4.sees
      clear ho3 hb3 b0 b1 b2 b3 b4
      go_wp2_with fail
      refine (hH v4 w4 ho4S).out.mono ?_
      rintro e w5 ⟨rfl, hb⟩
      have ho5 := ho4.below hb (Nat.le_refl _)
      have hb5 := hb4.trans (hb.mono hb4.size)
      clear hH ho4S ho4 hb hb4 d0 d1 d2 d3 d4
      go_wp2_with (at_builtin; go_loud (refine wpList_appendL _ rfl (.tmp 38) (.tmp 44) 36 rfl w0.heap.size infoU8 Tryz.underlying36 v4 body w0 (ho5.alloc _) (hb5.alloc hb5.size _) rfl _ _ (Fr.two S) rfl (sees_lit w5 _ _ _ (by simp [Fr.two]) _ (Nat.lt_succ_self _) (by simp [Fr.two, maxLen]) _ _ _ rfl rfl rfl) (by simp; have := hb5.size; omega) (by simp [Fr.two]; omega) ?_))
      intro v6 w6 ho6 hb6
      have hfin : OwnsL w6 w.heap.size v6 (body ++ Fr.two S) := by
        rw [hbd]
        simpa using ho6.base (B := w.heap.size) (by omega)
      have hbf := hbox.out.below.trans (hb6.mono (by omega))
      clear hwr ho6
      go_wp2
      go_ret2
      exact ⟨_, rfl, hfin, hbf⟩
    case neg =>
      go_enter Tryz.func81, Tryz.ntmps81
      go_wp2_with fail
      have hbox := Lib.hid (box5 w (.int .i64 k) (.int .i64 st.r) (.int .i64 st.s) (.int .i64 st.m) (.slice A d.length c) 140)
      generalize w.alloc (.cells #[.int .i64 k, .int .i64 st.r, .int .i64 st.s, .int .i64 st.m, .slice A d.length c] 140) = w0 at *
      have hz0 : w0.heap.size ≤ w.heap.size + 1 ∧ w.heap.size + 1 ≤ w0.heap.size := by have := hbox.out.size; omega
      refine (his _ hbox.out.below).out.mono ?_
      rintro e w1 ⟨rfl, hb1⟩
      obtain ⟨z1, c10, c11, c12, c13, c14⟩ := hbox.out.cell w1 hb1
      clear his
      go_wp2_with fail
      refine (hspell _).out.mono ?_
      rintro e wa ⟨va, rfl, hoa, hba⟩
      have hba2 := (hb1.alloc hb1.size (.cells #[.int .u8 k] 5)).trans (hba.mono (by simp; have := hb1.size; omega))
      have hob := (owns_lit w1 5 rfl #[.int .u8 k] [k] rfl w0.heap.size hb1.size (by simp [maxLen]) w1.heap.size 1 1 rfl rfl rfl).below hba (Nat.le_refl _)
      have hoaS := hoa.sees
      clear c10 c11 c12 c13 c14 hba hspell hb1 hoa
      go_wp2_with (at_builtin; go_loud (refine wpList_appendL _ rfl (.tmp 16) (.tmp 19) 36 rfl w0.heap.size infoU8 Tryz.underlying36 _ [k] w0 hob hba2 rfl wa.heap.size va sb rfl hoaS hba2.size (by simp <;> omega) ?_))
      intro vb wb hoB hbb
      obtain ⟨za, a0, a1, a2, a3, a4⟩ := hbox.out.cell wb hbb
      have hoX := hoB.alloc (.cells #[.int .u8 (d.length : Int)] 5)
      have hbX := hbb.alloc hbb.size (.cells #[.int .u8 (d.length : Int)] 5)
      have hsX := sees_lit wb 5 #[.int .u8 (d.length : Int)] [(d.length : Int)] rfl _ (Nat.lt_succ_self _) (by simp [maxLen]) wb.heap.size 1 1 rfl rfl rfl
      clear hob hoaS hba2
      go_wp2_with (at_builtin; go_loud (refine wpList_appendL _ rfl (.tmp 21) (.tmp 26) 36 rfl w0.heap.size infoU8 Tryz.underlying36 _ ([k] ++ sb) w0 hoX hbX rfl _ _ [(d.length : Int)] rfl hsX hbX.size (by simp <;> omega) ?_))
      intro v3 w3 ho3 hb3
      obtain ⟨z3, b0, b1, b2, b3, b4⟩ := hbox.out.cell w3 hb3
      clear hoX hbX hsX hoB a0 a1 a2 a3 a4
      go_wp2_with (at_builtin; go_loud (refine wpList_appendL _ rfl (.tmp 28) (.tmp 30) 36 rfl w0.heap.size infoU8 Tryz.underlying36 v3 (([k] ++ sb) ++ [(d.length : Int)]) w0 ho3 hb3 rfl w.heap.size (.slice A d.length c) d rfl (hvd.out.below (hbox.out.below.trans (hb3.mono (by omega)))) hb3.size (by simp <;> omega) ?_))
      intro v4 w4 ho4 hb4
      have ho4 : OwnsL w4 w0.heap.size v4 body := by rw [hbd]; simpa using ho4
      obtain ⟨z4, d0, d1, d2, d3, d4⟩ := hbox.out.cell w4 hb4
      have ho4S := ho4.sees
      clear ho3 hb3 b0 b1 b2 b3 b4
      go_wp2_with fail
      refine (hH v4 w4 ho4S).out.mono ?_
      rintro e w5 ⟨rfl, hb⟩
      have ho5 := ho4.below hb (Nat.le_refl _)
      have hb5 := hb4.trans (hb.mono hb4.size)
      clear hH ho4S ho4 hb hb4 d0 d1 d2 d3 d4
      go_wp2_with (at_builtin; go_loud (refine wpList_appendL _ rfl (.tmp 38) (.tmp 44) 36 rfl w0.heap.size infoU8 Tryz.underlying36 v4 body w0 (ho5.alloc _) (hb5.alloc hb5.size _) rfl _ _ (Fr.two S) rfl (sees_lit w5 _ _ _ (by simp [Fr.two]) _ (Nat.lt_succ_self _) (by simp [Fr.two, maxLen]) _ _ _ rfl rfl rfl) (by simp; have := hb5.size; omega) (by simp [Fr.two]; omega) ?_))
      intro v6 w6 ho6 hb6
      have hfin : OwnsL w6 w.heap.size v6 (body ++ Fr.two S) := by
        rw [hbd]
        simpa using ho6.base (B := w.heap.size) (by omega)
      have hbf := hbox.out.below.trans (hb6.mono (by omega))
      clear hwr ho6
      go_wp2
      go_ret2
      exact ⟨_, rfl, hfin, hbf⟩
end Go.Proofs.YtjoioojckekfhaaGreat
