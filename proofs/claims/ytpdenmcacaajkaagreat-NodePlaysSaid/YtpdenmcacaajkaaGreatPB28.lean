/- Texts NdU, NdV in one. For what each says in front of its theorems. -/
import Derived.StillTailTactics
import Derived.Test.YtpdenmcacaajkaaGreatPB23
import Derived.Test.YtpdenmcacaajkaaGreatPB27
/-! ### NdU -/
namespace Go.Proofs.YtpdenmcacaajkaaGreat
open Go.RowKit
open Fr (St F)

/-- The first k members are Good. -/
def goodsK (so : MS) (m k : Nat) : MS := { so with g := fun i => if i < k then isB m i else so.g i }
theorem goodsK_0 (so : MS) (m : Nat) : goodsK so m 0 = so := by
  unfold goodsK
  simp
theorem goodsK_8 (so : MS) (m : Nat) : goodsK so m 8 = NM.goods so m := rfl
theorem goodsK_succ (so : MS) (m k : Nat) (hk : k < 8) : (goodsK so m k).member k (isB m k) = goodsK so m (k + 1) := by
  unfold MS.member goodsK
  rw [if_pos (show isN k by unfold isN; omega)]
  simp only [Int.toNat_natCast]
  congr 1
  funext i
  simp only [upd]
  rcases lt_or_eq_or i k with h | h | h
  · rw [if_neg (by omega), if_pos h, if_pos (by omega)]
  · subst h; rw [if_pos rfl, if_pos (by omega)]
  · rw [if_neg (by omega), if_neg (by omega), if_neg (by omega)]
set_option maxRecDepth 100000 in
set_option maxHeartbeats 4000000 in
theorem join_nd (b : Bool) (G : Nat → Prop) (g : Nat) (m : NM) (f : F) (o : Int) (v : Value) (B : Nat) (w : World) (h : NA b G w g m) (hG : ∀ x, w.heap.size ≤ x → G x) (hv : SeesL w B v f.d) (hB : B ≤ w.heap.size) (hd : bytesL f.d) (hs : 0 ≤ f.st.s) (ht : -4611686018427387904 ≤ m.tm ∧ m.tm ≤ 4611686018427387904) (ho : -1099511627776 ≤ o ∧ o ≤ 1099511627776) (hvg : f.d ≠ [] → v.ownBlock ≠ some g) :
    Calls Tryz.prog 120 #[.pointer (some ⟨g, 0, none⟩), frV f v, .int .i64 o] w fun e w' => e = .returned (.tuple #[]) ∧ NA false G w' g (m.knows f o) ∧ Only g w w' := by
  obtain ⟨k, ⟨r, s, mm⟩, d⟩ := f
  obtain ⟨s, rfl⟩ : ∃ n : Nat, s = n := ⟨s.toNat, by simp only at hs; omega⟩
  have hkn : m.knows ⟨k, ⟨r, s, mm⟩, d⟩ o = { m.anew 3 with rd := r, sl := s, ty := (⟨(mm % 256).toNat, 0, 0⟩ : TS).right s, tm := m.tm + o, so := NM.goods (MS.new.put s d) ((⟨(mm % 256).toNat, 0, 0⟩ : TS).right s).m } := by
    unfold NM.knows
    rw [Int.toNat_natCast]
  rw [hkn]
  clear hkn
  simp only at hv hd hvg
  obtain ⟨A, c, rfl, -⟩ := hv.at_
  unfold frV
  simp only
  have hl := low_lt mm
  have hX := Blk.new w w.heap.size rfl #[.int .i64 k, .int .i64 r, .int .i64 (s : Nat), .int .i64 mm, .slice A d.length c] 137
  have hb0 := (Below.refl w.heap.size w).alloc (Nat.le_refl _) (.cells #[.int .i64 k, .int .i64 r, .int .i64 (s : Nat), .int .i64 mm, .slice A d.length c] 137)
  have hD : Dat [g] w (.slice A d.length c) d := ⟨hv.more hB, fun x hx hl => by rw [List.mem_singleton] at hx; rw [hx]; exact hvg hl⟩
  have hD1 := hD.keep (kp_below hb0)
  have h1 := h.alloc (.cells #[.int .i64 k, .int .i64 r, .int .i64 (s : Nat), .int .i64 mm, .slice A d.length c] 137)
  have hgl := h.lt
  have HB := Lib.hid (begin_nd b G g m 3 3 rfl _ h1)
  have HT := fun W => Lib.hid (new_tl mm W)
  have htm : (m.anew 3).tm = m.tm := rfl
  have hso : (m.anew 3).so = MS.new := rfl
  have hty : (m.anew 3).ty = ⟨0, 0, 0⟩ := rfl
  generalize (mm % 256).toNat = M at *
  generalize m.tm = T at *
  obtain ⟨ht1, ht2⟩ := ht
  obtain ⟨ho1, ho2⟩ := ho
  clear h h1 hv hD hs
  generalize m.anew 3 = m1 at *
  go_enter Tryz.func120, Tryz.ntmps120
  go_wp2_with fail
  refine HB.out.mono ?_
  rintro _ w1 ⟨rfl, h1, o1⟩
  have hX1 := hX.only o1 (by omega)
  have hD2 := hD1.keep (o1.kp (by simp))
  have oo := (only_of_below g hb0).trans o1
  clear HB hX hD1 o1 hb0
  have x1 := hX1.cell 1 (x := .int .i64 r) rfl
  have x2 := hX1.cell 2 (x := .int .i64 (s : Nat)) rfl
  have e11 := h1.c11
  have e12 := h1.c12
  have f11 := h1.frozen 11
  have f12 := h1.frozen 12
  have h2 := ((h1.sRd r).sSl s).drew
  have k2 : Only g w1 ((w1.setCell ⟨g, 11, none⟩ (.int .i64 r)).setCell ⟨g, 12, none⟩ (.int .i64 (s : Nat))).drew := (((Only.refl g w1).set 11 (.int .i64 r)).set 12 (.int .i64 (s : Nat))).drew
  have H2 := Lib.hid (And.intro h2 (And.intro (hX1.only k2 (by omega)) (And.intro (hD2.keep (k2.kp (by simp))) (oo.trans k2))))
  clear h1 h2 k2 hX1 hD2 oo
  go_wp2_with fail
  go_region
  obtain ⟨h2, hX2, hD2, o2⟩ := H2.out
  clear H2 x1 x2 e11 e12 f11 f12
  generalize ((w1.setCell ⟨g, 11, none⟩ (.int .i64 r)).setCell ⟨g, 12, none⟩ (.int .i64 (s : Nat))).drew = w2 at *
  have x3 := hX2.cell 3 (x := .int .i64 mm) rfl
  generalize hm2 : ({ m1 with rd := r, sl := s } : NM) = m2 at *
  have hm2 : ({ m1 with rd := r, sl := s } : NM) = m2 := hm2
  have a1 : m2.tm = T := by rw [← hm2]; exact htm
  have a2 : m2.so = MS.new := by rw [← hm2]; exact hso
  have a3 : m2.sl = s := by rw [← hm2]
  have HM2 := Lib.hid hm2
  clear hm2 htm hso
  go_wp2_with fail
  refine (HT _).out.mono ?_
  rintro _ w3 ⟨rfl, hT, b3, -⟩
  have h3 := h2.below b3
  have hX3 := hX2.below b3 hX2.lt
  have hD3 := hD2.keep (kp_below b3)
  have o3 := o2.trans (only_of_below g b3)
  have t0 := hT.c0
  have t1 := hT.c1
  have t2 := hT.c2
  obtain ⟨cc, hc, -⟩ := h3.tp
  have c17 := hc.c0
  have c18 := hc.c1
  have c19 := hc.c2
  have f17 := h3.frozen 17
  have f18 := h3.frozen 18
  have f19 := h3.frozen 19
  have h4 := h3.sTy ⟨M, 0, 0⟩ hl
  have k4 : Only g w3 (((w3.setCell ⟨g, 17, none⟩ (.int .i64 (M : Nat))).setCell ⟨g, 18, none⟩ (.int .i64 0)).setCell ⟨g, 19, none⟩ (.int .i64 0)) := (((Only.refl g w3).set 17 (.int .i64 (M : Nat))).set 18 (.int .i64 0)).set 19 (.int .i64 0)
  have H4 := Lib.hid (And.intro h4 (And.intro (hX3.only k4 (by omega)) (And.intro (hD3.keep (k4.kp (by simp))) (o3.trans k4))))
  clear h2 h3 h4 k4 hX2 hX3 hD2 hD3 o2 o3 hc hT b3 HT x3
  go_wp2_with fail
  obtain ⟨h4, hX4, hD4, o4⟩ := H4.out
  clear H4 c17 c18 c19 f17 f18 f19 t0 t1 t2
  generalize (((w3.setCell ⟨g, 17, none⟩ (.int .i64 (M : Nat))).setCell ⟨g, 18, none⟩ (.int .i64 0)).setCell ⟨g, 19, none⟩ (.int .i64 0)) = w4 at *
  have e12 := h4.c12
  rw [show ({ m2 with ty := ⟨M, 0, 0⟩ } : NM).sl = s from a3] at e12
  have HRt := Lib.hid (h4.drew.right s (by show (0 : Nat) < 1000; decide))
  have hX5 := hX4.drew
  have hD5 := hD4.keep (kp_below (Below.refl _ w4).drew)
  have o5 := o4.drew
  clear h4 hX4 hD4 o4
  go_still_tail 7, (by kernel_rfl)
  change wpList _ _ _ _ _ w4.drew
  go_wp2_with fail
  refine HRt.out.mono ?_
  rintro _ w6 ⟨rfl, h6, k6⟩
  change NA false G w6 g { m2 with ty := (⟨M, 0, 0⟩ : TS).right s } at h6
  generalize hTY : (⟨M, 0, 0⟩ : TS).right s = TY at *
  have HTY := Lib.hid hTY
  have hX6 := hX5.only k6 (by omega)
  have hD6 := hD5.keep (k6.kp (by simp))
  have o6 := o5.trans k6
  clear hTY hX5 hD5 o5 k6 HRt e12
  have e15 := h6.c15
  rw [show ({ m2 with ty := TY } : NM).tm = T from a1] at e15
  have f15 := h6.frozen 15
  have h7 := h6.sTm (T + o)
  have k7 : Only g w6 (w6.setCell ⟨g, 15, none⟩ (.int .i64 (T + o))) := (Only.refl g w6).set 15 _
  have H7 := Lib.hid (And.intro h7 (And.intro (hX6.only k7 (by omega)) (And.intro (hD6.keep (k7.kp (by simp))) (o6.trans k7))))
  clear h6 h7 k7 hX6 hD6 o6
  go_wp2_with fail
  obtain ⟨h7, hX7, hD7, o7⟩ := H7.out
  clear H7 e15 f15
  generalize w6.setCell ⟨g, 15, none⟩ (.int .i64 (T + o)) = w7 at *
  have e12 := h7.c12
  rw [show ({ m2 with ty := TY, tm := T + o } : NM).sl = s from a3] at e12
  have x4 := hX7.cell 4 (x := .slice A d.length c) rfl
  have HP := Lib.hid (h7.drew.put s (fun x hx => hG x (Nat.le_trans o7.size hx)) (hD7.keep (kp_below (Below.refl _ w7).drew)).1 hd)
  rw [show ({ m2 with ty := TY, tm := T + o } : NM).so = MS.new from a2] at HP
  have o8 := o7.drew
  clear h7 hX7 hD7 o7
  go_still_tail 9, (by kernel_rfl)
  change wpList _ _ _ _ _ w7.drew
  go_wp2_with fail
  refine HP.out.mono ?_
  rintro _ w9 ⟨rfl, h9, k9⟩
  have o9 := o8.trans k9
  clear HP o8 k9 e12 x4
  generalize hSO : MS.new.put s d = SO at *
  have HSO := Lib.hid hSO
  clear hSO
  go_wp2_with fail
  go_loopw [56] (fun i wr => ∃ k : Nat, k ≤ 8 ∧ i = .int .i64 k ∧ NA false G wr g { m2 with ty := TY, tm := T + o, so := goodsK SO TY.m k } ∧ Only g w wr) (fun i _ => 8 - (intOf i).toNat)
  case atStart => exact ⟨0, by omega, rfl, by rw [goodsK_0]; exact h9, o9⟩
  case round =>
    clear h9 o9
    obtain ⟨k, hk, rfl, h, oo⟩ := hrel
    by_cases hlt : k < 8
    · have r1 : decide ((k : Int) < 8) = true := decide_eq_true (by omega)
      have HI := Lib.hid (h.drew.is_ k)
      have HM := Lib.hid (h.drew.member k (isB TY.m k))
      rw [show ({ m2 with ty := TY, tm := T + o, so := goodsK SO TY.m k } : NM).ty = TY from rfl] at HI
      rw [show ({ m2 with ty := TY, tm := T + o, so := goodsK SO TY.m k } : NM).so = goodsK SO TY.m k from rfl, goodsK_succ _ _ _ hlt] at HM
      have o1 := oo.drew
      clear h oo
      go_wp2_with fail
      go_still_tail 9, (by kernel_rfl)
      still_call HI.out
      repeat still_step
      refine wpStill_nil ?_
      change wpList _ _ _ _ _ wr.drew
      go_wp2_with fail
      refine HM.out.mono ?_
      rintro _ wz ⟨rfl, hz, kz⟩
      have oz := o1.trans kz
      clear HM HI o1 kz
      go_wp2
      go_roundw
      case rel => exact ⟨k + 1, by omega, by go_num, hz, oz⟩
      case measure => simp [intOf]; omega
    · obtain rfl : k = 8 := by omega
      go_wp2
      rw [goodsK_8] at h
      refine bodyPost_end (results_none (by rfl) _ _ _) rfl ⟨rfl, ?_, oo⟩
      rw [HTY.out, HSO.out]
      have e := HM2.out
      rw [← e] at h
      exact h
end Go.Proofs.YtpdenmcacaajkaaGreat

/-! ### NdV -/
namespace Go.Proofs.YtpdenmcacaajkaaGreat
open Go.RowKit
open Fr (St F)

theorem okL.bytes {l : List Int} (h : Fr.okL l) : bytesL l := fun x hx => h x hx
theorem res_bytes (l : List Int) (own : St) (h : bytesL l) : bytesL (Fr.res l own).d := by
  unfold Fr.res
  split
  · exact fun x hx => h x (List.mem_of_mem_drop (List.mem_of_mem_take hx))
  · exact fun x hx => by simp [Fr.zero] at hx
theorem mem_rows {h : Hn} {l : List Int} (hl : l ∈ NM.rows h) : l = h.x ∨ l = h.y := by
  unfold NM.rows at hl
  rcases List.mem_append.1 hl with hl | hl
  · split at hl
    · exact .inl (List.mem_singleton.1 hl)
    · cases hl
  · split at hl
    · exact .inr (List.mem_singleton.1 hl)
    · cases hl
theorem firstL_eq (m : NM) (h : Hn) : ((NM.rows h).find? fun l => decide (Fr.err l NM.z3 = 0) && decide (m.mayJ (Fr.res l NM.z3))) = m.firstL h := by
  unfold NM.firstL
  congr 1
  funext l
  rw [Bool.eq_iff_iff]
  simp only [Bool.and_eq_true, decide_eq_true_eq]
  exact Iff.rfl
/-- What may be heard: its rows in memory. -/
structure HOk (w : World) (h : Hn) (vx vy : Value) : Prop where
  x : SeesL w w.heap.size vx h.x
  bx : bytesL h.x
  y : SeesL w w.heap.size vy h.y
  by_ : bytesL h.y
  o : -1099511627776 ≤ h.o ∧ h.o ≤ 1099511627776
set_option maxRecDepth 100000 in
set_option maxHeartbeats 4000000 in
theorem listen_no (b : Bool) (G : Nat → Prop) (g : Nat) (m : NM) (h : Hn) (vx vy : Value) (w : World) (hm : NA b G w g m) (hh : HOk w h vx vy) (hn : m.firstL h = none) :
    Calls Tryz.prog 78 #[.pointer (some ⟨g, 0, none⟩), hdV h vx vy] w fun e w' => e = .returned (.tuple #[]) ∧ NA b G w' g (if h.a ≠ 0 ∨ h.b ≠ 0 then { m with wt := 0 } else m) ∧ Only g w w' := by
  have hmf : ∀ (fn : Fn) (first cap : Array Value) (w : World), (Instr.makeFunc fn first cap).run Tryz.prog w = .ok (.func fn first cap) w := fun _ _ _ _ => rfl
  obtain ⟨Ax, cx, ex, -⟩ := hh.x.at_
  obtain ⟨Ay, cy, ey, -⟩ := hh.y.at_
  subst ex; subst ey
  have hb0 := (Below.refl w.heap.size w).alloc (Nat.le_refl _) (.cells #[.int .i64 h.a, .int .i64 h.b, .slice Ax h.x.length cx, .slice Ay h.y.length cy, .int .i64 h.o] 39)
  have hF := Lib.hid (firstJ_nd b G g m h _ _ NM.z3 _ ((hh.x.below hb0).more hb0.size) hh.bx ((hh.y.below hb0).more hb0.size) hh.by_ (hm.below hb0))
  have hS := fun W => Lib.hid (silent_nd h (.slice Ax h.x.length cx) (.slice Ay h.y.length cy) W)
  have hX := Blk.new w w.heap.size rfl #[.int .i64 h.a, .int .i64 h.b, .slice Ax h.x.length cx, .slice Ay h.y.length cy, .int .i64 h.o] 39
  unfold Fst at hF
  rw [firstL_eq, hn] at hF
  simp only at hF
  rw [show frV Fr.zero (.slice none 0 0) = .agg #[.int .i64 0, .int .i64 0, .int .i64 0, .int .i64 0, .slice none 0 0] from rfl] at hF
  unfold hdV stV NM.z3 at hF
  unfold hdV at hS ⊢
  have hk : Hid (NA b G w g m) := Lib.hid hm
  clear hn hm hh
  by_cases hq : h.a = 0 ∧ h.b = 0
  · rw [decide_eq_true hq] at hS
    rw [if_neg (by omega)]
    clear hq
    go_enter Tryz.func78, Tryz.ntmps78
    go_wp2_with fail
    refine hF.out.mono ?_
    rintro _ w2 ⟨rfl, b2⟩
    have hX3 := (hX.below b2 (by simp)).alloc (.cells #[.int .i64 0, .int .i64 0, .int .i64 0, .int .i64 0, .slice none 0 0] 137)
    have b3 := (hb0.trans (b2.mono hb0.size)).alloc (Nat.le_trans hb0.size b2.size) (.cells #[.int .i64 0, .int .i64 0, .int .i64 0, .int .i64 0, .slice none 0 0] 137)
    have x0 := hX3.cell 0 (x := .int .i64 h.a) rfl
    have x1 := hX3.cell 1 (x := .int .i64 h.b) rfl
    have x2 := hX3.cell 2 (x := .slice Ax h.x.length cx) rfl
    have x3 := hX3.cell 3 (x := .slice Ay h.y.length cy) rfl
    have x4 := hX3.cell 4 (x := .int .i64 h.o) rfl
    clear hX hX3 hb0 b2
    go_wp2_with fail
    refine (hS _).out.mono ?_
    rintro _ w4 ⟨rfl, b4⟩
    have b4 := b3.trans (b4.mono b3.size)
    go_wp2
    exact bodyPost_end (results_none (by rfl) _ _ _) rfl ⟨rfl, hk.out.below b4, only_of_below g b4⟩
  · rw [decide_eq_false hq] at hS
    rw [if_pos (by omega)]
    clear hq
    go_enter Tryz.func78, Tryz.ntmps78
    go_wp2_with fail
    refine hF.out.mono ?_
    rintro _ w2 ⟨rfl, b2⟩
    have hX3 := (hX.below b2 (by simp)).alloc (.cells #[.int .i64 0, .int .i64 0, .int .i64 0, .int .i64 0, .slice none 0 0] 137)
    have b3 := (hb0.trans (b2.mono hb0.size)).alloc (Nat.le_trans hb0.size b2.size) (.cells #[.int .i64 0, .int .i64 0, .int .i64 0, .int .i64 0, .slice none 0 0] 137)
    have x0 := hX3.cell 0 (x := .int .i64 h.a) rfl
    have x1 := hX3.cell 1 (x := .int .i64 h.b) rfl
    have x2 := hX3.cell 2 (x := .slice Ax h.x.length cx) rfl
    have x3 := hX3.cell 3 (x := .slice Ay h.y.length cy) rfl
    have x4 := hX3.cell 4 (x := .int .i64 h.o) rfl
    clear hX hX3 hb0 b2
    go_wp2_with fail
    refine (hS _).out.mono ?_
    rintro _ w4 ⟨rfl, b4⟩
    have b4 := b3.trans (b4.mono b3.size)
    have h4 := hk.out.below b4
    have e13 := h4.c13
    have f13 := h4.frozen 13
    have h5 := Lib.hid (h4.sWt 0)
    have o5 := Lib.hid ((only_of_below g b4).set 13 (.int .i64 0))
    clear h4 b4 hk
    go_wp2
    exact bodyPost_end (results_none (by rfl) _ _ _) rfl ⟨rfl, h5.out, o5.out⟩
set_option maxRecDepth 100000 in
set_option maxHeartbeats 4000000 in
theorem listen_some (b : Bool) (G : Nat → Prop) (g : Nat) (m : NM) (h : Hn) (vx vy : Value) (l : List Int) (w : World) (hm : NA b G w g m) (hG : ∀ x, w.heap.size ≤ x → G x) (hh : HOk w h vx vy) (hn : m.firstL h = some l) (hg : NG (m.knows (Fr.res l NM.z3) h.o)) (ht : -4611686018427387904 ≤ m.tm ∧ m.tm ≤ 4611686018427387904) (hs : 0 ≤ (Fr.res l NM.z3).st.s) :
    Calls Tryz.prog 78 #[.pointer (some ⟨g, 0, none⟩), hdV h vx vy] w fun e w' => e = .returned (.tuple #[]) ∧ NA false G w' g (m.knows (Fr.res l NM.z3) h.o).goOn ∧ Only g w w' := by
  have hmf : ∀ (fn : Fn) (first cap : Array Value) (w : World), (Instr.makeFunc fn first cap).run Tryz.prog w = .ok (.func fn first cap) w := fun _ _ _ _ => rfl
  have hl : bytesL (Fr.res l NM.z3).d := by
    refine res_bytes _ _ ?_
    rcases mem_rows (List.mem_of_find?_eq_some hn) with e | e
    · rw [e]; exact hh.bx
    · rw [e]; exact hh.by_
  obtain ⟨Ax, cx, ex, -⟩ := hh.x.at_
  obtain ⟨Ay, cy, ey, -⟩ := hh.y.at_
  subst ex; subst ey
  have hb0 := (Below.refl w.heap.size w).alloc (Nat.le_refl _) (.cells #[.int .i64 h.a, .int .i64 h.b, .slice Ax h.x.length cx, .slice Ay h.y.length cy, .int .i64 h.o] 39)
  have hF := Lib.hid (firstJ_nd b G g m h _ _ NM.z3 _ ((hh.x.below hb0).more hb0.size) hh.bx ((hh.y.below hb0).more hb0.size) hh.by_ (hm.below hb0))
  have hX := Blk.new w w.heap.size rfl #[.int .i64 h.a, .int .i64 h.b, .slice Ax h.x.length cx, .slice Ay h.y.length cy, .int .i64 h.o] 39
  unfold Fst at hF
  rw [firstL_eq, hn] at hF
  simp only at hF
  unfold hdV at hF ⊢
  have ho := hh.o
  have hgl := hm.lt
  have HJ := fun v W (hW : Below w.heap.size w W) (hv : OwnsL W (w.heap.size + 1) v (Fr.res l NM.z3).d) => Lib.hid (join_nd b G g m (Fr.res l NM.z3) h.o v W.heap.size W (hm.below hW) (fun x hx => hG x (Nat.le_trans hW.size hx)) hv.sees (Nat.le_refl _) hl hs ht ho (fun _ e => by have := (hv.lt g e).1; omega))
  have HGo := fun W (hW : NA false G W g (m.knows (Fr.res l NM.z3) h.o)) => Lib.hid (goOn_nd false G g _ W hW hg)
  generalize (m.knows (Fr.res l NM.z3) h.o) = m2 at *
  generalize (Fr.res l NM.z3) = fr at *
  obtain ⟨fk, ⟨f_r, f_s, f_m⟩, fd⟩ := fr
  unfold stV NM.z3 at hF
  unfold frV at hF HJ
  simp only at hF HJ
  clear hn hm hh hg ht hs hl ho
  go_enter Tryz.func78, Tryz.ntmps78
  go_wp2_with fail
  refine hF.out.mono ?_
  rintro _ w2 ⟨v, rfl, hv, b2⟩
  obtain ⟨A2, c2, rfl, -⟩ := hv.sees.at_
  have hX3 := (hX.below b2 (by simp)).alloc (.cells #[.int .i64 fk, .int .i64 f_r, .int .i64 f_s, .int .i64 f_m, .slice A2 fd.length c2] 137)
  have hY3 := Blk.new w2 w2.heap.size rfl #[.int .i64 fk, .int .i64 f_r, .int .i64 f_s, .int .i64 f_m, .slice A2 fd.length c2] 137
  have b3 := (hb0.trans (b2.mono hb0.size)).alloc (Nat.le_trans hb0.size b2.size) (.cells #[.int .i64 fk, .int .i64 f_r, .int .i64 f_s, .int .i64 f_m, .slice A2 fd.length c2] 137)
  have hv3 := (hv.alloc (.cells #[.int .i64 fk, .int .i64 f_r, .int .i64 f_s, .int .i64 f_m, .slice A2 fd.length c2] 137)).base (B := w.heap.size + 1) (by simp)
  have x0 := hX3.cell 0 (x := .int .i64 h.a) rfl
  have x1 := hX3.cell 1 (x := .int .i64 h.b) rfl
  have x2 := hX3.cell 2 (x := .slice Ax h.x.length cx) rfl
  have x3 := hX3.cell 3 (x := .slice Ay h.y.length cy) rfl
  have x4 := hX3.cell 4 (x := .int .i64 h.o) rfl
  have y0 := hY3.cell 0 (x := .int .i64 fk) rfl
  have y1 := hY3.cell 1 (x := .int .i64 f_r) rfl
  have y2 := hY3.cell 2 (x := .int .i64 f_s) rfl
  have y3 := hY3.cell 3 (x := .int .i64 f_m) rfl
  have y4 := hY3.cell 4 (x := .slice A2 fd.length c2) rfl
  have HJ3 := HJ _ _ b3 hv3
  clear hX hX3 hY3 hb0 b2 hF HJ hv hv3
  go_wp2_with fail
  refine HJ3.out.mono ?_
  rintro _ w4 ⟨rfl, h4, o4⟩
  have o4 := (only_of_below g b3).trans o4
  have HG4 := HGo _ h4
  clear HGo HJ3 h4
  go_wp2_with fail
  refine HG4.out.mono ?_
  rintro _ w5 ⟨rfl, h5, o5⟩
  go_wp2
  exact bodyPost_end (results_none (by rfl) _ _ _) rfl ⟨rfl, h5, o4.trans o5⟩
end Go.Proofs.YtpdenmcacaajkaaGreat
