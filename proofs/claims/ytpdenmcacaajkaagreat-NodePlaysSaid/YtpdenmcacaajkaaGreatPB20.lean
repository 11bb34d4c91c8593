/- Texts NdG, NdH, NdI in one. For what each says in front of its theorems. -/
import Derived.StillTailTactics
import Derived.Test.YtpdenmcacaajkaaGreatPB19
/-! ### NdG -/
namespace Go.Proofs.YtpdenmcacaajkaaGreat
open Go.RowKit

set_option maxRecDepth 100000 in
set_option maxHeartbeats 1000000 in
theorem state_nd (b : Bool) (G : Nat → Prop) (g : Nat) (m : NM) (w : World) (h : NA b G w g m) :
    Calls Tryz.prog 38 #[.pointer (some ⟨g, 0, none⟩)] w fun e w' => e = .returned (.int .i64 (m.st : Nat)) ∧ w' = w := by
  have c10 := h.c10
  clear h
  go_enter Tryz.func38, Tryz.ntmps38
  go_wp2
  go_ret
  exact ⟨rfl, rfl⟩
set_option maxRecDepth 100000 in
set_option maxHeartbeats 1000000 in
theorem clock_nd (b : Bool) (G : Nat → Prop) (g : Nat) (m : NM) (w : World) (h : NA b G w g m) :
    Calls Tryz.prog 41 #[.pointer (some ⟨g, 0, none⟩)] w fun e w' => e = .returned (.int .i64 m.tm) ∧ w' = w := by
  have c15 := h.c15
  clear h
  go_enter Tryz.func41, Tryz.ntmps41
  go_wp2
  go_ret
  exact ⟨rfl, rfl⟩
set_option maxRecDepth 100000 in
set_option maxHeartbeats 1000000 in
theorem rings_nd (b : Bool) (G : Nat → Prop) (g : Nat) (m : NM) (n : Int) (w : World) (h : NA b G w g m) :
    Calls Tryz.prog 45 #[.pointer (some ⟨g, 0, none⟩), .int .i64 n] w fun e w' => e = .returned (.int .i64 ((if isR m.al n then m.ar n.toNat else 0 : Nat) : Int)) ∧ w' = w := by
  have H := Lib.hid (h.rings_ n)
  clear h
  generalize (if isR m.al n then m.ar n.toNat else 0 : Nat) = R at *
  go_enter Tryz.func45, Tryz.ntmps45
  go_wp2_with fail
  refine H.out.mono ?_
  rintro _ _ ⟨rfl, rfl⟩
  go_wp2
  go_ret
  exact ⟨rfl, rfl⟩
set_option maxRecDepth 100000 in
set_option maxHeartbeats 1000000 in
theorem ack_nd (b : Bool) (G : Nat → Prop) (g : Nat) (m : NM) (n : Int) (w : World) (h : NA b G w g m) :
    Calls Tryz.prog 31 #[.pointer (some ⟨g, 0, none⟩), .int .i64 n] w fun e w' => e = .returned (.int .i64 (ackM m.al m.an m.ar n)) ∧ NA b G w' g { m with ar := ackR m.al m.an m.ar n } ∧ Only g w w' := by
  have H := Lib.hid (h.ack_ n)
  clear h
  generalize ackM m.al m.an m.ar n = R at *
  go_enter Tryz.func31, Tryz.ntmps31
  go_wp2_with fail
  refine H.out.mono ?_
  rintro _ w1 ⟨rfl, h1, o1⟩
  go_wp2
  go_ret
  exact ⟨rfl, h1, o1⟩
set_option maxRecDepth 100000 in
set_option maxHeartbeats 1000000 in
theorem read_nd (b : Bool) (G : Nat → Prop) (g : Nat) (m : NM) (n : Int) (w : World) (h : NA b G w g m) :
    Calls Tryz.prog 43 #[.pointer (some ⟨g, 0, none⟩), .int .i64 n] w fun e w' => ∃ v, e = .returned (.agg #[v, .int .i64 (m.so.ga n), .bool (m.so.gg n)]) ∧ SeesL w' w'.heap.size v (m.so.gd n) ∧ bytesL (m.so.gd n) ∧ Below w.heap.size w w' := by
  have hl := (h.soo.gd n).2
  have hX := Blk.new w w.heap.size rfl #[.slice none 0 0, .int .i64 0, .bool false] 72
  have hb0 := (Below.refl w.heap.size w).alloc (Nat.le_refl _) (.cells #[.slice none 0 0, .int .i64 0, .bool false] 72)
  have H := Lib.hid ((h.alloc (.cells #[.slice none 0 0, .int .i64 0, .bool false] 72)).get n)
  clear h
  generalize m.so.ga n = a at *
  generalize m.so.gg n = q at *
  generalize m.so.gd n = L at *
  go_enter Tryz.func43, Tryz.ntmps43
  go_wp2_with fail
  refine H.out.mono ?_
  rintro _ w1 ⟨v, rfl, hs, ho, b1⟩
  obtain ⟨A, c, rfl, -⟩ := hs.at_
  have hX := hX.below b1 (by simp)
  have x0 := hX.cell 0 (x := .slice none 0 0) rfl
  have x1 := hX.cell 1 (x := .int .i64 0) rfl
  have x2 := hX.cell 2 (x := .bool false) rfl
  have f0 := hX.frozen 0
  have f1 := hX.frozen 1
  have f2 := hX.frozen 2
  have HB := Lib.hid ((((hb0.trans (b1.mono (by simp))).setCell (p := ⟨w.heap.size, 0, none⟩) (by simp) (.slice A L.length c)).setCell (p := ⟨w.heap.size, 1, none⟩) (by simp) (.int .i64 a)).setCell (p := ⟨w.heap.size, 2, none⟩) (by simp) (.bool q))
  have hs' : Hid (SeesL (((w1.setCell ⟨w.heap.size, 0, none⟩ (.slice A L.length c)).setCell ⟨w.heap.size, 1, none⟩ (.int .i64 a)).setCell ⟨w.heap.size, 2, none⟩ (.bool q)) (((w1.setCell ⟨w.heap.size, 0, none⟩ (.slice A L.length c)).setCell ⟨w.heap.size, 1, none⟩ (.int .i64 a)).setCell ⟨w.heap.size, 2, none⟩ (.bool q)).heap.size (.slice A L.length c) L) := Lib.hid (by
    by_cases h0 : L = []
    · subst h0
      obtain ⟨A', c', e, h1, h2, -, h4⟩ := hs.at_
      cases e
      exact ⟨A, c, rfl, h1, h2, fun h0 => absurd h0 (by simp), h4⟩
    · exact ((((ho h0).setFar ⟨w.heap.size, 0, none⟩ (.slice A L.length c) (by simp)).setFar ⟨w.heap.size, 1, none⟩ (.int .i64 a) (by simp)).setFar ⟨w.heap.size, 2, none⟩ (.bool q) (by simp)).sees)
  clear hs ho hX
  go_wp2
  refine bodyPost_ret (v := .agg #[.slice A L.length c, .int .i64 a, .bool q]) ?_ rfl ?_
  · rw [results_cell rfl]
    go_simp
  · exact ⟨_, rfl, hs'.out, hl, HB.out⟩
set_option maxRecDepth 100000 in
set_option maxHeartbeats 1000000 in
theorem view_nd (b : Bool) (G : Nat → Prop) (g : Nat) (m : NM) (w : World) (h : NA b G w g m) :
    Calls Tryz.prog 39 #[.pointer (some ⟨g, 0, none⟩)] w fun e w' => e = .returned (csV m.rd m.sl m.ty.m) ∧ Below w.heap.size w w' := by
  unfold csV
  have hX := Blk.new w w.heap.size rfl #[.int .i64 0, .int .i64 0, .int .i64 0] 101
  have hb0 := (Below.refl w.heap.size w).alloc (Nat.le_refl _) (.cells #[.int .i64 0, .int .i64 0, .int .i64 0] 101)
  have h1 := h.alloc (.cells #[.int .i64 0, .int .i64 0, .int .i64 0] 101)
  have H := Lib.hid h1.drew.members
  have c11 := h1.c11
  have c12 := h1.c12
  clear h h1
  go_enter Tryz.func39, Tryz.ntmps39
  go_wp2_with fail
  generalize w.alloc (.cells #[.int .i64 0, .int .i64 0, .int .i64 0] 101) = w2 at *
  go_still_tail 13, (by kernel_rfl)
  still_call H.out
  repeat still_step
  refine wpStill_nil ?_
  change wpList _ _ _ _ _ w2.drew
  have hX := hX.drew
  have hb := hb0.drew
  generalize w2.drew = w3 at *
  have x0 := hX.cell 0 (x := .int .i64 0) rfl
  have x1 := hX.cell 1 (x := .int .i64 0) rfl
  have x2 := hX.cell 2 (x := .int .i64 0) rfl
  have f0 := hX.frozen 0
  have f1 := hX.frozen 1
  have f2 := hX.frozen 2
  have HB := Lib.hid (((hb.setCell (p := ⟨w.heap.size, 0, none⟩) (by simp) (.int .i64 m.rd)).setCell (p := ⟨w.heap.size, 1, none⟩) (by simp) (.int .i64 (m.sl : Nat))).setCell (p := ⟨w.heap.size, 2, none⟩) (by simp) (.int .i64 (m.ty.m : Nat)))
  clear hX hb hb0 c11 c12 H
  go_wp2
  refine bodyPost_ret (v := .agg #[.int .i64 m.rd, .int .i64 (m.sl : Nat), .int .i64 (m.ty.m : Nat)]) ?_ rfl ?_
  · rw [results_cell rfl]
    go_simp
  · exact ⟨rfl, HB.out⟩
end Go.Proofs.YtpdenmcacaajkaaGreat

/-! ### NdH -/
namespace Go.Proofs.YtpdenmcacaajkaaGreat
open Go.RowKit

set_option maxRecDepth 100000 in
set_option maxHeartbeats 1000000 in
theorem off_nd (b : Bool) (G : Nat → Prop) (g : Nat) (m : NM) (w : World) (h : NA b G w g m) :
    Calls Tryz.prog 27 #[.pointer (some ⟨g, 0, none⟩)] w fun e w' => e = .returned (.tuple #[]) ∧ NA false G w' g m.off ∧ Only g w w' := by
  have H := Lib.hid (begin_nd b G g m 0 0 rfl w h)
  unfold NM.off
  generalize m.anew 0 = m' at *
  clear h
  go_enter Tryz.func27, Tryz.ntmps27
  go_wp2_with fail
  refine H.out.mono ?_
  rintro _ w1 ⟨rfl, h1, o1⟩
  go_wp2
  exact bodyPost_end (results_none (by rfl) _ _ _) rfl ⟨rfl, h1, o1⟩
set_option maxRecDepth 100000 in
set_option maxHeartbeats 1000000 in
theorem on_nd (b : Bool) (G : Nat → Prop) (g : Nat) (m : NM) (a : Int) (w : World) (h : NA b G w g m) (h5 : m.st ≤ 5) :
    Calls Tryz.prog 25 #[.pointer (some ⟨g, 0, none⟩), .int .i64 a] w fun e w' => e = .returned (.int .i64 (m.onE a)) ∧ NA (if m.onE a = 0 then false else b) G w' g (m.on a) ∧ Only g w w' := by
  by_cases h1 : a < -1000 ∨ 1000 < a
  · have e : m.onE a = 1 := by unfold NM.onE; rw [if_pos h1]
    rw [e, show m.on a = m by unfold NM.on; rw [e]; rfl]
    rw [if_neg (by omega)]
    by_cases h2 : a < -1000
    · clear h1
      go_enter Tryz.func25, Tryz.ntmps25
      go_wp2
      go_ret
      exact ⟨rfl, h, Only.refl _ _⟩
    · have h3 : 1000 < a := by omega
      have h2 : -1000 ≤ a := by omega
      clear h1
      go_enter Tryz.func25, Tryz.ntmps25
      go_wp2
      go_ret
      exact ⟨rfl, h, Only.refl _ _⟩
  · have a1 : -1000 ≤ a := by omega
    have a2 : a ≤ 1000 := by omega
    have c10 := h.c10
    by_cases h2 : m.st ≠ 0 ∧ m.st ≠ 5
    · have e : m.onE a = 4 := by unfold NM.onE; rw [if_neg h1, if_pos h2]
      rw [e, show m.on a = m by unfold NM.on; rw [e]; rfl]
      rw [if_neg (by omega)]
      have hk : Hid (NA b G w g m) := Lib.hid h
      clear h1 e h
      rcases (by omega : m.st = 1 ∨ m.st = 2 ∨ m.st = 3 ∨ m.st = 4) with e | e | e | e
      all_goals
        rw [e] at c10
        clear h2 e h5
        go_enter Tryz.func25, Tryz.ntmps25
        go_wp2
        go_ret
        exact ⟨rfl, hk.out, Only.refl _ _⟩
    · have e : m.onE a = 0 := by unfold NM.onE; rw [if_neg h1, if_neg h2]
      rw [e, show m.on a = { m.anew 1 with tm := a } by unfold NM.on; rw [if_pos e]]
      rw [if_pos rfl]
      have HB := Lib.hid (begin_nd b G g m 1 1 rfl w h)
      clear h h1 e
      generalize m.anew 1 = m' at *
      rcases (by omega : m.st = 0 ∨ m.st = 5) with e | e
      all_goals
        rw [e] at c10
        clear h2 e
        go_enter Tryz.func25, Tryz.ntmps25
        go_wp2_with fail
        refine HB.out.mono ?_
        rintro _ w1 ⟨rfl, h1, o1⟩
        have c15 := h1.c15
        have f15 := h1.frozen 15
        have h2 := Lib.hid (h1.sTm a)
        clear h1
        go_wp2
        go_ret
        exact ⟨rfl, h2.out, o1.set _ _⟩
set_option maxRecDepth 100000 in
set_option maxHeartbeats 1000000 in
theorem write_nd (b : Bool) (G : Nat → Prop) (g : Nat) (m : NM) (v : Value) (l : List Int) (B : Nat) (w : World) (h : NA b G w g m) (hG : ∀ x, w.heap.size ≤ x → G x) (hv : SeesL w B v l) (hz : m.me.sz ≤ 8) :
    Calls Tryz.prog 29 #[.pointer (some ⟨g, 0, none⟩), v] w fun e w' => e = .returned (.int .i64 (m.writeE l)) ∧ NA b G w' g (m.write l) ∧ Only g w w' := by
  have c7 := h.c7
  obtain ⟨A, c, rfl, v1, v2, v3, v4⟩ := hv.at_
  unfold maxLen at v2
  clear v3 v4
  by_cases h1 : m.me.sz < l.length
  · rw [show m.writeE l = 1 by unfold NM.writeE; rw [if_pos h1], show m.write l = m by unfold NM.write; rw [if_pos h1]]
    go_enter Tryz.func29, Tryz.ntmps29
    go_wp2
    go_ret
    exact ⟨rfl, h, Only.refl _ _⟩
  · rw [show m.writeE l = 0 by unfold NM.writeE; rw [if_neg h1], show m.write l = { m with da := l } by unfold NM.write; rw [if_neg h1]]
    have hC := Lib.hid (clone_b (.slice A l.length c) l w B hv (by omega))
    have h1 : ((l.length : Nat) : Int) ≤ m.me.sz := by omega
    have hgl := h.lt
    have hk : Hid (NA b G w g m) := Lib.hid h
    clear h hv
    go_enter Tryz.func29, Tryz.ntmps29
    go_wp2_with fail
    refine hC.out.mono ?_
    rintro _ w1 ⟨v', rfl, ho, b1⟩
    have h2 := hk.out.below b1
    obtain ⟨A', c', c16, -⟩ := h2.cD
    have f16 := h2.frozen 16
    have h3 := Lib.hid (h2.sDa (v := v') (l := l) ⟨ho.dat (by simpa using hgl), fun _ x hx => hG x (ho.lt x hx).1⟩)
    obtain ⟨A2, d2, rfl, -⟩ := ho.sees.at_
    clear h2 ho
    go_wp2
    go_ret
    exact ⟨rfl, h3.out, (only_of_below g b1).set _ _⟩
end Go.Proofs.YtpdenmcacaajkaaGreat

/-! ### NdI -/
namespace Go.Proofs.YtpdenmcacaajkaaGreat
open Go.RowKit

/-- Of what kind a frame would be. -/
def NM.kindV (m : NM) : Int := if m.st = 1 then 3 else if m.me.inf = true ∨ m.st ≠ 4 ∨ m.rd % 2 = 0 then 2 else 1
set_option maxRecDepth 100000 in
set_option maxHeartbeats 1000000 in
theorem kind_nd (b : Bool) (G : Nat → Prop) (g : Nat) (m : NM) (w : World) (h : NA b G w g m) (h5 : m.st ≤ 5) (hr : 0 ≤ m.rd ∧ m.rd ≤ 65535) :
    Calls Tryz.prog 66 #[.pointer (some ⟨g, 0, none⟩)] w fun e w' => e = .returned (.int .i64 m.kindV) ∧ w' = w := by
  have c5 := h.c5
  have c10 := h.c10
  have c11 := h.c11
  unfold NM.kindV
  clear h
  generalize m.me.inf = q at *
  generalize m.rd = r at *
  obtain ⟨r1, r2⟩ := hr
  by_cases h1 : m.st = 1
  · rw [h1] at c10
    rw [if_pos h1]
    clear h5 h1
    go_enter Tryz.func66, Tryz.ntmps66
    go_wp2
    go_ret
    exact ⟨rfl, rfl⟩
  · rw [if_neg h1]
    by_cases h4 : m.st = 4
    · rw [h4] at c10
      cases q
      · have hm : Int.tmod r 2 = r % 2 := Int.tmod_eq_emod_of_nonneg r1
        by_cases hp : r % 2 = 0
        · rw [if_pos (.inr (.inr hp))]
          clear h5 h1 h4
          go_enter Tryz.func66, Tryz.ntmps66
          go_wp2
          go_ret
          exact ⟨rfl, rfl⟩
        · rw [if_neg (by simp [h4, hp])]
          have hp : r % 2 = 1 := by omega
          clear h5 h1 h4
          go_enter Tryz.func66, Tryz.ntmps66
          go_wp2
          go_ret
          exact ⟨rfl, rfl⟩
      · rw [if_pos (.inl rfl)]
        clear h5 h1 h4
        go_enter Tryz.func66, Tryz.ntmps66
        go_wp2
        go_ret
        exact ⟨rfl, rfl⟩
    · rw [if_pos (.inr (.inl h4))]
      rcases (by omega : m.st = 0 ∨ m.st = 2 ∨ m.st = 3 ∨ m.st = 5) with e | e | e | e
      all_goals
        rw [e] at c10
        clear h5 h1 h4 e
        cases q
        all_goals
          go_enter Tryz.func66, Tryz.ntmps66
          go_wp2
          go_ret
          exact ⟨rfl, rfl⟩
set_option maxRecDepth 100000 in
set_option maxHeartbeats 1000000 in
/-- It has waited for one slot more. -/
theorem waits_no (b : Bool) (G : Nat → Prop) (g : Nat) (m : NM) (w : World) (h : NA b G w g m) (hw : (m.wt : Int) + 1 < m.me.li) (hl : m.me.li ≤ 1000) :
    Calls Tryz.prog 67 #[.pointer (some ⟨g, 0, none⟩)] w fun e w' => e = .returned (.bool false) ∧ NA b G w' g { m with wt := m.wt + 1 } ∧ Only g w w' := by
  have c13 := h.c13
  have f13 := h.frozen 13
  have H1 := Lib.hid (h.sWt (m.wt + 1))
  have d6 := H1.out.c6
  have d13 := H1.out.c13
  have o1 := Lib.hid (((Only.refl g w).set 13 (.int .i64 ((m.wt + 1 : Nat) : Int))))
  have e0 : ((m.wt + 1 : Nat) : Int) = ((m.wt : Nat) : Int) + 1 := by omega
  rw [show ({ m with wt := m.wt + 1 } : NM).me = m.me from rfl] at d6
  rw [show ({ m with wt := m.wt + 1 } : NM).wt = m.wt + 1 from rfl] at d13
  rw [e0] at d13 d6 o1
  have H1 : Hid (NA b G (w.setCell ⟨g, 13, none⟩ (.int .i64 (((m.wt : Nat) : Int) + 1))) g { m with wt := m.wt + 1 }) := Lib.hid H1.out
  have q : (((m.wt : Nat) : Int) + 1 == m.me.li) = false := by rw [beq_eq_false_iff_ne]; omega
  have z2 : ((m.wt : Nat) : Int) ≤ 1000 := by omega
  clear h hw e0
  generalize hz : ((m.wt : Nat) : Int) = z at *
  generalize hy : m.me.li = y at *
  have z1 : 0 ≤ z := by omega
  go_enter Tryz.func67, Tryz.ntmps67
  go_wp2_with fail
  go_quiet (fail)
  go_wp2
  go_ret
  exact ⟨rfl, H1.out.drewN _, o1.out.trans (only_of_below g (below_drewN (Below.refl _ _) _))⟩
set_option maxRecDepth 100000 in
set_option maxHeartbeats 1000000 in
/-- It has waited out. -/
theorem waits_yes (b : Bool) (G : Nat → Prop) (g : Nat) (m : NM) (w : World) (h : NA b G w g m) (hw : m.me.li = (m.wt : Int) + 1) (hl : m.me.li ≤ 1000) :
    Calls Tryz.prog 67 #[.pointer (some ⟨g, 0, none⟩)] w fun e w' => e = .returned (.bool true) ∧ NA false G w' g { m.anew 2 with sl := m.i } ∧ Only g w w' := by
  have c13 := h.c13
  have f13 := h.frozen 13
  have H1 := Lib.hid (h.sWt (m.wt + 1))
  have d6 := H1.out.c6
  have d13 := H1.out.c13
  have o1 := Lib.hid (((Only.refl g w).set 13 (.int .i64 ((m.wt + 1 : Nat) : Int))))
  have e0 : ((m.wt + 1 : Nat) : Int) = ((m.wt : Nat) : Int) + 1 := by omega
  rw [show ({ m with wt := m.wt + 1 } : NM).me = m.me from rfl, hw] at d6
  rw [show ({ m with wt := m.wt + 1 } : NM).wt = m.wt + 1 from rfl] at d13
  rw [e0] at d13 d6 o1
  have H1 : Hid (NA b G (w.setCell ⟨g, 13, none⟩ (.int .i64 (((m.wt : Nat) : Int) + 1))) g { m with wt := m.wt + 1 }) := Lib.hid H1.out
  have z2 : ((m.wt : Nat) : Int) ≤ 1000 := by omega
  have HB := fun W (h : NA b G W g { m with wt := m.wt + 1 }) => Lib.hid (begin_nd b G g _ 2 2 rfl W h)
  rw [show ({ m with wt := m.wt + 1 } : NM).anew 2 = m.anew 2 from rfl] at HB
  have hi : (m.anew 2).i = m.i := rfl
  clear h hw e0 hl
  generalize m.i = i at *
  generalize m.anew 2 = m2 at *
  generalize hz : ((m.wt : Nat) : Int) = z at *
  have z1 : 0 ≤ z := by omega
  go_enter Tryz.func67, Tryz.ntmps67
  go_wp2_with fail
  go_quiet (fail)
  go_wp2_with fail
  refine (HB _ (H1.out.drewN _)).out.mono ?_
  rintro _ w2 ⟨rfl, h2, o2⟩
  have c8 := h2.c8
  rw [hi] at c8
  have c12 := h2.c12
  have f12 := h2.frozen 12
  have h3 := Lib.hid (h2.sSl i)
  have o3 := Lib.hid (((o1.out.trans (only_of_below g (below_drewN (Below.refl _ _) _))).trans o2).set 12 (.int .i64 (i : Nat)))
  clear h2 o2 H1 d6 d13 c13 f13 HB o1
  go_wp2
  go_ret
  exact ⟨rfl, h3.out, o3.out⟩
end Go.Proofs.YtpdenmcacaajkaaGreat
