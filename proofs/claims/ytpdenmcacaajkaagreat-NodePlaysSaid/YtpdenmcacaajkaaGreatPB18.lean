/- Texts AlP in one. For what each says in front of its theorems. -/
import Derived.Test.YtpdenmcacaajkaaGreatPB14
import Derived.Test.YtpdenmcacaajkaaGreatPB17
/-! ### AlP -/
namespace Go.Proofs.YtpdenmcacaajkaaGreat
open Go.RowKit

theorem alc_size (V : Value) (n r : Nat → Nat) : (alc V n r).size = 17 := rfl
/-- An Alarms in memory: its rules lie in no block of F. -/
structure APt (c : Cx 50) (V : Value) (F : List Nat) (W : World) (g : Nat) (l : List R4) (n r : Nat → Nat) : Prop where
  ex : PB c W g (alc V n r) ∧ SeesRs W W.heap.size V l ∧ ∀ f, f ∈ F → l ≠ [] → V.ownBlock ≠ some f
  len : l.length ≤ 8
  n16 : ∀ i, i < 8 → n i < 16
  r16 : ∀ i, i < 8 → r i < 16
section
variable {c : Cx 50} {V : Value} {F : List Nat} {W W' : World} {g g' : Nat} {l : List R4} {n r : Nat → Nat}
theorem APt.lt (h : APt c V F W g l n r) : g < W.heap.size := by
  obtain ⟨hB, -⟩ := h.ex
  exact hB.lt
theorem APt.keep (h : APt c V F W g l n r) (k : Kp F W W') (hb : W'.heap[g]? = W.heap[g]?) : APt c V F W' g l n r := by
  obtain ⟨hB, hS, hF⟩ := h.ex
  exact ⟨⟨hb.trans hB, hS.keepF hF k, hF⟩, h.len, h.n16, h.r16⟩
theorem APt.below (h : APt c V F W g l n r) (k : Below W.heap.size W W') : APt c V F W' g l n r := h.keep (kp_below k) (k.block g h.lt)
theorem APt.only (h : APt c V F W g l n r) (k : Only g' W W') (hne : g ≠ g') (hF : g' ∈ F) : APt c V F W' g l n r := h.keep (k.kp hF) (k.block g h.lt (by intro e; cases e; exact hne rfl))
theorem APt.frozen (h : APt c V F W g l n r) (o : Nat) : W.frozen? ⟨g, o, none⟩ = false := by
  obtain ⟨hB, -⟩ := h.ex
  exact hB.frozen _
theorem APt.cs (h : APt c V F W g l n r) : ∃ A d, W.cell? ⟨g, 50, none⟩ = some (.slice A l.length d) ∧ SeesRs W W.heap.size (.slice A l.length d) l := by
  obtain ⟨hB, hS, -⟩ := h.ex
  obtain ⟨A, d, rfl, -⟩ := hS.at_
  exact ⟨A, d, hB.cell 0 rfl, hS⟩
theorem APt.cn (h : APt c V F W g l n r) {i : Nat} (hi : i < 8) : W.cell? ⟨g, 51 + i, none⟩ = some (.int .i64 (n i : Nat)) := by
  obtain ⟨hB, -⟩ := h.ex
  exact PBa (hB.cell _ (alc_n _ _ _ hi)) (by omega)
theorem APt.cr (h : APt c V F W g l n r) {i : Nat} (hi : i < 8) : W.cell? ⟨g, 59 + i, none⟩ = some (.int .i64 (r i : Nat)) := by
  obtain ⟨hB, -⟩ := h.ex
  exact PBa (hB.cell _ (alc_r _ _ _ hi)) (by omega)
theorem APt.setr (h : APt c V F W g l n r) (hg : g ∈ F) {i x : Nat} (hi : i < 8) (hx : x < 16) : APt c V F (W.setCell ⟨g, 59 + i, none⟩ (.int .i64 x)) g l n (upd r i x) := by
  obtain ⟨hB, hS, hF⟩ := h.ex
  have hkp : Kp F W (W.setCell ⟨g, 59 + i, none⟩ (.int .i64 x)) := ((Only.refl g W).set _ _).kp hg
  refine ⟨⟨PBs (hB.set (9 + i) (by rw [alc_size]; omega) _) (by omega) (set_r _ _ _ hi _), hS.keepF hF hkp, hF⟩, h.len, h.n16, fun j hj => ?_⟩
  simp only [upd]
  split
  · exact hx
  · exact h.r16 j hj
theorem APt.setn (h : APt c V F W g l n r) (hg : g ∈ F) {i x : Nat} (hi : i < 8) (hx : x < 16) : APt c V F (W.setCell ⟨g, 51 + i, none⟩ (.int .i64 x)) g l (upd n i x) r := by
  obtain ⟨hB, hS, hF⟩ := h.ex
  have hkp : Kp F W (W.setCell ⟨g, 51 + i, none⟩ (.int .i64 x)) := ((Only.refl g W).set _ _).kp hg
  refine ⟨⟨PBs (hB.set (1 + i) (by rw [alc_size]; omega) _) (by omega) (set_n _ _ _ hi _), hS.keepF hF hkp, hF⟩, h.len, fun j hj => ?_, h.r16⟩
  simp only [upd]
  split
  · exact hx
  · exact h.n16 j hj
theorem APt.drew (h : APt c V F W g l n r) : APt c V F W.drew g l n r := h.below (Below.refl _ W).drew
theorem APt.alike {n' r' : Nat → Nat} (h : APt c V F W g l n r) (hn : ∀ i, i < 8 → n i = n' i) (hr : ∀ i, i < 8 → r i = r' i) : APt c V F W g l n' r' := by
  obtain ⟨hB, hS, hF⟩ := h.ex
  refine ⟨⟨hB.eq ?_, hS, hF⟩, h.len, fun i hi => hn i hi ▸ h.n16 i hi, fun i hi => hr i hi ▸ h.r16 i hi⟩
  unfold alc
  rw [hn 0 (by omega), hn 1 (by omega), hn 2 (by omega), hn 3 (by omega), hn 4 (by omega), hn 5 (by omega), hn 6 (by omega), hn 7 (by omega), hr 0 (by omega), hr 1 (by omega), hr 2 (by omega), hr 3 (by omega), hr 4 (by omega), hr 5 (by omega), hr 6 (by omega), hr 7 (by omega)]
end
set_option maxRecDepth 100000 in
set_option maxHeartbeats 2000000 in
theorem has_ap (c : Cx 50) (V : Value) (F : List Nat) (g : Nat) (l : List R4) (n r : Nat → Nat) (i : Int) (w : World) (h : APt c V F w g l n r) :
    Calls Tryz.prog 105 #[.pointer (some ⟨g, 50, none⟩), .int .i64 i] w fun e w' => e = .returned (.bool (decide (isR l i))) ∧ w' = w := by
  have h8 := h.len
  obtain ⟨A, d, c0, -⟩ := h.cs
  clear h
  go_enter Tryz.func105, Tryz.ntmps105
  go_wp2
  all_goals
    go_ret
    refine ⟨congrArg (fun b => Ending.returned (Value.bool b)) (Bool.eq_iff_iff.2 ?_), rfl⟩
    rw [decide_eq_true_iff]
    simp only [decide_eq_true_eq, Bool.false_eq_true]
    unfold isR
    constructor <;> intro H
    all_goals (first | omega | exact H.elim)
set_option maxRecDepth 100000 in
set_option maxHeartbeats 2000000 in
theorem rings_ap (c : Cx 50) (V : Value) (F : List Nat) (g : Nat) (l : List R4) (n r : Nat → Nat) (i : Int) (w : World) (h : APt c V F w g l n r) :
    Calls Tryz.prog 97 #[.pointer (some ⟨g, 50, none⟩), .int .i64 i] w fun e w' => e = .returned (.int .i64 ((if isR l i then r i.toNat else 0 : Nat) : Int)) ∧ w' = w := by
  have HN := Lib.hid (has_ap c V F g l n r i w h)
  by_cases hn : isR l i
  · rw [decide_eq_true hn] at HN
    rw [if_pos hn]
    have h8 := h.len
    unfold isR at hn
    obtain ⟨i, rfl⟩ : ∃ k : Nat, i = k := ⟨i.toNat, by omega⟩
    have hi : i < 8 := by omega
    have c1 := h.cr hi
    rw [Int.toNat_natCast]
    clear h
    go_enter Tryz.func97, Tryz.ntmps97
    go_wp2_with fail
    refine HN.out.mono ?_
    rintro _ _ ⟨rfl, rfl⟩
    go_wp2
    go_ret
    exact ⟨rfl, rfl⟩
  · rw [decide_eq_false hn] at HN
    rw [if_neg hn]
    go_enter Tryz.func97, Tryz.ntmps97
    go_wp2_with fail
    refine HN.out.mono ?_
    rintro _ _ ⟨rfl, rfl⟩
    go_wp2
    go_ret
    exact ⟨rfl, rfl⟩
set_option maxRecDepth 100000 in
set_option maxHeartbeats 2000000 in
theorem ack_ap (c : Cx 50) (V : Value) (F : List Nat) (g : Nat) (l : List R4) (n r : Nat → Nat) (i : Int) (w : World) (h : APt c V F w g l n r) (hg : g ∈ F) :
    Calls Tryz.prog 65 #[.pointer (some ⟨g, 50, none⟩), .int .i64 i] w fun e w' => e = .returned (.int .i64 (ackM l n r i)) ∧ APt c V F w' g l n (ackR l n r i) ∧ Only g w w' := by
  have HN := Lib.hid (has_ap c V F g l n r i w h)
  by_cases hn : isR l i
  case neg =>
    rw [decide_eq_false hn] at HN
    rw [show ackM l n r i = 1 by unfold ackM; rw [if_neg hn], show ackR l n r i = r by unfold ackR; rw [if_neg hn]]
    go_enter Tryz.func65, Tryz.ntmps65
    go_wp2_with fail
    refine HN.out.mono ?_
    rintro _ _ ⟨rfl, rfl⟩
    go_wp2
    go_ret
    exact ⟨rfl, h, Only.refl _ _⟩
  rw [decide_eq_true hn] at HN
  have hn' := hn
  unfold isR at hn
  have h8 := h.len
  obtain ⟨i, rfl⟩ : ∃ k : Nat, i = k := ⟨i.toNat, by omega⟩
  have hi : i < 8 := by omega
  have c1 := h.cn hi
  have c2 := h.cr hi
  have f2 := h.frozen (59 + i)
  have ha := andn_16 (h.r16 i hi) (h.n16 i hi)
  have hk : Hid (APt c V F w g l n r) := Lib.hid h
  have hx := h.n16 i hi
  clear h
  by_cases h0 : andn (r i) (n i) = 0
  · rw [show ackM l n r i = 4 by unfold ackM; rw [if_pos hn', Int.toNat_natCast, if_pos h0], show ackR l n r i = r by unfold ackR; rw [if_pos hn', Int.toNat_natCast, if_pos h0]]
    rw [h0] at ha
    go_enter Tryz.func65, Tryz.ntmps65
    go_wp2_with fail
    refine HN.out.mono ?_
    rintro _ _ ⟨rfl, rfl⟩
    go_wp2_with fail
    go_quiet (fail)
    go_wp2
    go_ret
    exact ⟨rfl, hk.out.below (below_drewN (Below.refl _ _) _), only_of_below g (below_drewN (Below.refl _ _) _)⟩
  · rw [show ackM l n r i = 0 by unfold ackM; rw [if_pos hn', Int.toNat_natCast, if_neg h0], show ackR l n r i = upd r i (n i) by unfold ackR; rw [if_pos hn', Int.toNat_natCast, if_neg h0]]
    have q0 : (((andn (r i) (n i) : Nat) : Int) == 0) = false := by rw [beq_eq_false_iff_ne]; omega
    go_enter Tryz.func65, Tryz.ntmps65
    go_wp2_with fail
    refine HN.out.mono ?_
    rintro _ _ ⟨rfl, rfl⟩
    go_wp2_with fail
    go_quiet (fail)
    go_wp2_with fail
    go_region
    all_goals
      go_wp2
      go_ret
      exact ⟨rfl, APt.setr (hk.out.below (below_drewN (Below.refl _ _) _)) hg hi hx, (only_of_below g (below_drewN (Below.refl _ _) _)).set _ _⟩
theorem APt.set8 {c : Cx 50} {V : Value} {F : List Nat} {W : World} {g : Nat} {l : List R4} {n r : Nat → Nat} (h : APt c V F W g l n r) (hg : g ∈ F) (N : Nat → Nat) (hN : ∀ i, N i < 16) : APt c V F ((((((((W.setCell ⟨g, 51, none⟩ (.int .i64 (N 0 : Nat))).setCell ⟨g, 52, none⟩ (.int .i64 (N 1 : Nat))).setCell ⟨g, 53, none⟩ (.int .i64 (N 2 : Nat))).setCell ⟨g, 54, none⟩ (.int .i64 (N 3 : Nat))).setCell ⟨g, 55, none⟩ (.int .i64 (N 4 : Nat))).setCell ⟨g, 56, none⟩ (.int .i64 (N 5 : Nat))).setCell ⟨g, 57, none⟩ (.int .i64 (N 6 : Nat))).setCell ⟨g, 58, none⟩ (.int .i64 (N 7 : Nat))) g l N r ∧ Only g W ((((((((W.setCell ⟨g, 51, none⟩ (.int .i64 (N 0 : Nat))).setCell ⟨g, 52, none⟩ (.int .i64 (N 1 : Nat))).setCell ⟨g, 53, none⟩ (.int .i64 (N 2 : Nat))).setCell ⟨g, 54, none⟩ (.int .i64 (N 3 : Nat))).setCell ⟨g, 55, none⟩ (.int .i64 (N 4 : Nat))).setCell ⟨g, 56, none⟩ (.int .i64 (N 5 : Nat))).setCell ⟨g, 57, none⟩ (.int .i64 (N 6 : Nat))).setCell ⟨g, 58, none⟩ (.int .i64 (N 7 : Nat))) :=
  ⟨(((((((((h).setn hg (i := 0) (by omega) (hN 0)).setn hg (i := 1) (by omega) (hN 1)).setn hg (i := 2) (by omega) (hN 2)).setn hg (i := 3) (by omega) (hN 3)).setn hg (i := 4) (by omega) (hN 4)).setn hg (i := 5) (by omega) (hN 5)).setn hg (i := 6) (by omega) (hN 6)).setn hg (i := 7) (by omega) (hN 7)).alike (fun i hi => under8 (p := fun i => _ = N i) hi rfl rfl rfl rfl rfl rfl rfl rfl) (fun _ _ => rfl), ((((((((Only.refl g W).set _ _).set _ _).set _ _).set _ _).set _ _).set _ _).set _ _).set _ _⟩
/-- A store's Get, handed to Look. -/
def ndGet (g : Nat) : Value := .func (.func 95) #[.pointer (some ⟨g, 26, none⟩)] #[]
set_option maxRecDepth 100000 in
set_option maxHeartbeats 4000000 in
theorem look_ap (c : Cx 50) (c' : Cx 26) (V : Value) (G : Nat → Prop) (F : List Nat) (g : Nat) (l : List R4) (n r : Nat → Nat) (s : MS) (w : World) (h : APt c V F w g l n r) (hg : g ∈ F) (p : SPt c' G F w g s) :
    Calls Tryz.prog 151 #[.pointer (some ⟨g, 50, none⟩), ndGet g] w fun e w' => e = .returned (.tuple #[]) ∧ APt c V F w' g l (nowM l s) (fun i => r i ||| nowM l s i) ∧ Only g w w' := by
  have h8 := h.len
  have hgl := h.lt
  obtain ⟨A, d, c0, hS⟩ := h.cs
  obtain ⟨A', d', e, v1, v2, v3, v4⟩ := hS.at_
  cases e
  unfold maxLen at v2
  have HX : Hid (0 < l.length → ∃ b off, A = some ⟨b, off, none⟩ ∧ ∀ W, Below w.heap.size w W → ∀ k, k < l.length → AtRl W b (off + k * 4) (l.getD k default)) := Lib.hid fun h0 => by
    obtain ⟨b, off, hA, hb, hc⟩ := v3 h0
    exact ⟨b, off, hA, fun W hW k hk => (hc k hk).keep fun o => hW.cell (p := ⟨b, o, none⟩) hb⟩
  have HR := fun i W (hW : Below w.heap.size w W) => Lib.hid (get_sp c' G F g s i W (SPt.below p hW))
  have HL := fun i => (p.2.gd i).2
  have HK : Hid (APt c V F w g l n r) := Lib.hid h
  have hmf : ∀ (fn : Fn) (first cap : Array Value) (w : World), (Instr.makeFunc fn first cap).run Tryz.prog w = .ok (.func fn first cap) w := fun _ _ _ _ => rfl
  unfold ndGet
  clear hS v1 v2 v3 v4 h p
  go_enter_defers Tryz.func151, Tryz.ntmps151
  go_wp2_with fail
  go_loopw [16] (fun i wr => ∃ k : Nat, k ≤ l.length ∧ i = .int .i64 k ∧ Blk wr w.heap.size (c8 fun j => if j < k then nowM l s j else 0) 66 ∧ Below w.heap.size w wr) (fun i _ => l.length - (intOf i).toNat)
  case atStart => exact ⟨0, by omega, rfl, Blk.new _ _ rfl _ _, (Below.refl _ _).alloc (Nat.le_refl _) _⟩
  case round =>
    obtain ⟨k, hk, rfl, hB, b⟩ := hrel
    by_cases hlt : k < l.length
    · have r1 : decide ((k : Int) < ((l.length : Nat) : Int)) = true := decide_eq_true (by omega)
      obtain ⟨bl, off, rfl, HG⟩ := HX.out (by omega)
      obtain ⟨x0, x1, x2, x3⟩ := HG _ b k hlt
      clear HG HX
      generalize hq : l.getD k default = q at *
      have hnk : nowM l s k = whyM q (s.gd q.n) (s.ga q.n) (s.gg q.n) := by unfold nowM; rw [if_pos hlt, hq]
      have hn16 := nowM_lt l s k
      obtain ⟨qn, ql, qh, qs⟩ := q
      have hRq := HR qn
      have bX := b.alloc b.size (.cells #[.int .i64 qn, .int .i64 ql, .int .i64 qh, .int .i64 qs] 80)
      have hX := Blk.new wr wr.heap.size rfl #[.int .i64 qn, .int .i64 ql, .int .i64 qh, .int .i64 qs] 80
      have hBX := hB.alloc (.cells #[.int .i64 qn, .int .i64 ql, .int .i64 qh, .int .i64 qs] 80)
      have hbs := b.size
      clear HR hq
      go_wp2_with fail
      refine wp_onlyN ?_
      go_region_with (first
        | (go_at_call 95; refine (hRq _ bX.drew).out.mono ?_; rintro _ w2 ⟨v2, rfl, hv2, -, b2⟩; have hl2 := HL qn; have hX2 := hX.drew.below b2 (by simp); have hBX2 := hBX.drew.below b2 (by simp; omega); have b2 := bX.drew.trans (b2.mono (by simp; omega)); have y0 := hX2.cell 0 (x := .int .i64 qn) rfl; have y1 := hX2.cell 1 (x := .int .i64 ql) rfl; have y2 := hX2.cell 2 (x := .int .i64 qh) rfl; have y3 := hX2.cell 3 (x := .int .i64 qs) rfl)
        | (go_at_call 171; refine (why_al ⟨qn, ql, qh, qs⟩ v2 _ _ _ _ _ hv2 hl2).mono ?_; rintro _ w3 ⟨rfl, b3⟩; have hB3 := hBX2.below b3 hBX2.lt; have b3 := b2.trans (b3.mono b2.size); have z0 := hB3.cell k (c8_at _ (by omega)); have z1 := hB3.frozen k))
      all_goals
        unfold onlyN
        go_wp2
        go_roundw
        case rel =>
          refine ⟨k + 1, by omega, by go_num, (hB3.set k _).eq ((c8_set _ (by omega) _).trans (congrArg c8 (funext fun j => ?_))), b3.setCell (by simp) _⟩
          simp only [upd]
          rcases lt_or_eq_or j k with h | h | h
          · rw [if_neg (by omega), if_pos h, if_pos (by omega)]
          · subst h
            rw [if_pos rfl, if_pos (by omega), hnk]
          · rw [if_neg (by omega), if_neg (by omega), if_neg (by omega)]
        case measure => simp [intOf]; omega
    · obtain rfl : k = l.length := by omega
      have r1 : decide (((l.length : Nat) : Int) < ((l.length : Nat) : Int)) = false := decide_eq_false (by omega)
      have hB : Blk wr w.heap.size (c8 (nowM l s)) 66 := hB.eq (congrArg c8 (funext fun j => by
        split
        · rfl
        · rename_i h
          unfold nowM
          rw [if_neg h]))
      have ha := HK.out.below b
      have y0 := hB.cell 0 (x := .int .i64 (nowM l s 0 : Nat)) rfl
      have y1 := hB.cell 1 (x := .int .i64 (nowM l s 1 : Nat)) rfl
      have y2 := hB.cell 2 (x := .int .i64 (nowM l s 2 : Nat)) rfl
      have y3 := hB.cell 3 (x := .int .i64 (nowM l s 3 : Nat)) rfl
      have y4 := hB.cell 4 (x := .int .i64 (nowM l s 4 : Nat)) rfl
      have y5 := hB.cell 5 (x := .int .i64 (nowM l s 5 : Nat)) rfl
      have y6 := hB.cell 6 (x := .int .i64 (nowM l s 6 : Nat)) rfl
      have y7 := hB.cell 7 (x := .int .i64 (nowM l s 7 : Nat)) rfl
      have z0 := ha.cn (i := 0) (by omega)
      have f0 := ha.frozen 51
      have z1 := ha.cn (i := 1) (by omega)
      have f1 := ha.frozen 52
      have z2 := ha.cn (i := 2) (by omega)
      have f2 := ha.frozen 53
      have z3 := ha.cn (i := 3) (by omega)
      have f3 := ha.frozen 54
      have z4 := ha.cn (i := 4) (by omega)
      have f4 := ha.frozen 55
      have z5 := ha.cn (i := 5) (by omega)
      have f5 := ha.frozen 56
      have z6 := ha.cn (i := 6) (by omega)
      have f6 := ha.frozen 57
      have z7 := ha.cn (i := 7) (by omega)
      have f7 := ha.frozen 58
      obtain ⟨hA, hO⟩ := ha.set8 hg (nowM l s) (nowM_lt l s)
      replace hO := (only_of_below g b).trans hO
      clear HX HR HL
      go_wp2_with fail
      have hN := nowM_lt l s
      clear ha hB y0 y1 y2 y3 y4 y5 y6 y7 z0 z1 z2 z3 z4 z5 z6 z7 f0 f1 f2 f3 f4 f5 f6 f7 b c0 HK
      generalize hNe : nowM l s = N at *
      go_loopw [35] (fun i wr => ∃ k : Nat, k ≤ 8 ∧ i = .int .i64 k ∧ APt c V F wr g l N (fun j => if j < k then r j ||| N j else r j) ∧ Only g w wr) (fun i _ => 8 - (intOf i).toNat)
      case atStart => exact ⟨0, by omega, rfl, hA, hO⟩
      case round =>
        clear hA hO
        obtain ⟨k, hk, rfl, hA, hO⟩ := hrel
        by_cases hlt : k < 8
        · have r2 : decide ((k : Int) < 8) = true := decide_eq_true (by omega)
          have cr := hA.cr hlt
          simp only [if_neg (Nat.lt_irrefl k)] at cr
          have fr := hA.frozen (59 + k)
          have hor := or_16 (hA.r16 k hlt) (hN k)
          simp only [if_neg (Nat.lt_irrefl k)] at hor
          have hix := index8 N hlt
          have hA0 := Lib.hid hA
          clear hA
          go_wp2_with fail
          go_region
          all_goals
            go_wp2
            go_roundw
            case rel =>
              refine ⟨k + 1, by omega, by go_num, (hA0.out.drew.setr hg hlt (or16_lt (by have := hA0.out.r16 k hlt; simpa using this) (hN k))).alike (fun _ _ => rfl) (fun j _ => ?_), (hO.drew).set _ _⟩
              simp only [upd]
              rcases lt_or_eq_or j k with h | h | h
              · rw [if_neg (by omega), if_pos h, if_pos (by omega)]
              · subst h
                rw [if_pos rfl, if_pos (by omega)]
              · rw [if_neg (by omega), if_neg (by omega), if_neg (by omega)]
            case measure => simp [intOf]; omega
        · obtain rfl : k = 8 := by omega
          have hA := hA.alike (n' := N) (r' := fun i => r i ||| N i) (fun _ _ => rfl) (fun i hi => by simp only [if_pos hi])
          have hFin : APt c V F wr g l (nowM l s) (fun i => r i ||| nowM l s i) ∧ Only g w wr := by
            rw [hNe]
            exact ⟨hA, hO⟩
          clear hA hO
          go_wp2
          refine leaves_cons (f := 170) (args := #[]) (by simp) (by simp [go_sem]) ?_
          refine (rec_al _).mono ?_
          rintro e u' w'' ⟨rfl, rfl, rfl⟩
          exact ⟨.tuple #[], results_none (by rfl) _ _ _, rfl, hFin⟩
end Go.Proofs.YtpdenmcacaajkaaGreat
