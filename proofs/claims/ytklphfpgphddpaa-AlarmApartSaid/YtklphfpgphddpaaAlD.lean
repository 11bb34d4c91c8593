/- The contracts of alarm: New, Ack, what was said is read; of none. For rules that may be. -/
import Derived.Test.YtklphfpgphddpaaAlC
namespace Go.Proofs.Ytklphfpgphddpaa
open Go.RowKit

/-- What rings that is not so now. -/
def andn (m n : Nat) : Nat := m &&& (15 ^^^ n)
theorem andn_16 {m n : Nat} (hm : m < 16) (hn : n < 16) : bits BinOp.andNot IntKind.i64 (m : Nat) (n : Nat) = ((andn m n : Nat) : Int) := by
  have : ∀ (a b : Fin 16), bits BinOp.andNot IntKind.i64 (a.val : Nat) (b.val : Nat) = ((andn a.val b.val : Nat) : Int) := by decide +kernel
  exact this ⟨m, hm⟩ ⟨n, hn⟩
def ackM (l : List R4) (n r : Nat → Nat) (i : Int) : Int := if isR l i then (if andn (r i.toNat) (n i.toNat) = 0 then 4 else 0) else 1
def ackR (l : List R4) (n r : Nat → Nat) (i : Int) : Nat → Nat := if isR l i then (if andn (r i.toNat) (n i.toNat) = 0 then r else upd r i.toNat (n i.toNat)) else r
set_option maxRecDepth 100000 in
set_option maxHeartbeats 2000000 in
theorem ack_al (F : List Nat) (g : Nat) (l : List R4) (n r : Nat → Nat) (i : Int) (w : World) (h : AAt F w g l n r) (hg : g ∈ F) :
    Calls Try.prog 18 #[.pointer (some ⟨g, 0, none⟩), .int .i64 i] w fun e w' => e = .returned (.int .i64 (ackM l n r i)) ∧ AAt F w' g l n (ackR l n r i) ∧ Only g w w' := by
  have HN := Lib.hid (has_al F g l n r i w h)
  by_cases hn : isR l i
  case neg =>
    rw [decide_eq_false hn] at HN
    rw [show ackM l n r i = 1 by unfold ackM; rw [if_neg hn], show ackR l n r i = r by unfold ackR; rw [if_neg hn]]
    go_enter Try.func18, Try.ntmps18
    go_wp2_with fail
    refine HN.out.mono ?_
    rintro _ _ ⟨rfl, rfl⟩
    go_wp2
    go_ret
    exact ⟨rfl, h, Only.refl _ _⟩
  rw [decide_eq_true hn] at HN
  have hn' := hn
  unfold isR at hn
  have h8 := h.len
  obtain ⟨i, rfl⟩ : ∃ k : Nat, i = k := ⟨i.toNat, by omega⟩
  have hi : i < 8 := by omega
  have c1 := h.cn hi
  have c2 := h.cr hi
  have f2 := h.frozen (9 + i)
  have ha := andn_16 (h.r16 i hi) (h.n16 i hi)
  have hk : Hid (AAt F w g l n r) := Lib.hid h
  have hx := h.n16 i hi
  clear h
  by_cases h0 : andn (r i) (n i) = 0
  · rw [show ackM l n r i = 4 by unfold ackM; rw [if_pos hn', Int.toNat_natCast, if_pos h0], show ackR l n r i = r by unfold ackR; rw [if_pos hn', Int.toNat_natCast, if_pos h0]]
    rw [h0] at ha
    go_enter Try.func18, Try.ntmps18
    go_wp2_with fail
    refine HN.out.mono ?_
    rintro _ _ ⟨rfl, rfl⟩
    go_wp2_with fail
    go_quiet (fail)
    go_wp2
    go_ret
    exact ⟨rfl, hk.out.below (below_drewN (Below.refl _ _) _), only_of_below g (below_drewN (Below.refl _ _) _)⟩
  · rw [show ackM l n r i = 0 by unfold ackM; rw [if_pos hn', Int.toNat_natCast, if_neg h0], show ackR l n r i = upd r i (n i) by unfold ackR; rw [if_pos hn', Int.toNat_natCast, if_neg h0]]
    have q0 : (((andn (r i) (n i) : Nat) : Int) == 0) = false := by rw [beq_eq_false_iff_ne]; omega
    go_enter Try.func18, Try.ntmps18
    go_wp2_with fail
    refine HN.out.mono ?_
    rintro _ _ ⟨rfl, rfl⟩
    go_wp2_with fail
    go_quiet (fail)
    go_wp2_with fail
    go_region
    all_goals
      go_wp2
      go_ret
      exact ⟨rfl, AAt.setr (hk.out.below (below_drewN (Below.refl _ _) _)) hg hi hx, (only_of_below g (below_drewN (Below.refl _ _) _)).set _ _⟩
set_option maxRecDepth 100000 in
set_option maxHeartbeats 2000000 in
theorem rings_al_nil (i : Int) (w : World) :
    Calls Try.prog 17 #[.pointer none, .int .i64 i] w fun e w' => e = .returned (.int .i64 0) ∧ w' = w := by
  go_enter Try.func17, Try.ntmps17
  go_wp2
  go_ret
  exact ⟨rfl, rfl⟩
set_option maxRecDepth 100000 in
set_option maxHeartbeats 2000000 in
theorem now_al_nil (i : Int) (w : World) :
    Calls Try.prog 19 #[.pointer none, .int .i64 i] w fun e w' => e = .returned (.int .i64 0) ∧ w' = w := by
  go_enter Try.func19, Try.ntmps19
  go_wp2
  go_ret
  exact ⟨rfl, rfl⟩
set_option maxRecDepth 100000 in
set_option maxHeartbeats 2000000 in
theorem ack_al_nil (i : Int) (w : World) :
    Calls Try.prog 18 #[.pointer none, .int .i64 i] w fun e w' => e = .returned (.int .i64 1) ∧ w' = w := by
  go_enter Try.func18, Try.ntmps18
  go_wp2
  go_ret
  exact ⟨rfl, rfl⟩
set_option maxRecDepth 100000 in
set_option maxHeartbeats 2000000 in
theorem new_al (l : List R4) (v : Value) (B : Nat) (w : World) (hv : SeesRs w B v l) (hB : B ≤ w.heap.size) (h8 : l.length ≤ 8) (hm : ∀ i, i < l.length → (l.getD i default).may) :
    Calls Try.prog 14 #[v] w fun e w' => ∃ g, e = .returned (.tuple #[.pointer (some ⟨g, 0, none⟩), .int .i64 0]) ∧ w.heap.size ≤ g ∧ (∀ F, (∀ f, f ∈ F → f < w.heap.size ∨ f = g) → AAt F w' g l (fun _ => 0) (fun _ => 0)) ∧ Below w.heap.size w w' := by
  obtain ⟨A, c, rfl, v1, v2, v3, v4⟩ := hv.at_
  unfold maxLen at v2
  have d0 : decide ((8 : Int) < ((l.length : Nat) : Int)) = false := decide_eq_false (by omega)
  have hS := Lib.hid hv
  have HC := fun W (hb : Below w.heap.size w W) => Lib.hid (clone_rl l _ W B (hS.out.below (hb.mono hB)) (by omega))
  have HX : Hid (0 < l.length → ∃ b off, A = some ⟨b, off, none⟩ ∧ ∀ W, Below w.heap.size w W → ∀ k, k < l.length → AtRl W b (off + k * 4) (l.getD k default)) := Lib.hid fun h0 => by
    obtain ⟨b, off, hA, hb, hc⟩ := v3 h0
    exact ⟨b, off, hA, fun W hW k hk => (hc k hk).keep fun o => hW.cell (p := ⟨b, o, none⟩) (by show b < _; omega)⟩
  clear v3 v4 hv
  go_enter Try.func14, Try.ntmps14
  go_wp2_with fail
  go_loopw [11] (fun i wr => ∃ k : Nat, k ≤ l.length ∧ i = .int .i64 k ∧ Below w.heap.size w wr) (fun i _ => l.length - (intOf i).toNat)
  case atStart => exact ⟨0, by omega, rfl, Below.refl _ _⟩
  case round =>
    obtain ⟨k, hk, rfl, b⟩ := hrel
    by_cases hlt : k < l.length
    · have r1 : decide ((k : Int) < ((l.length : Nat) : Int)) = true := decide_eq_true (by omega)
      obtain ⟨bl, off, rfl, HG⟩ := HX.out (by omega)
      obtain ⟨x0, x1, x2, x3⟩ := HG _ b k hlt
      have hmk := hm k hlt
      clear HG HX HC
      generalize l.getD k default = q at *
      have HM := fun W => Lib.hid (mayBe_al q W)
      rw [decide_eq_true hmk] at HM
      obtain ⟨qn, ql, qh, qs⟩ := q
      unfold R4.v at HM
      clear hmk hm
      go_wp2_with fail
      refine (HM _).out.mono ?_
      rintro _ w2 ⟨rfl, b2⟩
      have b2 := (b.alloc b.size _).trans (b2.mono (by have := b.size; simp; omega))
      go_wp2
      go_roundw
      case rel => exact ⟨k + 1, by omega, by go_num, b2⟩
      case measure => simp [intOf]; omega
    · obtain rfl : k = l.length := by omega
      go_wp2_with fail
      refine (HC _ b).out.mono ?_
      rintro _ w2 ⟨v2, rfl, ho, b2⟩
      have b3 := b.trans (b2.mono b.size)
      have hlt := World.ownsRow.lt ho
      have hs := ho.sees
      obtain ⟨A2, c2, rfl, -⟩ := hs.at_
      have hb := Lib.hid (b3.alloc b3.size (.cells (alc (.slice A2 l.length c2) (fun _ => 0) (fun _ => 0)) 53))
      clear ho
      go_wp2
      go_ret2
      refine ⟨_, rfl, b3.size, fun F hF => ⟨⟨.slice A2 l.length c2, Blk.new _ _ rfl _ _, (hs.alloc _).more (by simp), fun f hf _ e => ?_⟩, h8, fun _ _ => by omega, fun _ _ => by omega⟩, hb.out⟩
      have h1 := hlt f e
      have h2 := b.size
      rcases hF f hf with h | h <;> omega
set_option maxRecDepth 100000 in
set_option maxHeartbeats 2000000 in
theorem new_no (l : List R4) (v : Value) (B : Nat) (w : World) (hv : SeesRs w B v l) (hB : B ≤ w.heap.size) (h8 : l.length ≤ 8) (hm : ¬ ∀ i, i < l.length → (l.getD i default).may) :
    Calls Try.prog 14 #[v] w fun e w' => e = .returned (.tuple #[.pointer none, .int .i64 1]) ∧ Below w.heap.size w w' := by
  obtain ⟨A, c, rfl, v1, v2, v3, v4⟩ := hv.at_
  unfold maxLen at v2
  have d0 : decide ((8 : Int) < ((l.length : Nat) : Int)) = false := decide_eq_false (by omega)
  have HX : Hid (0 < l.length → ∃ b off, A = some ⟨b, off, none⟩ ∧ ∀ W, Below w.heap.size w W → ∀ k, k < l.length → AtRl W b (off + k * 4) (l.getD k default)) := Lib.hid fun h0 => by
    obtain ⟨b, off, hA, hb, hc⟩ := v3 h0
    exact ⟨b, off, hA, fun W hW k hk => (hc k hk).keep fun o => hW.cell (p := ⟨b, o, none⟩) (by show b < _; omega)⟩
  have HM := Lib.hid hm
  clear v3 v4 hv hm
  go_enter Try.func14, Try.ntmps14
  go_wp2_with fail
  go_loopw [11] (fun i wr => ∃ k : Nat, k ≤ l.length ∧ i = .int .i64 k ∧ (∀ j, j < k → (l.getD j default).may) ∧ Below w.heap.size w wr) (fun i _ => l.length - (intOf i).toNat)
  case atStart => exact ⟨0, by omega, rfl, fun j hj => by omega, Below.refl _ _⟩
  case round =>
    obtain ⟨k, hk, rfl, hM, b⟩ := hrel
    by_cases hlt : k < l.length
    · have r1 : decide ((k : Int) < ((l.length : Nat) : Int)) = true := decide_eq_true (by omega)
      obtain ⟨bl, off, rfl, HG⟩ := HX.out (by omega)
      obtain ⟨x0, x1, x2, x3⟩ := HG _ b k hlt
      have hK : Hid ((l.getD k default).may → ∀ j, j < k + 1 → (l.getD j default).may) := Lib.hid fun h j hj => by
        by_cases e : j = k
        · subst e; exact h
        · exact hM j (by omega)
      clear HG HX hM HM
      generalize l.getD k default = q at *
      have HM := fun W => Lib.hid (mayBe_al q W)
      obtain ⟨qn, ql, qh, qs⟩ := q
      unfold R4.v at HM
      by_cases hmk : (⟨qn, ql, qh, qs⟩ : R4).may
      · rw [decide_eq_true hmk] at HM
        have hK := Lib.hid (hK.out hmk)
        clear hmk
        go_wp2_with fail
        refine (HM _).out.mono ?_
        rintro _ w2 ⟨rfl, b2⟩
        have b2 := (b.alloc b.size _).trans (b2.mono (by have := b.size; simp; omega))
        go_wp2
        go_roundw
        case rel => exact ⟨k + 1, by omega, by go_num, hK.out, b2⟩
        case measure => simp [intOf]; omega
      · rw [decide_eq_false hmk] at HM
        clear hmk hK
        go_wp2_with fail
        refine (HM _).out.mono ?_
        rintro _ w2 ⟨rfl, b2⟩
        have b2 := (b.alloc b.size _).trans (b2.mono (by have := b.size; simp; omega))
        go_wp2
        go_ret2
        exact ⟨rfl, b2⟩
    · obtain rfl : k = l.length := by omega
      exact absurd hM HM.out
set_option maxRecDepth 100000 in
set_option maxHeartbeats 2000000 in
/-- What a node has said is read. -/
theorem read_sd (F : List Nat) (t : TypeId) (g : Nat) (s : MS) (n : Int) (w : World) (h : PAt t F w g s) :
    Calls Try.prog 16 #[.pointer (some ⟨g, 0, none⟩), .int .i64 n] w fun e w' => ∃ v, e = .returned (.agg #[v, .int .i64 (s.ga n), .bool (s.gg n)]) ∧ SeesL w' w'.heap.size v (s.gd n) ∧ bytesL (s.gd n) ∧ Below w.heap.size w w' := by
  by_cases hn : isN n
  · rw [show s.ga n = s.a n.toNat by unfold MS.ga; rw [if_pos hn], show s.gg n = s.g n.toNat by unfold MS.gg; rw [if_pos hn], show s.gd n = s.d n.toNat by unfold MS.gd; rw [if_pos hn]]
    unfold isN at hn
    obtain ⟨i, rfl⟩ : ∃ i : Nat, n = i := ⟨n.toNat, by omega⟩
    have hi : i < 8 := by omega
    rw [Int.toNat_natCast]
    have hgl := h.lt
    obtain ⟨A, c, c0, hD, hl⟩ := h.cs hi
    have c1 := h.ca hi
    have c2 := h.cg hi
    clear h hn
    generalize s.d i = L at *
    generalize s.a i = a at *
    generalize s.g i = q at *
    have e1 : decide (((i : Nat) : Int) < 0) = false := decide_eq_false (by omega)
    have e2 : decide ((7 : Int) < ((i : Nat) : Int)) = false := decide_eq_false (by omega)
    have hb := Lib.hid ((Below.refl w.heap.size w).alloc (Nat.le_refl _) (.cells #[.slice A L.length c, .int .i64 a, .bool q] 26))
    have hS : Hid (SeesL _ _ (.slice A L.length c) L) := Lib.hid ((hD.keep (kp_below hb.out)).1)
    clear hD
    go_enter Try.func16, Try.ntmps16
    go_wp2
    refine bodyPost_ret (v := .agg #[.slice A L.length c, .int .i64 a, .bool q]) ?_ rfl ?_
    · rw [results_cell rfl]
      go_simp
    · exact ⟨_, rfl, hS.out, hl, hb.out⟩
  · rw [show s.ga n = -1 by unfold MS.ga; rw [if_neg hn], show s.gg n = false by unfold MS.gg; rw [if_neg hn], show s.gd n = [] by unfold MS.gd; rw [if_neg hn]]
    clear h
    unfold isN at hn
    have hb := Lib.hid ((Below.refl w.heap.size w).alloc (Nat.le_refl _) (.cells #[.slice none 0 0, .int .i64 (-1), .bool false] 26))
    go_enter Try.func16, Try.ntmps16
    go_wp2
    all_goals
      first
        | (exfalso; omega)
        | (refine bodyPost_ret (v := .agg #[.slice none 0 0, .int .i64 (-1), .bool false]) ?_ rfl ?_
           · rw [results_cell rfl]
             go_simp
           · exact ⟨_, rfl, SeesL.nil, (fun x hx => by simp at hx), hb.out⟩)
set_option maxRecDepth 100000 in
set_option maxHeartbeats 2000000 in
/-- What Look defers, of a frame that returns: nothing. -/
theorem rec_al (w : World) :
    CallsD Try.prog 22 #[] .returning w fun e u' w' => e = .returned (.tuple #[]) ∧ u' = .returning ∧ w' = w := by
  refine callsD_of_wpS Try.func22 rfl fun c₀ cs hu => ?_
  apply wpS_region
  simp [wpOpsS, go_sem, recoverD, hu, Try.ntmps22]
  cases c₀
  simp_all [bodyPostS, results, Try.results22]
end Go.Proofs.Ytklphfpgphddpaa
