/- Texts StC in one. For what each says in front of its theorems. -/
import Derived.BigRegion
import Derived.Deep.RegionWith
import Derived.Deep.RegionLaw
import Derived.Lib.LazyBuf
import Derived.Test.YtpdenmcacaajkaaGreatPB12
/-! ### StC -/
namespace Go.Proofs.YtpdenmcacaajkaaGreat
open Go.RowKit

/-- The code's store in memory. -/
def CAt (F : List Nat) (W : World) (g : Nat) (s : MS) : Prop := SAt 75 F W g s

/-- bytes.Clone. -/
theorem clone_b (v : Value) (l : List Int) (w : World) (B : Nat) (hv : SeesL w B v l) (hlen : l.length ≤ 140737488355328) :
    Calls Tryz.prog 64 #[v] w fun e w' => ∃ v', e = .returned v' ∧ OwnsL w' w.heap.size v' l ∧ Below w.heap.size w w' := by
  obtain ⟨A, c, rfl, h1, h2, h3, h4⟩ := hv.at_
  cases A with
  | none =>
    obtain ⟨hl, rfl⟩ := h4 rfl
    have hl' := List.length_eq_zero_iff.1 hl
    subst hl'
    clear h1 h2 h3 h4 hl hv hlen
    have hq := Lib.run_eql_slice_nil (P := Tryz.prog) w 37 5 none 0 0 0 0 Tryz.underlying37
    go_enter Tryz.func64, Tryz.ntmps64
    go_wp2
    go_ret
    exact ⟨_, rfl, OwnsL.nil, Below.refl _ _⟩
  | some a =>
    have hv := Lib.hid hv
    have hq := Lib.run_eql_slice_nil (P := Tryz.prog) w 37 5 (some a) l.length c 0 0 Tryz.underlying37
    clear h3 h4
    go_enter Tryz.func64, Tryz.ntmps64
    go_wp2_with (at_builtin; refine wpList_appendL _ rfl (.tmp 5) (.tmp 6) 37 rfl w.heap.size infoU8 Tryz.underlying37 _ [] w (owns_empty w _ rfl _ _ (Nat.le_refl _) rfl) ((Below.refl _ _).alloc (Nat.le_refl _) _) rfl _ _ l rfl (SeesL.alloc hv.out _) (by simp) (by simp only [List.length_nil]; omega) ?_)
    intro v' w1 ho hb
    go_wp2
    go_ret
    exact ⟨_, rfl, ho, hb⟩
/-- What was never said. -/
theorem never_st (w : World) :
    Calls Tryz.prog 103 #[] w fun e w' => e = .returned (.agg #[.slice none 0 0, .int .i64 (-1), .bool false]) ∧ Below w.heap.size w w' := by
  go_enter Tryz.func103, Tryz.ntmps103
  go_wp2
  refine bodyPost_ret (v := .agg #[.slice none 0 0, .int .i64 (-1), .bool false]) ?_ rfl ⟨rfl, ?_⟩
  · rw [results_cell rfl]
    go_simp
  · (repeat' (first | exact Below.refl _ _ | exact Nat.le_refl _ | (with_reducible refine Below.setCell ?_ ?_ _) | (with_reducible refine Below.alloc ?_ (Nat.le_refl _) _) | (with_reducible refine below_drewN ?_ _) | (with_reducible refine Below.drew ?_)))

set_option maxRecDepth 100000 in
set_option maxHeartbeats 2000000 in
theorem minds_st (g : Nat) (n : Int) (w : World) :
    Calls Tryz.prog 137 #[.pointer (some ⟨g, 0, none⟩), .int .i64 n] w fun e w' => e = .returned (.bool (decide (isN n))) ∧ w' = w := by
  by_cases h1 : n < 0
  · rw [decide_eq_false (by unfold isN; omega : ¬ isN n)]
    go_enter Tryz.func137, Tryz.ntmps137
    go_wp2
    go_ret
    exact ⟨rfl, rfl⟩
  · by_cases h2 : n < 8
    · rw [decide_eq_true (by unfold isN; omega : isN n)]
      have h1 : 0 ≤ n := by omega
      go_enter Tryz.func137, Tryz.ntmps137
      go_wp2
      go_ret
      exact ⟨by simp_all, rfl⟩
    · rw [decide_eq_false (by unfold isN; omega : ¬ isN n)]
      have h1 : 0 ≤ n := by omega
      go_enter Tryz.func137, Tryz.ntmps137
      go_wp2
      go_ret
      exact ⟨by simp_all, rfl⟩
set_option maxRecDepth 100000 in
set_option maxHeartbeats 1000000 in
theorem member_st (F : List Nat) (g : Nat) (s : MS) (n : Int) (b : Bool) (w : World) (h : CAt F w g s) (hg : g ∈ F) :
    Calls Tryz.prog 129 #[.pointer (some ⟨g, 0, none⟩), .int .i64 n, .bool b] w fun e w' => e = .returned (.tuple #[]) ∧ CAt F w' g (s.member n b) ∧ Only g w w' := by
  have HN := fun W => Lib.hid (minds_st g n W)
  by_cases hn : isN n
  · rw [decide_eq_true hn] at HN
    rw [show s.member n b = { s with g := upd s.g n.toNat b } by unfold MS.member; rw [if_pos hn]]
    unfold isN at hn
    obtain ⟨i, rfl⟩ : ∃ i : Nat, n = i := ⟨n.toNat, by omega⟩
    have hi : i < 8 := by omega
    rw [Int.toNat_natCast]
    have c := SAt.cg h hi
    have f := SAt.frozen h (i * 3 + 2)
    have H := Lib.hid (SAt.setg h hg hi b)
    clear h
    go_enter Tryz.func129, Tryz.ntmps129
    go_wp2_with fail
    refine (HN _).out.mono ?_
    rintro _ _ ⟨rfl, rfl⟩
    go_wp2
    exact bodyPost_end (results_none (by rfl) _ _ _) rfl ⟨rfl, H.out, (Only.refl g _).set _ _⟩
  · rw [decide_eq_false hn] at HN
    rw [show s.member n b = s by unfold MS.member; rw [if_neg hn]]
    go_enter Tryz.func129, Tryz.ntmps129
    go_wp2_with fail
    refine (HN _).out.mono ?_
    rintro _ _ ⟨rfl, rfl⟩
    go_wp2
    exact bodyPost_end (results_none (by rfl) _ _ _) rfl ⟨rfl, h, Only.refl _ _⟩

set_option maxRecDepth 100000 in
set_option maxHeartbeats 2000000 in
theorem clear_st (F : List Nat) (g : Nat) (s : MS) (w : World) (h : CAt F w g s) (hg : g ∈ F) :
    Calls Tryz.prog 59 #[.pointer (some ⟨g, 0, none⟩)] w fun e w' => e = .returned (.tuple #[]) ∧ CAt F w' g MS.new ∧ Only g w w' := by
  go_enter Tryz.func59, Tryz.ntmps59
  go_wp2_with fail
  go_loopw [5] (fun i wr => ∃ k : Nat, k ≤ 8 ∧ i = .int .i64 k ∧ CAt F wr g (s.clr k) ∧ Only g w wr) (fun i _ => 8 - (intOf i).toNat)
  case atStart => exact ⟨0, by omega, rfl, SAt.alike h (fun _ _ => rfl) (fun _ _ => rfl) (fun _ _ => rfl), Only.refl _ _⟩
  case round =>
    clear h
    obtain ⟨k, hk, rfl, h, o⟩ := hrel
    by_cases hlt : k < 8
    · have r1 : decide ((k : Int) < 8) = true := decide_eq_true (by omega)
      have H := fun W (hW : CAt F W g (s.clr k)) => Lib.hid (SAt.alike (SAt.setg (SAt.seta (SAt.setd hW hg hlt Dat.nil (by simp) (fun x hx => by simp at hx)) hg hlt (-1) (by omega) (by omega)) hg hlt false) (s' := s.clr (k + 1)) (fun i _ => (clr_step s k).1 i) (fun i _ => (clr_step s k).2.1 i) (fun i _ => (clr_step s k).2.2 i))
      have HV := fun W => Lib.hid (never_st W)
      have h0 := Lib.hid h
      have o0 := Lib.hid o
      clear h o
      go_wp2_with fail
      go_region_with (first
        | (go_at_call 103; refine (HV _).out.mono ?_; rintro _ w2 ⟨rfl, hb2⟩; have h2 : CAt F w2 g (s.clr k) := SAt.below h0.out.drew hb2; have o2 := Lib.hid (o0.out.drew.trans (only_of_below g hb2)); obtain ⟨v, c0, -⟩ := SAt.cd h2 hlt; have c1 := SAt.ca h2 hlt; have c2 := SAt.cg h2 hlt; have f0 := SAt.frozen h2 (k * 3); have f1 := SAt.frozen h2 (k * 3 + 1); have f2 := SAt.frozen h2 (k * 3 + 2); have H2 := H w2 h2; clear h2 hb2))
      all_goals
        go_wp2
        go_roundw
        case rel => exact ⟨k + 1, by omega, by go_num, H2.out, ((o2.out.set _ _).set _ _).set _ _⟩
        case measure => simp [intOf]; omega
    · obtain rfl : k = 8 := by omega
      go_wp2
      exact bodyPost_end (results_none (by rfl) _ _ _) rfl ⟨rfl, SAt.alike h (fun i hi => by simp [MS.clr, MS.new, hi]) (fun i hi => by simp [MS.clr, MS.new, hi]) (fun i hi => by simp [MS.clr, MS.new, hi]), o⟩
set_option maxRecDepth 100000 in
set_option maxHeartbeats 2000000 in
theorem age_st (F : List Nat) (g : Nat) (s : MS) (w : World) (h : CAt F w g s) (hg : g ∈ F) :
    Calls Tryz.prog 150 #[.pointer (some ⟨g, 0, none⟩)] w fun e w' => e = .returned (.tuple #[]) ∧ CAt F w' g s.age ∧ Only g w w' := by
  have hok := h.2
  go_enter Tryz.func150, Tryz.ntmps150
  go_wp2_with fail
  go_loopw [6] (fun i wr => ∃ k : Nat, k ≤ 8 ∧ i = .int .i64 k ∧ CAt F wr g (s.agd k) ∧ Only g w wr) (fun i _ => 8 - (intOf i).toNat)
  case atStart => exact ⟨0, by omega, rfl, SAt.alike h (fun _ _ => rfl) (fun _ _ => rfl) (fun _ _ => rfl), Only.refl _ _⟩
  case round =>
    clear h
    obtain ⟨k, hk, rfl, h, o⟩ := hrel
    by_cases hlt : k < 8
    · have r1 : decide ((k : Int) < 8) = true := decide_eq_true (by omega)
      have c1 := SAt.ca h hlt
      have f1 := SAt.frozen h (k * 3 + 1)
      have e1 : (s.agd k).a k = s.a k := by simp [MS.agd]
      rw [e1] at c1
      have l1 := hok.lo k hlt
      have l2 := hok.hi k hlt
      obtain ⟨p1, p2⟩ := older_ok l1 l2
      have H := Lib.hid (SAt.alike (SAt.seta h hg hlt (older (s.a k)) p1 p2) (s' := s.agd (k + 1)) (fun i _ => rfl) (fun i _ => agd_step s k i) (fun i _ => rfl))
      by_cases hpos : 0 ≤ s.a k ∧ s.a k < 65535
      · have q2 : decide ((0 : Int) ≤ s.a k) = true := decide_eq_true hpos.1
        have q3 : decide (s.a k < 65535) = true := decide_eq_true hpos.2
        have e2 : older (s.a k) = s.a k + 1 := by unfold older; rw [if_pos hpos.1]; omega
        rw [e2] at H
        clear h e1 e2 p1 p2
        generalize s.a k = x at *
        go_wp2_with fail
        go_region
        all_goals
          go_wp2
          go_roundw
          case rel => exact ⟨k + 1, by omega, by go_num, H.out.drew, (o.set _ _).drew⟩
          case measure => simp [intOf]; omega
      · have e2 : s.agd (k + 1) = s.agd k := by
          unfold MS.agd
          congr 1
          funext i
          rcases lt_or_eq_or i k with h | h | h
          · rw [if_pos (by omega), if_pos (by omega)]
          · subst h; rw [if_pos (by omega), if_neg (by omega)]; unfold older; split <;> omega
          · rw [if_neg (by omega), if_neg (by omega)]
        clear H e1 p1 p2
        by_cases h0 : 0 ≤ s.a k
        · have q2 : decide ((0 : Int) ≤ s.a k) = true := decide_eq_true h0
          have q3 : decide (s.a k < 65535) = false := decide_eq_false (by omega)
          go_wp2
          go_roundw
          case rel => exact ⟨k + 1, by omega, by go_num, e2 ▸ h, o⟩
          case measure => simp [intOf]; omega
        · have q2 : decide ((0 : Int) ≤ s.a k) = false := decide_eq_false h0
          go_wp2
          go_roundw
          case rel => exact ⟨k + 1, by omega, by go_num, e2 ▸ h, o⟩
          case measure => simp [intOf]; omega
    · obtain rfl : k = 8 := by omega
      go_wp2
      exact bodyPost_end (results_none (by rfl) _ _ _) rfl ⟨rfl, SAt.alike h (fun i hi => rfl) (fun i hi => by simp [MS.agd, MS.age, hi]) (fun i hi => rfl), o⟩
set_option maxRecDepth 100000 in
set_option maxHeartbeats 2000000 in
theorem new_st (w : World) :
    Calls Tryz.prog 94 #[] w fun e w' => ∃ g, e = .returned (.pointer (some ⟨g, 0, none⟩)) ∧ w.heap.size ≤ g ∧ (∀ F, CAt F w' g MS.new) ∧ Below w.heap.size w w' := by
  have H0 : Hid (CAt [w.heap.size] (w.alloc (.cells (stc (fun _ => .slice none 0 0) (fun _ => 0) (fun _ => false)) 75)) w.heap.size ⟨fun _ => [], fun _ => 0, fun _ => false⟩) := Lib.hid ⟨⟨_, Blk.new _ _ rfl _ _, fun _ _ => Dat.nil⟩, ⟨fun _ _ => by simp, fun _ _ x hx => by simp at hx, fun _ _ => by simp, fun _ _ => by simp⟩⟩
  have HC := fun W (h : CAt [w.heap.size] W w.heap.size ⟨fun _ => [], fun _ => 0, fun _ => false⟩) => Lib.hid (clear_st [w.heap.size] w.heap.size _ W h (by simp))
  have hb := (Below.refl w.heap.size w).alloc (Nat.le_refl _) (.cells (stc (fun _ => .slice none 0 0) (fun _ => 0) (fun _ => false)) 75)
  have hz : (w.alloc (.cells (stc (fun _ => .slice none 0 0) (fun _ => 0) (fun _ => false)) 75)).heap.size = w.heap.size + 1 := by simp
  unfold stc at H0 hb hz
  go_enter Tryz.func94, Tryz.ntmps94
  go_wp2_with fail
  refine (HC _ H0.out).out.mono ?_
  rintro _ w2 ⟨rfl, h2, o2⟩
  have hb2 := hb.trans (o2.below (Nat.le_refl _) (by rw [hz]; omega))
  go_wp2
  go_ret
  exact ⟨_, rfl, Nat.le_refl _, fun F => SAt.refit h2 (fun i _ => rfl), hb2⟩
set_option maxRecDepth 100000 in
set_option maxHeartbeats 2000000 in
theorem get_st (F : List Nat) (g : Nat) (s : MS) (n : Int) (w : World) (h : CAt F w g s) :
    Calls Tryz.prog 95 #[.pointer (some ⟨g, 0, none⟩), .int .i64 n] w fun e w' => ∃ v, e = .returned (.agg #[v, .int .i64 (s.ga n), .bool (s.gg n)]) ∧ SeesL w' w'.heap.size v (s.gd n) ∧ (s.gd n ≠ [] → OwnsL w' w.heap.size v (s.gd n)) ∧ Below w.heap.size w w' := by
  have HN := fun W => Lib.hid (minds_st g n W)
  by_cases hn : isN n
  · rw [decide_eq_true hn] at HN
    rw [show s.ga n = s.a n.toNat by unfold MS.ga; rw [if_pos hn], show s.gg n = s.g n.toNat by unfold MS.gg; rw [if_pos hn], show s.gd n = s.d n.toNat by unfold MS.gd; rw [if_pos hn]]
    unfold isN at hn
    obtain ⟨i, rfl⟩ : ∃ i : Nat, n = i := ⟨n.toNat, by omega⟩
    have hi : i < 8 := by omega
    rw [Int.toNat_natCast]
    have hgl := SAt.lt h
    obtain ⟨A, c, c0, hD⟩ := SAt.cs h hi
    have c1 := SAt.ca h hi
    have c2 := SAt.cg h hi
    have h8 := h.2.len i hi
    clear h
    generalize s.d i = L at *
    generalize s.a i = a at *
    generalize s.g i = q at *
    have hS := (hD.1.alloc (.cells #[.slice none 0 0, .int .i64 0, .bool false] 72)).alloc (.cells #[.slice A L.length c, .int .i64 a, .bool q] 72)
    have hb0 := ((Below.refl w.heap.size w).alloc (Nat.le_refl _) (.cells #[.slice none 0 0, .int .i64 0, .bool false] 72)).alloc (by simp) (.cells #[.slice A L.length c, .int .i64 a, .bool q] 72)
    have hB4 := (Blk.new w w.heap.size rfl #[.slice none 0 0, .int .i64 0, .bool false] 72).alloc (.cells #[.slice A L.length c, .int .i64 a, .bool q] 72)
    have hB5 := Blk.new (w.alloc (.cells #[.slice none 0 0, .int .i64 0, .bool false] 72)) (w.heap.size + 1) (by simp) #[.slice A L.length c, .int .i64 a, .bool q] 72
    clear hD
    go_enter Tryz.func95, Tryz.ntmps95
    go_wp2_with fail
    refine (HN _).out.mono ?_
    rintro _ w1 ⟨rfl, rfl⟩
    have HCl := fun W (hW : SeesL W w.heap.size (.slice A L.length c) L) => Lib.hid (clone_b (.slice A L.length c) L W w.heap.size hW (by omega))
    go_wp2_with fail
    refine (HCl _ hS).out.mono ?_
    rintro _ w2 ⟨v2, rfl, ho2, hb2⟩
    have ho2 : OwnsL w2 (w.heap.size + 2) v2 L := ho2.base (Nat.le_of_eq (by simp))
    have hb2 : Below (w.heap.size + 2) _ w2 := hb2.mono (by simp)
    have hB4 := hB4.below hb2 (by simp)
    have hB5 := hB5.below hb2 (by simp)
    have hb3 := hb0.trans (hb2.mono (by simp))
    obtain ⟨A2, d2, rfl, -⟩ := ho2.sees.at_
    have x0 := hB4.cell 0 (x := .slice none 0 0) rfl
    have x1 := hB4.cell 1 (x := .int .i64 0) rfl
    have x2 := hB4.cell 2 (x := .bool false) rfl
    have y0 := hB5.cell 0 (x := .slice A L.length c) rfl
    have y1 := hB5.cell 1 (x := .int .i64 a) rfl
    have y2 := hB5.cell 2 (x := .bool q) rfl
    have f0 := hB4.frozen 0
    have f1 := hB4.frozen 1
    have f2 := hB4.frozen 2
    have f5 := hB5.frozen 0
    have hO := ((((ho2.setFar ⟨w.heap.size + 1, 0, none⟩ (.slice A2 L.length d2) (by simp)).setFar ⟨w.heap.size, 0, none⟩ (.slice A2 L.length d2) (by simp)).setFar ⟨w.heap.size, 1, none⟩ (.int .i64 a) (by simp)).setFar ⟨w.heap.size, 2, none⟩ (.bool q) (by simp))
    have HB := Lib.hid ((((hb3.setCell (p := ⟨w.heap.size + 1, 0, none⟩) (by simp) (.slice A2 L.length d2)).setCell (p := ⟨w.heap.size, 0, none⟩) (by simp) (.slice A2 L.length d2)).setCell (p := ⟨w.heap.size, 1, none⟩) (by simp) (.int .i64 a)).setCell (p := ⟨w.heap.size, 2, none⟩) (by simp) (.bool q))
    clear hB4 hB5 hb2 ho2 c0 c1 c2
    go_wp2
    refine bodyPost_ret (v := .agg #[.slice A2 L.length d2, .int .i64 a, .bool q]) ?_ rfl ?_
    · rw [results_cell rfl]
      go_simp
    · exact ⟨_, rfl, hO.sees, fun _ => hO.base (by omega), HB.out⟩
  · rw [decide_eq_false hn] at HN
    rw [show s.ga n = -1 by unfold MS.ga; rw [if_neg hn], show s.gg n = false by unfold MS.gg; rw [if_neg hn], show s.gd n = [] by unfold MS.gd; rw [if_neg hn]]
    clear h
    go_enter Tryz.func95, Tryz.ntmps95
    go_wp2_with fail
    refine (HN _).out.mono ?_
    rintro _ w1 ⟨rfl, rfl⟩
    have HV := fun W => Lib.hid (never_st W)
    have hB4 := Blk.new w w.heap.size rfl #[.slice none 0 0, .int .i64 0, .bool false] 72
    have hb0 := (Below.refl w.heap.size w).alloc (Nat.le_refl _) (.cells #[.slice none 0 0, .int .i64 0, .bool false] 72)
    go_wp2_with fail
    refine (HV _).out.mono ?_
    rintro _ w2 ⟨rfl, hb2⟩
    have hB4 := hB4.below hb2 (by simp)
    have hb3 := hb0.trans (hb2.mono (by simp))
    have x0 := hB4.cell 0 (x := .slice none 0 0) rfl
    have x1 := hB4.cell 1 (x := .int .i64 0) rfl
    have x2 := hB4.cell 2 (x := .bool false) rfl
    have f0 := hB4.frozen 0
    have f1 := hB4.frozen 1
    have f2 := hB4.frozen 2
    have HB := Lib.hid (((hb3.setCell (p := ⟨w.heap.size, 0, none⟩) (by simp) (.slice none 0 0)).setCell (p := ⟨w.heap.size, 1, none⟩) (by simp) (.int .i64 (-1))).setCell (p := ⟨w.heap.size, 2, none⟩) (by simp) (.bool false))
    clear hB4 hb0 hb2 hb3
    go_wp2
    refine bodyPost_ret (v := .agg #[.slice none 0 0, .int .i64 (-1), .bool false]) ?_ rfl ?_
    · rw [results_cell rfl]
      go_simp
    · exact ⟨_, rfl, SeesL.nil, fun h => absurd rfl h, HB.out⟩
set_option maxRecDepth 100000 in
set_option maxHeartbeats 2000000 in
theorem put_st (F : List Nat) (g : Nat) (s : MS) (n : Int) (v : Value) (l : List Int) (B : Nat) (w : World) (h : CAt F w g s) (hg : g ∈ F) (hF : ∀ f, f ∈ F → f < w.heap.size) (hv : SeesL w B v l) (hl : bytesL l) :
    Calls Tryz.prog 126 #[.pointer (some ⟨g, 0, none⟩), .int .i64 n, v] w fun e w' => e = .returned (.tuple #[]) ∧ CAt F w' g (s.put n l) ∧ Only g w w' := by
  have HN := fun W => Lib.hid (minds_st g n W)
  obtain ⟨A, c, rfl, v1, v2, v3, v4⟩ := hv.at_
  unfold maxLen at v2
  by_cases hn : isN n
  case neg =>
    rw [decide_eq_false hn] at HN
    rw [show s.put n l = s by unfold MS.put; rw [if_neg (fun h => hn h.1)]]
    clear v3 v4
    go_enter Tryz.func126, Tryz.ntmps126
    go_wp2_with fail
    refine (HN _).out.mono ?_
    rintro _ _ ⟨rfl, rfl⟩
    go_wp2
    exact bodyPost_end (results_none (by rfl) _ _ _) rfl ⟨rfl, h, Only.refl _ _⟩
  rw [decide_eq_true hn] at HN
  by_cases h8 : l.length ≤ 8
  case neg =>
    have q8 : decide (((l.length : Nat) : Int) ≤ 8) = false := decide_eq_false (by omega)
    rw [show s.put n l = s by unfold MS.put; rw [if_neg (fun h => h8 h.2)]]
    clear v3 v4
    go_enter Tryz.func126, Tryz.ntmps126
    go_wp2_with fail
    refine (HN _).out.mono ?_
    rintro _ _ ⟨rfl, rfl⟩
    go_wp2
    exact bodyPost_end (results_none (by rfl) _ _ _) rfl ⟨rfl, h, Only.refl _ _⟩
  have q8 : decide (((l.length : Nat) : Int) ≤ 8) = true := decide_eq_true (by omega)
  rw [show s.put n l = ⟨upd s.d n.toNat l, upd s.a n.toNat 0, s.g⟩ by unfold MS.put; rw [if_pos ⟨hn, h8⟩]]
  unfold isN at hn
  obtain ⟨i, rfl⟩ : ∃ i : Nat, n = i := ⟨n.toNat, by omega⟩
  have hi : i < 8 := by omega
  rw [Int.toNat_natCast]
  have hv1 := Lib.hid hv
  have HCl := fun W (hW : SeesL W B (.slice A l.length c) l) => Lib.hid (clone_b (.slice A l.length c) l W B hW (by omega))
  clear v3 v4 hv
  go_enter Tryz.func126, Tryz.ntmps126
  go_wp2_with fail
  refine (HN _).out.mono ?_
  rintro _ w1 ⟨rfl, rfl⟩
  go_wp2_with fail
  go_region_with (first
    | (go_at_call 64; refine (HCl _ hv1.out.drew).out.mono ?_; rintro _ w2 ⟨v2, rfl, ho2, hb2⟩; have hb2 : Below w1.heap.size w1 w2 := ((Below.refl w1.heap.size w1).drew).trans hb2; have hD2 : Dat F w2 v2 l := OwnsL.dat (F := F) ho2 hF; (obtain ⟨A2, d2, rfl, -⟩ := hD2.1.at_); have hE2 := Lib.hid hD2; clear hD2; have h2 := SAt.below h hb2; have cd2 := SAt.cd h2 hi; have ca2 := SAt.ca h2 hi; have f2 := SAt.frozen h2 (i * 3); have f2' := SAt.frozen h2 (i * 3 + 1); (obtain ⟨u2, cu2, -⟩ := cd2); have o2 := Lib.hid (only_of_below g hb2); have h2 := Lib.hid h2; clear hb2 ho2))
  all_goals
    go_wp2
    exact bodyPost_end (results_none (by rfl) _ _ _) rfl ⟨rfl, SAt.seta (SAt.setd h2.out hg hi hE2.out h8 hl) hg hi 0 (by omega) (by omega), (o2.out.set _ _).set _ _⟩
/-! ### Of none. -/
set_option maxRecDepth 100000 in
set_option maxHeartbeats 2000000 in
theorem minds_st_nil (n : Int) (w : World) :
    Calls Tryz.prog 137 #[.pointer none, .int .i64 n] w fun e w' => e = .returned (.bool false) ∧ w' = w := by
  go_enter Tryz.func137, Tryz.ntmps137
  go_wp2
  go_ret
  exact ⟨rfl, rfl⟩
set_option maxRecDepth 100000 in
set_option maxHeartbeats 2000000 in
theorem put_st_nil (n : Int) (A : Option Addr) (m c : Nat) (w : World) :
    Calls Tryz.prog 126 #[.pointer none, .int .i64 n, .slice A m c] w fun e w' => e = .returned (.tuple #[]) ∧ w' = w := by
  have HM := fun W => Lib.hid (minds_st_nil n W)
  go_enter Tryz.func126, Tryz.ntmps126
  go_wp2_with fail
  refine (HM _).out.mono ?_
  rintro _ w0 ⟨rfl, e⟩
  rw [e]
  clear e w0
  go_wp2
  exact bodyPost_end (results_none (by rfl) _ _ _) rfl ⟨rfl, rfl⟩
set_option maxRecDepth 100000 in
set_option maxHeartbeats 2000000 in
theorem member_st_nil (n : Int) (b : Bool) (w : World) :
    Calls Tryz.prog 129 #[.pointer none, .int .i64 n, .bool b] w fun e w' => e = .returned (.tuple #[]) ∧ w' = w := by
  have HM := fun W => Lib.hid (minds_st_nil n W)
  go_enter Tryz.func129, Tryz.ntmps129
  go_wp2_with fail
  refine (HM _).out.mono ?_
  rintro _ w0 ⟨rfl, e⟩
  rw [e]
  clear e w0
  go_wp2
  exact bodyPost_end (results_none (by rfl) _ _ _) rfl ⟨rfl, rfl⟩
set_option maxRecDepth 100000 in
set_option maxHeartbeats 2000000 in
theorem age_st_nil (w : World) :
    Calls Tryz.prog 150 #[.pointer none] w fun e w' => e = .returned (.tuple #[]) ∧ w' = w := by
  go_enter Tryz.func150, Tryz.ntmps150
  go_wp2
  exact bodyPost_ret (results_none (by rfl) _ _ _) rfl ⟨rfl, rfl⟩
set_option maxRecDepth 100000 in
set_option maxHeartbeats 2000000 in
theorem clear_st_nil (w : World) :
    Calls Tryz.prog 59 #[.pointer none] w fun e w' => e = .returned (.tuple #[]) ∧ w' = w := by
  go_enter Tryz.func59, Tryz.ntmps59
  go_wp2
  exact bodyPost_ret (results_none (by rfl) _ _ _) rfl ⟨rfl, rfl⟩
set_option maxRecDepth 100000 in
set_option maxHeartbeats 2000000 in
theorem get_st_nil (n : Int) (w : World) :
    Calls Tryz.prog 95 #[.pointer none, .int .i64 n] w fun e w' => e = .returned (.agg #[.slice none 0 0, .int .i64 (-1), .bool false]) ∧ Below w.heap.size w w' := by
  have HM := fun W => Lib.hid (minds_st_nil n W)
  go_enter Tryz.func95, Tryz.ntmps95
  go_wp2_with fail
  refine (HM _).out.mono ?_
  rintro _ w0 ⟨rfl, e⟩
  rw [e]
  clear e w0
  have HV := fun W => Lib.hid (never_st W)
  have hB4 := Blk.new w w.heap.size rfl #[.slice none 0 0, .int .i64 0, .bool false] 72
  have hb0 := (Below.refl w.heap.size w).alloc (Nat.le_refl _) (.cells #[.slice none 0 0, .int .i64 0, .bool false] 72)
  go_wp2_with fail
  refine (HV _).out.mono ?_
  rintro _ w2 ⟨rfl, hb2⟩
  have hB4 := hB4.below hb2 (by simp)
  have hb3 := hb0.trans (hb2.mono (by simp))
  have x0 := hB4.cell 0 (x := .slice none 0 0) rfl
  have x1 := hB4.cell 1 (x := .int .i64 0) rfl
  have x2 := hB4.cell 2 (x := .bool false) rfl
  have f0 := hB4.frozen 0
  have f1 := hB4.frozen 1
  have f2 := hB4.frozen 2
  have HB := Lib.hid (((hb3.setCell (p := ⟨w.heap.size, 0, none⟩) (by simp) (.slice none 0 0)).setCell (p := ⟨w.heap.size, 1, none⟩) (by simp) (.int .i64 (-1))).setCell (p := ⟨w.heap.size, 2, none⟩) (by simp) (.bool false))
  clear hB4 hb0 hb2 hb3
  go_wp2
  refine bodyPost_ret (v := .agg #[.slice none 0 0, .int .i64 (-1), .bool false]) ?_ rfl ?_
  · rw [results_cell rfl]
    go_simp
  · exact ⟨rfl, HB.out⟩
end Go.Proofs.YtpdenmcacaajkaaGreat
