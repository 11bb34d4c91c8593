/- The contracts of the document's store (matronref8). For stores that may be. -/
import Derived.Test.YtnjllegnkbhciaaStM
import Derived.BigRegion
import Derived.Deep.RegionWith
namespace Go.Proofs.Ytnjllegnkbhciaa
open Go.RowKit

/-- The document's store in memory. -/
def RAt (F : List Nat) (W : World) (g : Nat) (s : MS) : Prop := SAt 49 F W g s

set_option maxRecDepth 100000 in
set_option maxHeartbeats 1000000 in
theorem node_rf (n : Int) (w : World) :
    Calls Try.prog 28 #[.int .i64 n] w fun e w' => e = .returned (.bool (decide (isN n))) ∧ w' = w := by
  by_cases h1 : n < 0
  · rw [decide_eq_false (by unfold isN; omega : ¬ isN n)]
    go_enter Try.func28, Try.ntmps28
    go_wp2
    go_ret
    exact ⟨rfl, rfl⟩
  · by_cases h2 : n < 8
    · rw [decide_eq_true (by unfold isN; omega : isN n)]
      have h1 : 0 ≤ n := by omega
      go_enter Try.func28, Try.ntmps28
      go_wp2
      go_ret
      exact ⟨by simp_all, rfl⟩
    · rw [decide_eq_false (by unfold isN; omega : ¬ isN n)]
      have h1 : 0 ≤ n := by omega
      go_enter Try.func28, Try.ntmps28
      go_wp2
      go_ret
      exact ⟨by simp_all, rfl⟩

set_option maxRecDepth 100000 in
set_option maxHeartbeats 1000000 in
theorem member_rf (F : List Nat) (g : Nat) (s : MS) (n : Int) (b : Bool) (w : World) (h : RAt F w g s) (hg : g ∈ F) :
    Calls Try.prog 17 #[.pointer (some ⟨g, 0, none⟩), .int .i64 n, .bool b] w fun e w' => e = .returned (.tuple #[]) ∧ RAt F w' g (s.member n b) ∧ Only g w w' := by
  have HN := fun W => Lib.hid (node_rf n W)
  by_cases hn : isN n
  · rw [decide_eq_true hn] at HN
    rw [show s.member n b = { s with g := upd s.g n.toNat b } by unfold MS.member; rw [if_pos hn]]
    unfold isN at hn
    obtain ⟨i, rfl⟩ : ∃ i : Nat, n = i := ⟨n.toNat, by omega⟩
    have hi : i < 8 := by omega
    rw [Int.toNat_natCast]
    have c := SAt.cg h hi
    have f := SAt.frozen h (i * 3 + 2)
    have H := Lib.hid (SAt.setg h hg hi b)
    clear h
    go_enter Try.func17, Try.ntmps17
    go_wp2_with fail
    refine (HN _).out.mono ?_
    rintro _ _ ⟨rfl, rfl⟩
    go_wp2
    exact bodyPost_end (results_none (by rfl) _ _ _) rfl ⟨rfl, H.out, (Only.refl g _).set _ _⟩
  · rw [decide_eq_false hn] at HN
    rw [show s.member n b = s by unfold MS.member; rw [if_neg hn]]
    go_enter Try.func17, Try.ntmps17
    go_wp2_with fail
    refine (HN _).out.mono ?_
    rintro _ _ ⟨rfl, rfl⟩
    go_wp2
    exact bodyPost_end (results_none (by rfl) _ _ _) rfl ⟨rfl, h, Only.refl _ _⟩

set_option maxRecDepth 100000 in
set_option maxHeartbeats 2000000 in
theorem clear_rf (F : List Nat) (g : Nat) (s : MS) (w : World) (h : RAt F w g s) (hg : g ∈ F) :
    Calls Try.prog 21 #[.pointer (some ⟨g, 0, none⟩)] w fun e w' => e = .returned (.tuple #[]) ∧ RAt F w' g MS.new ∧ Only g w w' := by
  go_enter Try.func21, Try.ntmps21
  go_wp2_with fail
  go_loopw [2] (fun i wr => ∃ k : Nat, k ≤ 8 ∧ i = .int .i64 k ∧ RAt F wr g (s.clr k) ∧ Only g w wr) (fun i _ => 8 - (intOf i).toNat)
  case atStart => exact ⟨0, by omega, rfl, SAt.alike h (fun _ _ => rfl) (fun _ _ => rfl) (fun _ _ => rfl), Only.refl _ _⟩
  case round =>
    clear h
    obtain ⟨k, hk, rfl, h, o⟩ := hrel
    by_cases hlt : k < 8
    · have r1 : decide ((k : Int) < 8) = true := decide_eq_true (by omega)
      obtain ⟨v, c0, -⟩ := SAt.cd h hlt
      have c1 := SAt.ca h hlt
      have c2 := SAt.cg h hlt
      have f0 := SAt.frozen h (k * 3)
      have f1 := SAt.frozen h (k * 3 + 1)
      have f2 := SAt.frozen h (k * 3 + 2)
      have H := Lib.hid (SAt.alike (SAt.setg (SAt.seta (SAt.setd h hg hlt Dat.nil (by simp) (fun x hx => by simp at hx)) hg hlt (-1) (by omega) (by omega)) hg hlt false) (s' := s.clr (k + 1)) (fun i _ => (clr_step s k).1 i) (fun i _ => (clr_step s k).2.1 i) (fun i _ => (clr_step s k).2.2 i))
      clear h
      go_wp2
      go_roundw
      case rel => exact ⟨k + 1, by omega, by go_num, H.out, ((o.set _ _).set _ _).set _ _⟩
      case measure => simp [intOf]; omega
    · obtain rfl : k = 8 := by omega
      go_wp2
      exact bodyPost_end (results_none (by rfl) _ _ _) rfl ⟨rfl, SAt.alike h (fun i hi => by simp [MS.clr, MS.new, hi]) (fun i hi => by simp [MS.clr, MS.new, hi]) (fun i hi => by simp [MS.clr, MS.new, hi]), o⟩
set_option maxRecDepth 100000 in
set_option maxHeartbeats 2000000 in
theorem age_rf (F : List Nat) (g : Nat) (s : MS) (w : World) (h : RAt F w g s) (hg : g ∈ F) :
    Calls Try.prog 19 #[.pointer (some ⟨g, 0, none⟩)] w fun e w' => e = .returned (.tuple #[]) ∧ RAt F w' g s.age ∧ Only g w w' := by
  have hok := h.2
  go_enter Try.func19, Try.ntmps19
  go_wp2_with fail
  go_loopw [2] (fun i wr => ∃ k : Nat, k ≤ 8 ∧ i = .int .i64 k ∧ RAt F wr g (s.agd k) ∧ Only g w wr) (fun i _ => 8 - (intOf i).toNat)
  case atStart => exact ⟨0, by omega, rfl, SAt.alike h (fun _ _ => rfl) (fun _ _ => rfl) (fun _ _ => rfl), Only.refl _ _⟩
  case round =>
    clear h
    obtain ⟨k, hk, rfl, h, o⟩ := hrel
    by_cases hlt : k < 8
    · have r1 : decide ((k : Int) < 8) = true := decide_eq_true (by omega)
      have c1 := SAt.ca h hlt
      have f1 := SAt.frozen h (k * 3 + 1)
      have e1 : (s.agd k).a k = s.a k := by simp [MS.agd]
      rw [e1] at c1
      have l1 := hok.lo k hlt
      have l2 := hok.hi k hlt
      obtain ⟨p1, p2⟩ := older_ok l1 l2
      have H := Lib.hid (SAt.alike (SAt.seta h hg hlt (older (s.a k)) p1 p2) (s' := s.agd (k + 1)) (fun i _ => rfl) (fun i _ => agd_step s k i) (fun i _ => rfl))
      by_cases hpos : 0 ≤ s.a k
      · have q2 : decide ((0 : Int) ≤ s.a k) = true := decide_eq_true hpos
        have e2 : older (s.a k) = if 65535 < s.a k + 1 then 65535 else s.a k + 1 := by unfold older; rw [if_pos hpos]; split <;> omega
        rw [e2] at H
        clear h e1 e2 p1 p2
        generalize s.a k = x at *
        go_wp2_with fail
        go_region
        all_goals
          go_wp2
          go_roundw
          case rel => exact ⟨k + 1, by omega, by go_num, SAt.drew H.out, (o.set _ _).drew⟩
          case measure => simp [intOf]; omega
      · have q2 : decide ((0 : Int) ≤ s.a k) = false := decide_eq_false hpos
        have e2 : s.agd (k + 1) = s.agd k := by
          unfold MS.agd
          congr 1
          funext i
          rcases lt_or_eq_or i k with h | h | h
          · rw [if_pos (by omega), if_pos (by omega)]
          · subst h; rw [if_pos (by omega), if_neg (by omega)]; unfold older; rw [if_neg hpos]
          · rw [if_neg (by omega), if_neg (by omega)]
        clear H e1 p1 p2
        go_wp2
        go_roundw
        case rel => exact ⟨k + 1, by omega, by go_num, e2 ▸ h, o⟩
        case measure => simp [intOf]; omega
    · obtain rfl : k = 8 := by omega
      go_wp2
      exact bodyPost_end (results_none (by rfl) _ _ _) rfl ⟨rfl, SAt.alike h (fun i hi => rfl) (fun i hi => by simp [MS.agd, MS.age, hi]) (fun i hi => rfl), o⟩
set_option maxRecDepth 100000 in
set_option maxHeartbeats 2000000 in
theorem new_rf (w : World) :
    Calls Try.prog 13 #[] w fun e w' => ∃ g, e = .returned (.pointer (some ⟨g, 0, none⟩)) ∧ w.heap.size ≤ g ∧ (∀ F, RAt F w' g MS.new) ∧ Below w.heap.size w w' := by
  have H0 : Hid (RAt [w.heap.size] (w.alloc (.cells (stc (fun _ => .slice none 0 0) (fun _ => 0) (fun _ => false)) 49)) w.heap.size ⟨fun _ => [], fun _ => 0, fun _ => false⟩) := Lib.hid ⟨⟨_, Blk.new _ _ rfl _ _, fun _ _ => Dat.nil⟩, ⟨fun _ _ => by simp, fun _ _ x hx => by simp at hx, fun _ _ => by simp, fun _ _ => by simp⟩⟩
  have HC := fun W (h : RAt [w.heap.size] W w.heap.size ⟨fun _ => [], fun _ => 0, fun _ => false⟩) => Lib.hid (clear_rf [w.heap.size] w.heap.size _ W h (by simp))
  have hb := (Below.refl w.heap.size w).alloc (Nat.le_refl _) (.cells (stc (fun _ => .slice none 0 0) (fun _ => 0) (fun _ => false)) 49)
  have hz : (w.alloc (.cells (stc (fun _ => .slice none 0 0) (fun _ => 0) (fun _ => false)) 49)).heap.size = w.heap.size + 1 := by simp
  unfold stc at H0 hb hz
  go_enter Try.func13, Try.ntmps13
  go_wp2_with fail
  refine (HC _ H0.out).out.mono ?_
  rintro _ w2 ⟨rfl, h2, o2⟩
  have hb2 := hb.trans (o2.below (Nat.le_refl _) (by rw [hz]; omega))
  go_wp2
  go_ret
  exact ⟨_, rfl, Nat.le_refl _, fun F => SAt.refit h2 (fun i _ => rfl), hb2⟩
set_option maxRecDepth 100000 in
set_option maxHeartbeats 2000000 in
theorem get_rf (F : List Nat) (g : Nat) (s : MS) (n : Int) (w : World) (h : RAt F w g s) :
    Calls Try.prog 30 #[.pointer (some ⟨g, 0, none⟩), .int .i64 n] w fun e w' => ∃ v, e = .returned (.agg #[v, .int .i64 (s.ga n), .bool (s.gg n)]) ∧ SeesL w' w'.heap.size v (s.gd n) ∧ Below w.heap.size w w' := by
  have HN := fun W => Lib.hid (node_rf n W)
  by_cases hn : isN n
  · rw [decide_eq_true hn] at HN
    rw [show s.ga n = s.a n.toNat by unfold MS.ga; rw [if_pos hn], show s.gg n = s.g n.toNat by unfold MS.gg; rw [if_pos hn], show s.gd n = s.d n.toNat by unfold MS.gd; rw [if_pos hn]]
    unfold isN at hn
    obtain ⟨i, rfl⟩ : ∃ i : Nat, n = i := ⟨n.toNat, by omega⟩
    have hi : i < 8 := by omega
    rw [Int.toNat_natCast]
    have hgl := SAt.lt h
    obtain ⟨A, c, c0, hD⟩ := SAt.cs h hi
    have c1 := SAt.ca h hi
    have c2 := SAt.cg h hi
    have HD := Lib.hid hD
    clear hD
    clear h
    go_enter Try.func30, Try.ntmps30
    go_wp2_with fail
    refine (HN _).out.mono ?_
    rintro _ w1 ⟨rfl, rfl⟩
    go_wp2
    refine bodyPost_ret (v := .agg #[.slice A (s.d i).length c, .int .i64 (s.a i), .bool (s.g i)]) ?_ rfl ?_
    · rw [results_cell rfl]
      go_simp
    · refine ⟨_, rfl, both_below HD.out ?_⟩
      (repeat' (first | exact Below.refl _ _ | exact Nat.le_refl _ | (with_reducible refine Below.setCell ?_ ?_ _) | (with_reducible refine Below.alloc ?_ (Nat.le_refl _) _) | (with_reducible refine below_drewN ?_ _) | (with_reducible refine Below.drew ?_)))
  · rw [decide_eq_false hn] at HN
    rw [show s.ga n = -1 by unfold MS.ga; rw [if_neg hn], show s.gg n = false by unfold MS.gg; rw [if_neg hn], show s.gd n = [] by unfold MS.gd; rw [if_neg hn]]
    clear h
    go_enter Try.func30, Try.ntmps30
    go_wp2_with fail
    refine (HN _).out.mono ?_
    rintro _ w1 ⟨rfl, rfl⟩
    go_wp2
    refine bodyPost_ret (v := .agg #[.slice none 0 0, .int .i64 (-1), .bool false]) ?_ rfl ?_
    · rw [results_cell rfl]
      go_simp
    · refine ⟨_, rfl, both_below (F := []) Dat.nil ?_⟩
      (repeat' (first | exact Below.refl _ _ | exact Nat.le_refl _ | (with_reducible refine Below.setCell ?_ ?_ _) | (with_reducible refine Below.alloc ?_ (Nat.le_refl _) _) | (with_reducible refine below_drewN ?_ _) | (with_reducible refine Below.drew ?_)))
set_option maxRecDepth 100000 in
set_option maxHeartbeats 2000000 in
theorem put_rf (F : List Nat) (g : Nat) (s : MS) (n : Int) (v : Value) (l : List Int) (B : Nat) (w : World) (h : RAt F w g s) (hg : g ∈ F) (hF : ∀ f, f ∈ F → f < w.heap.size) (hv : SeesL w B v l) (hl : bytesL l) :
    Calls Try.prog 15 #[.pointer (some ⟨g, 0, none⟩), .int .i64 n, v] w fun e w' => e = .returned (.tuple #[]) ∧ RAt F w' g (s.put n l) ∧ Only g w w' := by
  have HN := fun W => Lib.hid (node_rf n W)
  obtain ⟨A, c, rfl, v1, v2, v3, v4⟩ := hv.at_
  unfold maxLen at v2
  by_cases hn : isN n
  case neg =>
    rw [decide_eq_false hn] at HN
    rw [show s.put n l = s by unfold MS.put; rw [if_neg (fun h => hn h.1)]]
    clear v3 v4
    go_enter Try.func15, Try.ntmps15
    go_wp2_with fail
    refine (HN _).out.mono ?_
    rintro _ _ ⟨rfl, rfl⟩
    go_wp2
    exact bodyPost_end (results_none (by rfl) _ _ _) rfl ⟨rfl, h, Only.refl _ _⟩
  rw [decide_eq_true hn] at HN
  by_cases h8 : l.length ≤ 8
  case neg =>
    have q8 : decide (((l.length : Nat) : Int) ≤ 8) = false := decide_eq_false (by omega)
    rw [show s.put n l = s by unfold MS.put; rw [if_neg (fun h => h8 h.2)]]
    clear v3 v4
    go_enter Try.func15, Try.ntmps15
    go_wp2_with fail
    refine (HN _).out.mono ?_
    rintro _ _ ⟨rfl, rfl⟩
    go_wp2
    exact bodyPost_end (results_none (by rfl) _ _ _) rfl ⟨rfl, h, Only.refl _ _⟩
  have q8 : decide (((l.length : Nat) : Int) ≤ 8) = true := decide_eq_true (by omega)
  rw [show s.put n l = ⟨upd s.d n.toNat l, upd s.a n.toNat 0, s.g⟩ by unfold MS.put; rw [if_pos ⟨hn, h8⟩]]
  unfold isN at hn
  obtain ⟨i, rfl⟩ : ∃ i : Nat, n = i := ⟨n.toNat, by omega⟩
  have hi : i < 8 := by omega
  rw [Int.toNat_natCast]
  have hv := Lib.hid hv
  clear v3 v4
  go_enter Try.func15, Try.ntmps15
  go_wp2_with fail
  refine (HN _).out.mono ?_
  rintro _ w1 ⟨rfl, rfl⟩
  go_wp2_with fail
  go_region_law (first
    | ((refine step_pushL _ rfl (.tmp 17) (.tmp 18) 27 rfl w1.heap.size infoU8 Try.underlying27 (.slice (some ⟨w1.heap.size, 0, none⟩) 0 0) [] ?_ rfl B (.slice A l.length c) l rfl ?_ ?_ ?_ ?_); (focus (exact (owns_empty _ _ rfl _ _ (Nat.le_refl _) rfl).drew)); (focus (exact (hv.out.alloc _).drew)); (focus (simp)); (focus (simp; omega)); intro v2 w2 ho2 hx2; (have hb2 := (((Below.refl w1.heap.size w1).alloc (Nat.le_refl _) (.cells #[] 5)).drew).trans (hx2.toBelow (B := w1.heap.size) (by simp) (fun j hj => by cases hj; exact Nat.le_refl _))); (have hD2 : Dat F w2 v2 l := OwnsL.dat (F := F) ho2 hF); (obtain ⟨A2, d2, rfl, -⟩ := hD2.1.at_); (have hE2 := Lib.hid hD2); clear hD2; (have h2 := SAt.below h hb2); (have cd2 := SAt.cd h2 hi); (have ca2 := SAt.ca h2 hi); (have f2 := SAt.frozen h2 (i * 3)); (have f2' := SAt.frozen h2 (i * 3 + 1)); (obtain ⟨u2, cu2, -⟩ := cd2); (have o2 := Lib.hid (only_of_below g hb2)); (have h2 := Lib.hid h2); clear hb2 hx2 ho2))
  all_goals exact bodyPost_end (results_none (by rfl) _ _ _) rfl ⟨rfl, SAt.seta (SAt.setd h2.out hg hi hE2.out h8 hl) hg hi 0 (by omega) (by omega), (o2.out.set _ _).set _ _⟩
set_option maxRecDepth 100000 in
set_option maxHeartbeats 2000000 in
theorem same_rf (u v : Value) (l m : List Int) (a b : Int) (x y : Bool) (B C : Nat) (w : World) (hu : SeesL w B u l) (hv : SeesL w C v m) (hl : bytesL l) (hm : bytesL m) :
    Calls Try.prog 25 #[.agg #[u, .int .i64 a, .bool x], .agg #[v, .int .i64 b, .bool y]] w fun e w' => e = .returned (.bool (decide (l = m) && decide (a = b) && decide (x = y))) ∧ Below w.heap.size w w' := by
  have hb := ((Below.refl w.heap.size w).alloc (Nat.le_refl _) (.cells #[u, .int .i64 a, .bool x] 33)).alloc (by simp) (.cells #[v, .int .i64 b, .bool y] 33)
  have R1 := run_textL ((hu.alloc (.cells #[u, .int .i64 a, .bool x] 33)).alloc (.cells #[v, .int .i64 b, .bool y] 33))
  have R2 := run_textL ((hv.alloc (.cells #[u, .int .i64 a, .bool x] 33)).alloc (.cells #[v, .int .i64 b, .bool y] 33))
  have ht := textL_iff hl hm
  obtain ⟨A, c, rfl, -⟩ := hu.at_
  obtain ⟨A', c', rfl, -⟩ := hv.at_
  have hxy : decide (x = y) = (x == y) := by cases x <;> cases y <;> rfl
  rw [hxy]
  clear hxy
  by_cases e1 : l = m
  · subst e1
    by_cases e2 : a = b
    · subst e2
      simp only [decide_true, Bool.true_and]
      go_enter Try.func25, Try.ntmps25
      go_wp2
      go_ret
      exact ⟨rfl, hb⟩
    · have q2 : (a == b) = false := by rw [beq_eq_false_iff_ne]; exact e2
      rw [show (decide (l = l) && decide (a = b) && (x == y)) = false by simp [e2]]
      go_enter Try.func25, Try.ntmps25
      go_wp2
      go_ret
      exact ⟨rfl, hb⟩
  · have e4 : ¬ textL l = textL m := fun h => e1 (ht.1 h)
    rw [show (decide (l = m) && decide (a = b) && (x == y)) = false by simp [e1]]
    clear ht hu hv
    generalize textL l = T at *
    generalize textL m = T' at *
    have eT2 : ¬ T.toList = T'.toList := fun h => e4 (by
      rw [ByteArray.toList_eq, ByteArray.toList_eq] at h
      exact ByteArray.ext (Array.toList_inj.1 h))
    go_enter Try.func25, Try.ntmps25
    go_wp2
    go_ret
    exact ⟨rfl, hb⟩
end Go.Proofs.Ytnjllegnkbhciaa
