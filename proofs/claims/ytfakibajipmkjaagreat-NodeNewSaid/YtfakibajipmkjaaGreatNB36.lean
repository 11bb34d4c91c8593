/- Texts StR, StA, StL, NdP, NdBase in one. For what each says in front of its theorems. -/
import Derived.BigRegion
import Derived.Deep.RegionWith
import Derived.Test.YtfakibajipmkjaaGreatNB35
/-! ### StR -/
namespace Go.Proofs.YtfakibajipmkjaaGreat
open Go.RowKit

/-- The document's store in memory. -/
def RAt (F : List Nat) (W : World) (g : Nat) (s : MS) : Prop := SAt 137 F W g s

set_option maxRecDepth 100000 in
set_option maxHeartbeats 1000000 in
theorem node_rf (n : Int) (w : World) :
    Calls Tryz.prog 105 #[.int .i64 n] w fun e w' => e = .returned (.bool (decide (isN n))) ∧ w' = w := by
  by_cases h1 : n < 0
  · rw [decide_eq_false (by unfold isN; omega : ¬ isN n)]
    go_enter Tryz.func105, Tryz.ntmps105
    go_wp2
    go_ret
    exact ⟨rfl, rfl⟩
  · by_cases h2 : n < 8
    · rw [decide_eq_true (by unfold isN; omega : isN n)]
      have h1 : 0 ≤ n := by omega
      go_enter Tryz.func105, Tryz.ntmps105
      go_wp2
      go_ret
      exact ⟨by simp_all, rfl⟩
    · rw [decide_eq_false (by unfold isN; omega : ¬ isN n)]
      have h1 : 0 ≤ n := by omega
      go_enter Tryz.func105, Tryz.ntmps105
      go_wp2
      go_ret
      exact ⟨by simp_all, rfl⟩

set_option maxRecDepth 100000 in
set_option maxHeartbeats 1000000 in
theorem member_rf (F : List Nat) (g : Nat) (s : MS) (n : Int) (b : Bool) (w : World) (h : RAt F w g s) (hg : g ∈ F) :
    Calls Tryz.prog 103 #[.pointer (some ⟨g, 0, none⟩), .int .i64 n, .bool b] w fun e w' => e = .returned (.tuple #[]) ∧ RAt F w' g (s.member n b) ∧ Only g w w' := by
  have HN := fun W => Lib.hid (node_rf n W)
  by_cases hn : isN n
  · rw [decide_eq_true hn] at HN
    rw [show s.member n b = { s with g := upd s.g n.toNat b } by unfold MS.member; rw [if_pos hn]]
    unfold isN at hn
    obtain ⟨i, rfl⟩ : ∃ i : Nat, n = i := ⟨n.toNat, by omega⟩
    have hi : i < 8 := by omega
    rw [Int.toNat_natCast]
    have c := SAt.cg h hi
    have f := SAt.frozen h (i * 3 + 2)
    have H := Lib.hid (SAt.setg h hg hi b)
    clear h
    go_enter Tryz.func103, Tryz.ntmps103
    go_wp2_with fail
    refine (HN _).out.mono ?_
    rintro _ _ ⟨rfl, rfl⟩
    go_wp2
    exact bodyPost_end (results_none (by rfl) _ _ _) rfl ⟨rfl, H.out, (Only.refl g _).set _ _⟩
  · rw [decide_eq_false hn] at HN
    rw [show s.member n b = s by unfold MS.member; rw [if_neg hn]]
    go_enter Tryz.func103, Tryz.ntmps103
    go_wp2_with fail
    refine (HN _).out.mono ?_
    rintro _ _ ⟨rfl, rfl⟩
    go_wp2
    exact bodyPost_end (results_none (by rfl) _ _ _) rfl ⟨rfl, h, Only.refl _ _⟩

set_option maxRecDepth 100000 in
set_option maxHeartbeats 2000000 in
theorem clear_rf (F : List Nat) (g : Nat) (s : MS) (w : World) (h : RAt F w g s) (hg : g ∈ F) :
    Calls Tryz.prog 87 #[.pointer (some ⟨g, 0, none⟩)] w fun e w' => e = .returned (.tuple #[]) ∧ RAt F w' g MS.new ∧ Only g w w' := by
  go_enter Tryz.func87, Tryz.ntmps87
  go_wp2_with fail
  go_loopw [2] (fun i wr => ∃ k : Nat, k ≤ 8 ∧ i = .int .i64 k ∧ RAt F wr g (s.clr k) ∧ Only g w wr) (fun i _ => 8 - (intOf i).toNat)
  case atStart => exact ⟨0, by omega, rfl, SAt.alike h (fun _ _ => rfl) (fun _ _ => rfl) (fun _ _ => rfl), Only.refl _ _⟩
  case round =>
    clear h
    obtain ⟨k, hk, rfl, h, o⟩ := hrel
    by_cases hlt : k < 8
    · have r1 : decide ((k : Int) < 8) = true := decide_eq_true (by omega)
      obtain ⟨v, c0, -⟩ := SAt.cd h hlt
      have c1 := SAt.ca h hlt
      have c2 := SAt.cg h hlt
      have f0 := SAt.frozen h (k * 3)
      have f1 := SAt.frozen h (k * 3 + 1)
      have f2 := SAt.frozen h (k * 3 + 2)
      have H := Lib.hid (SAt.alike (SAt.setg (SAt.seta (SAt.setd h hg hlt Dat.nil (by simp) (fun x hx => by simp at hx)) hg hlt (-1) (by omega) (by omega)) hg hlt false) (s' := s.clr (k + 1)) (fun i _ => (clr_step s k).1 i) (fun i _ => (clr_step s k).2.1 i) (fun i _ => (clr_step s k).2.2 i))
      clear h
      go_wp2
      go_roundw
      case rel => exact ⟨k + 1, by omega, by go_num, H.out, ((o.set _ _).set _ _).set _ _⟩
      case measure => simp [intOf]; omega
    · obtain rfl : k = 8 := by omega
      go_wp2
      exact bodyPost_end (results_none (by rfl) _ _ _) rfl ⟨rfl, SAt.alike h (fun i hi => by simp [MS.clr, MS.new, hi]) (fun i hi => by simp [MS.clr, MS.new, hi]) (fun i hi => by simp [MS.clr, MS.new, hi]), o⟩
set_option maxRecDepth 100000 in
set_option maxHeartbeats 2000000 in
theorem age_rf (F : List Nat) (g : Nat) (s : MS) (w : World) (h : RAt F w g s) (hg : g ∈ F) :
    Calls Tryz.prog 136 #[.pointer (some ⟨g, 0, none⟩)] w fun e w' => e = .returned (.tuple #[]) ∧ RAt F w' g s.age ∧ Only g w w' := by
  have hok := h.2
  go_enter Tryz.func136, Tryz.ntmps136
  go_wp2_with fail
  go_loopw [2] (fun i wr => ∃ k : Nat, k ≤ 8 ∧ i = .int .i64 k ∧ RAt F wr g (s.agd k) ∧ Only g w wr) (fun i _ => 8 - (intOf i).toNat)
  case atStart => exact ⟨0, by omega, rfl, SAt.alike h (fun _ _ => rfl) (fun _ _ => rfl) (fun _ _ => rfl), Only.refl _ _⟩
  case round =>
    clear h
    obtain ⟨k, hk, rfl, h, o⟩ := hrel
    by_cases hlt : k < 8
    · have r1 : decide ((k : Int) < 8) = true := decide_eq_true (by omega)
      have c1 := SAt.ca h hlt
      have f1 := SAt.frozen h (k * 3 + 1)
      have e1 : (s.agd k).a k = s.a k := by simp [MS.agd]
      rw [e1] at c1
      have l1 := hok.lo k hlt
      have l2 := hok.hi k hlt
      obtain ⟨p1, p2⟩ := older_ok l1 l2
      have H := Lib.hid (SAt.alike (SAt.seta h hg hlt (older (s.a k)) p1 p2) (s' := s.agd (k + 1)) (fun i _ => rfl) (fun i _ => agd_step s k i) (fun i _ => rfl))
      by_cases hpos : 0 ≤ s.a k
      · have q2 : decide ((0 : Int) ≤ s.a k) = true := decide_eq_true hpos
        have e2 : older (s.a k) = if 65535 < s.a k + 1 then 65535 else s.a k + 1 := by unfold older; rw [if_pos hpos]; split <;> omega
        rw [e2] at H
        clear h e1 e2 p1 p2
        generalize s.a k = x at *
        go_wp2_with fail
        go_region
        all_goals
          go_wp2
          go_roundw
          case rel => exact ⟨k + 1, by omega, by go_num, SAt.drew H.out, (o.set _ _).drew⟩
          case measure => simp [intOf]; omega
      · have q2 : decide ((0 : Int) ≤ s.a k) = false := decide_eq_false hpos
        have e2 : s.agd (k + 1) = s.agd k := by
          unfold MS.agd
          congr 1
          funext i
          rcases lt_or_eq_or i k with h | h | h
          · rw [if_pos (by omega), if_pos (by omega)]
          · subst h; rw [if_pos (by omega), if_neg (by omega)]; unfold older; rw [if_neg hpos]
          · rw [if_neg (by omega), if_neg (by omega)]
        clear H e1 p1 p2
        go_wp2
        go_roundw
        case rel => exact ⟨k + 1, by omega, by go_num, e2 ▸ h, o⟩
        case measure => simp [intOf]; omega
    · obtain rfl : k = 8 := by omega
      go_wp2
      exact bodyPost_end (results_none (by rfl) _ _ _) rfl ⟨rfl, SAt.alike h (fun i hi => rfl) (fun i hi => by simp [MS.agd, MS.age, hi]) (fun i hi => rfl), o⟩
set_option maxRecDepth 100000 in
set_option maxHeartbeats 2000000 in
theorem new_rf (w : World) :
    Calls Tryz.prog 46 #[] w fun e w' => ∃ g, e = .returned (.pointer (some ⟨g, 0, none⟩)) ∧ w.heap.size ≤ g ∧ (∀ F, RAt F w' g MS.new) ∧ Below w.heap.size w w' := by
  have H0 : Hid (RAt [w.heap.size] (w.alloc (.cells (stc (fun _ => .slice none 0 0) (fun _ => 0) (fun _ => false)) 137)) w.heap.size ⟨fun _ => [], fun _ => 0, fun _ => false⟩) := Lib.hid ⟨⟨_, Blk.new _ _ rfl _ _, fun _ _ => Dat.nil⟩, ⟨fun _ _ => by simp, fun _ _ x hx => by simp at hx, fun _ _ => by simp, fun _ _ => by simp⟩⟩
  have HC := fun W (h : RAt [w.heap.size] W w.heap.size ⟨fun _ => [], fun _ => 0, fun _ => false⟩) => Lib.hid (clear_rf [w.heap.size] w.heap.size _ W h (by simp))
  have hb := (Below.refl w.heap.size w).alloc (Nat.le_refl _) (.cells (stc (fun _ => .slice none 0 0) (fun _ => 0) (fun _ => false)) 137)
  have hz : (w.alloc (.cells (stc (fun _ => .slice none 0 0) (fun _ => 0) (fun _ => false)) 137)).heap.size = w.heap.size + 1 := by simp
  unfold stc at H0 hb hz
  go_enter Tryz.func46, Tryz.ntmps46
  go_wp2_with fail
  refine (HC _ H0.out).out.mono ?_
  rintro _ w2 ⟨rfl, h2, o2⟩
  have hb2 := hb.trans (o2.below (Nat.le_refl _) (by rw [hz]; omega))
  go_wp2
  go_ret
  exact ⟨_, rfl, Nat.le_refl _, fun F => SAt.refit h2 (fun i _ => rfl), hb2⟩
set_option maxRecDepth 100000 in
set_option maxHeartbeats 2000000 in
theorem get_rf (F : List Nat) (g : Nat) (s : MS) (n : Int) (w : World) (h : RAt F w g s) :
    Calls Tryz.prog 55 #[.pointer (some ⟨g, 0, none⟩), .int .i64 n] w fun e w' => ∃ v, e = .returned (.agg #[v, .int .i64 (s.ga n), .bool (s.gg n)]) ∧ SeesL w' w'.heap.size v (s.gd n) ∧ Below w.heap.size w w' := by
  have HN := fun W => Lib.hid (node_rf n W)
  by_cases hn : isN n
  · rw [decide_eq_true hn] at HN
    rw [show s.ga n = s.a n.toNat by unfold MS.ga; rw [if_pos hn], show s.gg n = s.g n.toNat by unfold MS.gg; rw [if_pos hn], show s.gd n = s.d n.toNat by unfold MS.gd; rw [if_pos hn]]
    unfold isN at hn
    obtain ⟨i, rfl⟩ : ∃ i : Nat, n = i := ⟨n.toNat, by omega⟩
    have hi : i < 8 := by omega
    rw [Int.toNat_natCast]
    have hgl := SAt.lt h
    obtain ⟨A, c, c0, hD⟩ := SAt.cs h hi
    have c1 := SAt.ca h hi
    have c2 := SAt.cg h hi
    have HD := Lib.hid hD
    clear hD
    clear h
    go_enter Tryz.func55, Tryz.ntmps55
    go_wp2_with fail
    refine (HN _).out.mono ?_
    rintro _ w1 ⟨rfl, rfl⟩
    go_wp2
    refine bodyPost_ret (v := .agg #[.slice A (s.d i).length c, .int .i64 (s.a i), .bool (s.g i)]) ?_ rfl ?_
    · rw [results_cell rfl]
      go_simp
    · refine ⟨_, rfl, both_below HD.out ?_⟩
      (repeat' (first | exact Below.refl _ _ | exact Nat.le_refl _ | (with_reducible refine Below.setCell ?_ ?_ _) | (with_reducible refine Below.alloc ?_ (Nat.le_refl _) _) | (with_reducible refine below_drewN ?_ _) | (with_reducible refine Below.drew ?_)))
  · rw [decide_eq_false hn] at HN
    rw [show s.ga n = -1 by unfold MS.ga; rw [if_neg hn], show s.gg n = false by unfold MS.gg; rw [if_neg hn], show s.gd n = [] by unfold MS.gd; rw [if_neg hn]]
    clear h
    go_enter Tryz.func55, Tryz.ntmps55
    go_wp2_with fail
    refine (HN _).out.mono ?_
    rintro _ w1 ⟨rfl, rfl⟩
    go_wp2
    refine bodyPost_ret (v := .agg #[.slice none 0 0, .int .i64 (-1), .bool false]) ?_ rfl ?_
    · rw [results_cell rfl]
      go_simp
    · refine ⟨_, rfl, both_below (F := []) Dat.nil ?_⟩
      (repeat' (first | exact Below.refl _ _ | exact Nat.le_refl _ | (with_reducible refine Below.setCell ?_ ?_ _) | (with_reducible refine Below.alloc ?_ (Nat.le_refl _) _) | (with_reducible refine below_drewN ?_ _) | (with_reducible refine Below.drew ?_)))
set_option maxRecDepth 100000 in
set_option maxHeartbeats 2000000 in
theorem put_rf (F : List Nat) (g : Nat) (s : MS) (n : Int) (v : Value) (l : List Int) (B : Nat) (w : World) (h : RAt F w g s) (hg : g ∈ F) (hF : ∀ f, f ∈ F → f < w.heap.size) (hv : SeesL w B v l) (hl : bytesL l) :
    Calls Tryz.prog 100 #[.pointer (some ⟨g, 0, none⟩), .int .i64 n, v] w fun e w' => e = .returned (.tuple #[]) ∧ RAt F w' g (s.put n l) ∧ Only g w w' := by
  have HN := fun W => Lib.hid (node_rf n W)
  obtain ⟨A, c, rfl, v1, v2, v3, v4⟩ := hv.at_
  unfold maxLen at v2
  by_cases hn : isN n
  case neg =>
    rw [decide_eq_false hn] at HN
    rw [show s.put n l = s by unfold MS.put; rw [if_neg (fun h => hn h.1)]]
    clear v3 v4
    go_enter Tryz.func100, Tryz.ntmps100
    go_wp2_with fail
    refine (HN _).out.mono ?_
    rintro _ _ ⟨rfl, rfl⟩
    go_wp2
    exact bodyPost_end (results_none (by rfl) _ _ _) rfl ⟨rfl, h, Only.refl _ _⟩
  rw [decide_eq_true hn] at HN
  by_cases h8 : l.length ≤ 8
  case neg =>
    have q8 : decide (((l.length : Nat) : Int) ≤ 8) = false := decide_eq_false (by omega)
    rw [show s.put n l = s by unfold MS.put; rw [if_neg (fun h => h8 h.2)]]
    clear v3 v4
    go_enter Tryz.func100, Tryz.ntmps100
    go_wp2_with fail
    refine (HN _).out.mono ?_
    rintro _ _ ⟨rfl, rfl⟩
    go_wp2
    exact bodyPost_end (results_none (by rfl) _ _ _) rfl ⟨rfl, h, Only.refl _ _⟩
  have q8 : decide (((l.length : Nat) : Int) ≤ 8) = true := decide_eq_true (by omega)
  rw [show s.put n l = ⟨upd s.d n.toNat l, upd s.a n.toNat 0, s.g⟩ by unfold MS.put; rw [if_pos ⟨hn, h8⟩]]
  unfold isN at hn
  obtain ⟨i, rfl⟩ : ∃ i : Nat, n = i := ⟨n.toNat, by omega⟩
  have hi : i < 8 := by omega
  rw [Int.toNat_natCast]
  have hv := Lib.hid hv
  clear v3 v4
  go_enter Tryz.func100, Tryz.ntmps100
  go_wp2_with fail
  refine (HN _).out.mono ?_
  rintro _ w1 ⟨rfl, rfl⟩
  go_wp2_with fail
  go_region_law (first
    | ((refine step_pushL _ rfl (.tmp 17) (.tmp 18) 37 rfl w1.heap.size infoU8 Tryz.underlying37 (.slice (some ⟨w1.heap.size, 0, none⟩) 0 0) [] ?_ rfl B (.slice A l.length c) l rfl ?_ ?_ ?_ ?_); (focus (exact (owns_empty _ _ rfl _ _ (Nat.le_refl _) rfl).drew)); (focus (exact (hv.out.alloc _).drew)); (focus (simp)); (focus (simp; omega)); intro v2 w2 ho2 hx2; (have hb2 := (((Below.refl w1.heap.size w1).alloc (Nat.le_refl _) (.cells #[] 5)).drew).trans (hx2.toBelow (B := w1.heap.size) (by simp) (fun j hj => by cases hj; exact Nat.le_refl _))); (have hD2 : Dat F w2 v2 l := OwnsL.dat (F := F) ho2 hF); (obtain ⟨A2, d2, rfl, -⟩ := hD2.1.at_); (have hE2 := Lib.hid hD2); clear hD2; (have h2 := SAt.below h hb2); (have cd2 := SAt.cd h2 hi); (have ca2 := SAt.ca h2 hi); (have f2 := SAt.frozen h2 (i * 3)); (have f2' := SAt.frozen h2 (i * 3 + 1)); (obtain ⟨u2, cu2, -⟩ := cd2); (have o2 := Lib.hid (only_of_below g hb2)); (have h2 := Lib.hid h2); clear hb2 hx2 ho2))
  all_goals exact bodyPost_end (results_none (by rfl) _ _ _) rfl ⟨rfl, SAt.seta (SAt.setd h2.out hg hi hE2.out h8 hl) hg hi 0 (by omega) (by omega), (o2.out.set _ _).set _ _⟩
set_option maxRecDepth 100000 in
set_option maxHeartbeats 2000000 in
theorem same_rf (u v : Value) (l m : List Int) (a b : Int) (x y : Bool) (B C : Nat) (w : World) (hu : SeesL w B u l) (hv : SeesL w C v m) (hl : bytesL l) (hm : bytesL m) :
    Calls Tryz.prog 36 #[.agg #[u, .int .i64 a, .bool x], .agg #[v, .int .i64 b, .bool y]] w fun e w' => e = .returned (.bool (decide (l = m) && decide (a = b) && decide (x = y))) ∧ Below w.heap.size w w' := by
  have hb := ((Below.refl w.heap.size w).alloc (Nat.le_refl _) (.cells #[u, .int .i64 a, .bool x] 64)).alloc (by simp) (.cells #[v, .int .i64 b, .bool y] 64)
  have R1 := run_textL ((hu.alloc (.cells #[u, .int .i64 a, .bool x] 64)).alloc (.cells #[v, .int .i64 b, .bool y] 64))
  have R2 := run_textL ((hv.alloc (.cells #[u, .int .i64 a, .bool x] 64)).alloc (.cells #[v, .int .i64 b, .bool y] 64))
  have ht := textL_iff hl hm
  obtain ⟨A, c, rfl, -⟩ := hu.at_
  obtain ⟨A', c', rfl, -⟩ := hv.at_
  have hxy : decide (x = y) = (x == y) := by cases x <;> cases y <;> rfl
  rw [hxy]
  clear hxy
  by_cases e1 : l = m
  · subst e1
    by_cases e2 : a = b
    · subst e2
      simp only [decide_true, Bool.true_and]
      go_enter Tryz.func36, Tryz.ntmps36
      go_wp2
      go_ret
      exact ⟨rfl, hb⟩
    · have q2 : (a == b) = false := by rw [beq_eq_false_iff_ne]; exact e2
      rw [show (decide (l = l) && decide (a = b) && (x == y)) = false by simp [e2]]
      go_enter Tryz.func36, Tryz.ntmps36
      go_wp2
      go_ret
      exact ⟨rfl, hb⟩
  · have e4 : ¬ textL l = textL m := fun h => e1 (ht.1 h)
    rw [show (decide (l = m) && decide (a = b) && (x == y)) = false by simp [e1]]
    clear ht hu hv
    generalize textL l = T at *
    generalize textL m = T' at *
    have eT2 : ¬ T.toList = T'.toList := fun h => e4 (by
      rw [ByteArray.toList_eq, ByteArray.toList_eq] at h
      exact ByteArray.ext (Array.toList_inj.1 h))
    go_enter Tryz.func36, Tryz.ntmps36
    go_wp2
    go_ret
    exact ⟨rfl, hb⟩
end Go.Proofs.YtfakibajipmkjaaGreat

/-! ### StA -/
namespace Go.Proofs.YtfakibajipmkjaaGreat
open Go.RowKit

end Go.Proofs.YtfakibajipmkjaaGreat

/-! ### StL -/
namespace Go.Proofs.YtfakibajipmkjaaGreat
open Go.RowKit

section
variable {F : List Nat} {g : Nat} {s : MS} {W : World} {v : Value} {l : List Int} {B : Nat}
theorem put1 (n : Int) (h : CAt [g] W g s) (hv : SeesL W B v l) (hl : bytesL l) :
    Calls Tryz.prog 120 #[.pointer (some ⟨g, 0, none⟩), .int .i64 n, v] W fun e w' => e = .returned (.tuple #[]) ∧ CAt [g] w' g (s.put n l) ∧ Only g W w' :=
  put_st [g] g s n v l B W h (by simp) (by simpa using SAt.lt h) hv hl
theorem get1 (n : Int) (h : CAt F W g s) :
    Calls Tryz.prog 73 #[.pointer (some ⟨g, 0, none⟩), .int .i64 n] W fun e w' => ∃ v, e = .returned (.agg #[v, .int .i64 (s.ga n), .bool (s.gg n)]) ∧ SeesL w' w'.heap.size v (s.gd n) ∧ (s.gd n ≠ [] → OwnsL w' W.heap.size v (s.gd n)) ∧ Below W.heap.size W w' :=
  get_st F g s n W h
theorem member1 (n : Int) (b : Bool) (h : CAt [g] W g s) :
    Calls Tryz.prog 123 #[.pointer (some ⟨g, 0, none⟩), .int .i64 n, .bool b] W fun e w' => e = .returned (.tuple #[]) ∧ CAt [g] w' g (s.member n b) ∧ Only g W w' :=
  member_st [g] g s n b W h (by simp)
theorem age1 (h : CAt [g] W g s) :
    Calls Tryz.prog 144 #[.pointer (some ⟨g, 0, none⟩)] W fun e w' => e = .returned (.tuple #[]) ∧ CAt [g] w' g s.age ∧ Only g W w' :=
  age_st [g] g s W h (by simp)
theorem clear1 (h : CAt [g] W g s) :
    Calls Tryz.prog 84 #[.pointer (some ⟨g, 0, none⟩)] W fun e w' => e = .returned (.tuple #[]) ∧ CAt [g] w' g MS.new ∧ Only g W w' :=
  clear_st [g] g s W h (by simp)
end

theorem new_gd (n : Int) : MS.new.gd n = [] := by unfold MS.gd MS.new; split <;> rfl
theorem new_ga (n : Int) : MS.new.ga n = -1 := by unfold MS.ga MS.new; split <;> rfl
theorem new_gg (n : Int) : MS.new.gg n = false := by unfold MS.gg MS.new; split <;> rfl
theorem same1 {u v : Value} {l : List Int} {a : Int} {x : Bool} {B C : Nat} {w : World} (hu : SeesL w B u l) (hv : SeesL w C v l) (hl : bytesL l) :
    Calls Tryz.prog 36 #[.agg #[u, .int .i64 a, .bool x], .agg #[v, .int .i64 a, .bool x]] w fun e w' => e = .returned (.bool true) ∧ Below w.heap.size w w' := by
  have := same_rf u v l l a a x x B C w hu hv hl hl
  simpa using this
theorem OwnsL.only {W W' : World} {B g : Nat} {v : Value} {l : List Int} (h : OwnsL W B v l) (k : Only g W W') (hne : v.ownBlock ≠ some g) : OwnsL W' B v l :=
  World.ownsRow.kept (row := some g) h k (.inr hne)
/-- A list with something in it lies in a block of its own. -/
theorem OwnsL.blk {W : World} {B : Nat} {v : Value} {l : List Int} (h : OwnsL W B v l) (hl : l ≠ []) : ∃ b c, v = .slice (some ⟨b, 0, none⟩) l.length c ∧ B ≤ b ∧ b < W.heap.size ∧ l.length ≤ c ∧ c ≤ maxLen ∧ W.cell? ⟨b, 0, none⟩ = some (.int .u8 (l.getD 0 0)) ∧ W.frozen? ⟨b, 0, none⟩ = false := by
  have h0 := List.length_pos_iff.2 hl
  rcases h.2 with ⟨-, e⟩ | ⟨b, c, cur, rfl, hb, hg, hn, hc, -, -⟩
  · rw [e] at h0
    exact absurd h0 (Nat.lt_irrefl _)
  · refine ⟨b, c, rfl, hb, (Array.getElem?_eq_some_iff.1 hg).1, hn, hc, ?_, Owns.frozen h 0⟩
    exact Owns.cell h h0
theorem bytes_nil : bytesL [] := fun x hx => by simp at hx
/-- So many rounds older. -/
def oldN (a : Int) (k : Nat) : Int := if 0 ≤ a then min (a + k) 65535 else a
def MS.ages (s : MS) (k : Nat) : MS := { s with a := fun i => oldN (s.a i) k }
theorem older_oldN (a : Int) (h : a ≤ 65535) (k : Nat) : older (oldN a k) = oldN a (k + 1) := by
  unfold older oldN
  by_cases h0 : 0 ≤ a
  · simp only [h0, if_true]
    rw [if_pos (by omega)]
    omega
  · simp [h0]
theorem ages_zero (s : MS) (h : s.ok) : ∀ i, i < 8 → (s.ages 0).a i = s.a i := fun i hi => by
  have := h.hi i hi
  simp only [MS.ages, oldN]
  split <;> omega
/-- The walk's step. -/
theorem ages_age {t : TypeId} {F : List Nat} {W : World} {g : Nat} {s : MS} {k : Nat} (h : SAt t F W g (s.ages k).age) (hs : s.ok) : SAt t F W g (s.ages (k + 1)) :=
  SAt.alike h (fun _ _ => rfl) (fun i hi => older_oldN _ (hs.hi i hi) k) (fun _ _ => rfl)
theorem ages_start {t : TypeId} {F : List Nat} {W : World} {g : Nat} {s : MS} (h : SAt t F W g s) : SAt t F W g (s.ages 0) :=
  SAt.alike h (fun _ _ => rfl) (fun i hi => (ages_zero s h.2 i hi).symm) (fun _ _ => rfl)
end Go.Proofs.YtfakibajipmkjaaGreat

/-! ### NdP -/
namespace Go.Proofs.YtfakibajipmkjaaGreat
open Go.RowKit

theorem sent_nil {s : NM} (h : s.sendK = 0) : s.sent = [] := by
  unfold NM.sent
  rw [if_pos h]
theorem sent_pos {s : NM} (h : s.sendK ≠ 0) : 0 < s.sent.length := by
  unfold NM.sent
  rw [if_neg h]
  exact fbytes_len _
def NM.low (s : NM) : Prop := s.ty.a < 900 ∧ s.ty.f < 900 ∧ -4611686018427387904 ≤ s.tm ∧ s.tm ≤ 4611686018427387904
instance (s : NM) : Decidable s.low := inferInstanceAs (Decidable (_ ∧ _))
theorem Nd.mono {NAt : List Nat → World → Nat → NM → Prop} {B B' : Nat} {P : List Nat} {W : World} {g : Nat} {s : NM} (h : Nd NAt B P W g s) (hB : B' ≤ B) : Nd NAt B' P W g s := by
  obtain ⟨⟨F, h, hF⟩, h2, h3⟩ := h
  exact ⟨⟨F, h, fun f hf => ⟨Nat.le_trans hB (hF f hf).1, (hF f hf).2⟩⟩, Nat.le_trans hB h2, h3⟩
theorem Nd.few {NAt : List Nat → World → Nat → NM → Prop} {B : Nat} {P : List Nat} {W : World} {g : Nat} {s : NM} (h : Nd NAt B P W g s) : Nd NAt B [] W g s := by
  obtain ⟨⟨F, h, hF⟩, h2, h3⟩ := h
  exact ⟨⟨F, h, fun f hf => ⟨(hF f hf).1, List.not_mem_nil⟩⟩, h2, fun p hp => by simp at hp⟩
theorem encR_ok {f : Fr.F} (h : f.is = true) : encR f = f.bytes ∧ encE f = 0 := by simp [encR, encE, h]
def rl2 : List R4 := [⟨1, 10, 90, 1⟩, ⟨2, 0, 200, 0⟩]
def pvF : Fr.F := ⟨3, ⟨0, 0, 1⟩, []⟩
def pv0 : NM := (NM.new (smnT 4 0) (1 : Int).toNat 0 rl2).on 0
def pv1 : NM := pv0.sendS
def pv : NM := pv1.take ⟨2, 0, encR pvF, [], 0⟩
theorem pv_a : pv0.sendK = 0 ∧ pv1.low ∧ pv.st = 3 ∧ encE pvF = 0 := by decide +kernel
/-- A state's field. -/
theorem field_m (r s m : Int) (w : World) : (Instr.field 55 (.agg #[.int .i64 r, .int .i64 s, .int .i64 m]) 2).run Tryz.prog w = .ok (.int .i64 m) w := by kernel_rfl
set_option maxRecDepth 100000 in
set_option maxHeartbeats 2000000 in
theorem rules_nd (w : World) :
    Calls Tryz.prog 17 #[] w fun e w' => ∃ v, e = .returned v ∧ SeesRs w' w'.heap.size v rl2 ∧ Below w.heap.size w w' := by
  go_enter Tryz.func17, Tryz.ntmps17
  go_wp2
  go_ret
  refine ⟨_, rfl, ⟨_, 2, rfl, by decide, by unfold maxLen; omega, fun _ => ⟨w.heap.size, 0, rfl, by simp, fun k hk => ?_⟩, fun h => by cases h⟩, (Below.refl w.heap.size w).alloc (Nat.le_refl _) _⟩
  have hk : k < 2 := hk
  rcases (by omega : k = 0 ∨ k = 1) with rfl | rfl <;> exact ⟨by rw [World.cell?_alloc_at _ _ _ _ rfl]; rfl, by rw [World.cell?_alloc_at _ _ _ _ rfl]; rfl, by rw [World.cell?_alloc_at _ _ _ _ rfl]; rfl, by rw [World.cell?_alloc_at _ _ _ _ rfl]; rfl⟩
set_option maxRecDepth 100000 in
set_option maxHeartbeats 2000000 in
theorem passive_nd {NAt : List Nat → World → Nat → NM → Prop} (A : NodeApi NAt) (w : World) :
    Calls Tryz.prog 37 #[] w fun e w' => ∃ g, e = .returned (.pointer (some ⟨g, 0, none⟩)) ∧ Nd NAt w.heap.size [] w' g pv ∧ Below w.heap.size w w' := by
  obtain ⟨a1, a2, a3, a4⟩ := pv_a
  have HS := fun W => Lib.hid (some_nd 4 0 (by omega) (by omega) W)
  go_enter Tryz.func37, Tryz.ntmps37
  go_wp2_with fail
  refine (HS _).out.mono ?_
  rintro _ w0 ⟨v, rfl, ho, b⟩
  have hv := ho.sees
  go_wp2_with fail
  refine (rules_nd _).mono ?_
  rintro _ w1 ⟨v1, rfl, hr, br⟩
  replace hv := (hv.below br).more br.size
  replace b := b.trans (br.mono b.size)
  have hB1 := b.size
  have hm := may_some 4 0 1 0 rl2 (by omega) (by omega) (by omega) (by omega) (by decide) (by decide)
  clear ho HS br
  go_wp2_with fail
  refine (A.newB (smnT 4 0) v v1 1 0 rl2 w1 hv hr hm).mono ?_
  rintro _ w2 ⟨g, rfl, h, b'⟩
  replace b := b.trans (b'.mono b.size)
  clear hv hm b' hr
  go_wp2_with fail
  refine (A.onB 0 h).mono ?_
  rintro _ wo ⟨rfl, h', b'⟩
  replace b := b.trans (b'.b.mono hB1)
  rw [show NM.onE _ 0 = 0 from rfl]
  replace h : Nd NAt w1.heap.size [] _ g pv0 := h'
  clear h' b' 
  have HE := fun W => Lib.hid (encode_ref pvF (.slice none 0 0) W SeesL.nil (fun x hx => by simp [pvF] at hx))
  go_wp2_with fail
  refine (HE _).out.mono ?_
  rintro _ w4 ⟨v4, rfl, ho4, b4⟩
  have h4 := A.ndOwn h b4 ho4
  replace b := b.trans (b4.mono b.size)
  replace h := h4
  rw [a4]
  clear HE h4 b4
  have hs4 := ho4.sees
  have hj : ∀ j, v4.ownBlock = some j → j ∈ v4.ownBlock.toList ++ [] ∨ j < w1.heap.size := fun j hj => .inl (by simp [hj])
  generalize v4.ownBlock.toList ++ [] = P at *
  clear ho4
  have hl4 : bytesL (encR pvF) := by
    unfold bytesL
    decide +kernel
  obtain ⟨A4, c4, rfl, -⟩ := hs4.at_
  have hs := Lib.hid hs4
  clear hs4
  go_wp2_with fail
  refine (A.sendB h).mono ?_
  rintro _ u1 ⟨x1, rfl, hx, h', b'⟩
  replace b := b.trans (b'.b.mono hB1)
  have hs := Lib.hid (b'.sees hs.out hj)
  replace h : Nd NAt w1.heap.size P _ g pv1 := h'
  obtain ⟨A1, c1', rfl, -⟩ := hx.at_
  clear h' b' hx
  have hT := fun W (h : Nd NAt w1.heap.size P W g pv1) (hs : SeesL W W.heap.size (.slice A4 (encR pvF).length c4) (encR pvF)) => Lib.hid (A.takeB ⟨2, 0, encR pvF, [], 0⟩ h hs hl4 SeesL.nil (fun x hx => by simp at hx) a2.1 a2.2.1 a2.2.2 (by show _ ≤ (0 : Int) ∧ (0 : Int) ≤ _; omega))
  go_wp2_with fail
  refine (hT _ h hs.out).out.mono ?_
  rintro _ u2 ⟨rfl, h', b'⟩
  replace b := b.trans (b'.b.mono hB1)
  replace h : Nd NAt w1.heap.size P _ g pv := h'
  clear h' b' hs hT
  go_wp2_with fail
  refine (A.stateB h).mono ?_
  rintro _ u1 ⟨rfl, h', b'⟩
  replace b := b.trans (b'.b.mono hB1)
  replace h : Nd NAt w1.heap.size P _ g pv := h'
  clear h' b' 
  rw [a3]
  go_wp2
  go_ret
  exact ⟨g, rfl, (Nd.few h).mono hB1, b⟩

/-! ### Steps of the model. -/
theorem NM.goOn_mid (s : NM) (h : nxS s.t.ns.length s.sl ≠ 0) : s.goOn = { s with rd := nxR s.t.ns.length s.rd s.sl, sl := (nxS s.t.ns.length s.sl).toNat, se := false } := by
  unfold NM.goOn
  exact if_pos h
theorem NM.goOn_took (s : NM) (ty : TS) (so : MS) (ck : List Int) (h : nxS s.t.ns.length s.sl ≠ 0) : (s.took ty so ck).goOn = { s.took ty so ck with rd := nxR s.t.ns.length s.rd s.sl, sl := (nxS s.t.ns.length s.sl).toNat, se := false } := NM.goOn_mid (s.took ty so ck) h
theorem NM.take_right (s : NM) (h : Hd) (l : List Int) (h1 : s.st ≠ 0 ∧ s.st ≠ 5 ∧ s.st ≠ 1) (h2 : s.sl ≠ s.i) (hr : s.rightL h = some l) : s.take h = (s.took (s.ty.right s.sl) (s.so.put s.sl (Fr.res l s.own).d) (s.meas s.sl h.o)).goOn := by
  unfold NM.take
  rw [if_neg (by omega), if_neg h1.2.2, if_neg h2, hr]
theorem NM.take_wrong (s : NM) (h : Hd) (h1 : s.st ≠ 0 ∧ s.st ≠ 5 ∧ s.st ≠ 1) (h2 : s.sl ≠ s.i) (hr : s.rightL h = none) (hn : ¬ (h.a = 0 ∧ h.b = 0)) : s.take h = (s.took (s.ty.wrong s.sl) s.so s.ck).goOn := by
  unfold NM.take
  rw [if_neg (by omega), if_neg h1.2.2, if_neg h2, hr]
  exact if_neg hn
theorem NM.take_miss (s : NM) (h : Hd) (h1 : s.st ≠ 0 ∧ s.st ≠ 5 ∧ s.st ≠ 1) (h2 : s.sl ≠ s.i) (hr : s.rightL h = none) (hn : h.a = 0 ∧ h.b = 0) : s.take h = (s.took (s.ty.miss s.sl) s.so s.ck).goOn := by
  unfold NM.take
  rw [if_neg (by omega), if_neg h1.2.2, if_neg h2, hr]
  exact if_pos hn
end Go.Proofs.YtfakibajipmkjaaGreat

/-! ### NdBase -/
namespace Go.Proofs.YtfakibajipmkjaaGreat
theorem ndBase : True := trivial
end Go.Proofs.YtfakibajipmkjaaGreat
