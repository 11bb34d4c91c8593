/- Texts RfS, RfN, Rf6, TbQ, RlO, NpM, Acts4O, NpO in one. For what each says in front of its theorems. -/
import Derived.Deep.RegionHeld3
import Derived.RegionTactic
import Derived.Laws.MakeOwn
import Derived.ProofKit
import Derived.OpenShut
import Derived.Deep.Slices
import Derived.Lib.SmallJoins
import Derived.Test.YtpdenmcacaajkaaGreatPB1
import Derived.Test.YtpdenmcacaajkaaGreatPB6
import Derived.Test.YtpdenmcacaajkaaGreatPB7
import Derived.Test.YtpdenmcacaajkaaGreatPB13
import Derived.Test.YtpdenmcacaajkaaGreatPB14
import Derived.Test.YtpdenmcacaajkaaGreatPB17
import Derived.Test.YtpdenmcacaajkaaGreatPB31
import Derived.Test.YtpdenmcacaajkaaGreatPB32
import Derived.Test.YtpdenmcacaajkaaGreatPB33
/-! ### RfS -/
namespace Go.Proofs.YtpdenmcacaajkaaGreat
open Go.RowKit

/-- A store in memory. -/
def SRt (G : Nat → Prop) (F : List Nat) (W : World) (g : Nat) (s : MS) : Prop := (∃ V, Blk W g (stc V s.a s.g) 132 ∧ ∀ i, i < 8 → DatG G F W (V i) (s.d i)) ∧ s.ok
section
variable {G : Nat → Prop} {F : List Nat} {W W' : World} {g g' : Nat} {s s' : MS}
theorem SRt.lt (h : SRt G F W g s) : g < W.heap.size := by
  obtain ⟨⟨V, hB, -⟩, -⟩ := h
  exact hB.lt
theorem SRt.only (h : SRt G F W g s) (k : Only g' W W') (hne : g ≠ g') (hF : g' ∈ F) : SRt G F W' g s := by
  obtain ⟨⟨V, hB, hD⟩, hk⟩ := h
  exact ⟨⟨V, hB.only k hne, fun i hi => (hD i hi).keep (k.kp hF)⟩, hk⟩
theorem SRt.below (h : SRt G F W g s) (k : Below W.heap.size W W') : SRt G F W' g s := by
  obtain ⟨⟨V, hB, hD⟩, hk⟩ := h
  exact ⟨⟨V, hB.below k hB.lt, fun i hi => (hD i hi).keep (kp_below k)⟩, hk⟩
theorem SRt.alike (h : SRt G F W g s) (hd : ∀ i, i < 8 → s.d i = s'.d i) (ha : ∀ i, i < 8 → s.a i = s'.a i) (hg : ∀ i, i < 8 → s.g i = s'.g i) : SRt G F W g s' := by
  obtain ⟨⟨V, hB, hD⟩, hk⟩ := h
  refine ⟨⟨V, hB.eq (stc_alike (fun _ _ => rfl) ha hg), fun i hi => hd i hi ▸ hD i hi⟩, ⟨fun i hi => hd i hi ▸ hk.len i hi, fun i hi => hd i hi ▸ hk.byt i hi, fun i hi => ha i hi ▸ hk.lo i hi, fun i hi => ha i hi ▸ hk.hi i hi⟩⟩
theorem SRt.cd (h : SRt G F W g s) {i : Nat} (hi : i < 8) : ∃ v, W.cell? ⟨g, i * 3, none⟩ = some v ∧ DatG G F W v (s.d i) := by
  obtain ⟨⟨V, hB, hD⟩, -⟩ := h
  exact ⟨V i, hB.cell _ (stc_d _ _ _ hi), hD i hi⟩
theorem SRt.cs (h : SRt G F W g s) {i : Nat} (hi : i < 8) : ∃ A c, W.cell? ⟨g, i * 3, none⟩ = some (.slice A (s.d i).length c) ∧ DatG G F W (.slice A (s.d i).length c) (s.d i) := by
  obtain ⟨v, h1, h2⟩ := h.cd hi
  obtain ⟨A, c, rfl, -⟩ := h2.1.1.at_
  exact ⟨A, c, h1, h2⟩
theorem SRt.ca (h : SRt G F W g s) {i : Nat} (hi : i < 8) : W.cell? ⟨g, i * 3 + 1, none⟩ = some (.int .i64 (s.a i)) := by
  obtain ⟨⟨V, hB, hD⟩, -⟩ := h
  exact hB.cell _ (stc_a _ _ _ hi)
theorem SRt.cg (h : SRt G F W g s) {i : Nat} (hi : i < 8) : W.cell? ⟨g, i * 3 + 2, none⟩ = some (.bool (s.g i)) := by
  obtain ⟨⟨V, hB, hD⟩, -⟩ := h
  exact hB.cell _ (stc_g _ _ _ hi)
theorem SRt.frozen (h : SRt G F W g s) (o : Nat) : W.frozen? ⟨g, o, none⟩ = false := by
  obtain ⟨⟨V, hB, hD⟩, -⟩ := h
  exact hB.frozen _
theorem SRt.refit {F' : List Nat} (h : SRt G F W g s) (hs : ∀ i, i < 8 → s.d i = []) : SRt G F' W g s := by
  obtain ⟨⟨V, hB, hD⟩, hk⟩ := h
  exact ⟨⟨V, hB, fun i hi => ⟨⟨(hD i hi).1.1, fun _ _ hl => absurd (hs i hi) hl⟩, (hD i hi).2⟩⟩, hk⟩
theorem SRt.drew (h : SRt G F W g s) : SRt G F W.drew g s := h.below (Below.refl _ W).drew
theorem SRt.setd (h : SRt G F W g s) (hg : g ∈ F) {i : Nat} (hi : i < 8) {v : Value} {l : List Int} (hv : DatG G F W v l) (hl : l.length ≤ 8) (hb : bytesL l) : SRt G F (W.setCell ⟨g, i * 3, none⟩ v) g { s with d := upd s.d i l } := by
  obtain ⟨⟨V, hB, hD⟩, hk⟩ := h
  have hkp : Kp F W (W.setCell ⟨g, i * 3, none⟩ v) := ((Only.refl g W).set _ _).kp hg
  refine ⟨⟨upd V i v, (hB.set _ _).eq (set_d _ _ _ hi _), fun j hj => ?_⟩, ⟨fun j hj => ?_, fun j hj => ?_, hk.lo, hk.hi⟩⟩ <;> simp only [upd] <;> split
  · exact hv.keep hkp
  · exact (hD j hj).keep hkp
  · exact hl
  · exact hk.len j hj
  · exact hb
  · exact hk.byt j hj
theorem SRt.seta (h : SRt G F W g s) (hg : g ∈ F) {i : Nat} (hi : i < 8) (a : Int) (hl : -1 ≤ a) (hh : a ≤ 65535) : SRt G F (W.setCell ⟨g, i * 3 + 1, none⟩ (.int .i64 a)) g { s with a := upd s.a i a } := by
  obtain ⟨⟨V, hB, hD⟩, hk⟩ := h
  have hkp : Kp F W (W.setCell ⟨g, i * 3 + 1, none⟩ (.int .i64 a)) := ((Only.refl g W).set _ _).kp hg
  refine ⟨⟨V, (hB.set _ _).eq (set_a _ _ _ hi _), fun j hj => (hD j hj).keep hkp⟩, ⟨hk.len, hk.byt, fun j hj => ?_, fun j hj => ?_⟩⟩ <;> simp only [upd] <;> split
  · exact hl
  · exact hk.lo j hj
  · exact hh
  · exact hk.hi j hj
theorem SRt.setg (h : SRt G F W g s) (hg : g ∈ F) {i : Nat} (hi : i < 8) (b : Bool) : SRt G F (W.setCell ⟨g, i * 3 + 2, none⟩ (.bool b)) g { s with g := upd s.g i b } := by
  obtain ⟨⟨V, hB, hD⟩, hk⟩ := h
  have hkp : Kp F W (W.setCell ⟨g, i * 3 + 2, none⟩ (.bool b)) := ((Only.refl g W).set _ _).kp hg
  exact ⟨⟨V, (hB.set _ _).eq (set_g _ _ _ hi _), fun j hj => (hD j hj).keep hkp⟩, ⟨hk.len, hk.byt, hk.lo, hk.hi⟩⟩
end
theorem SRt.mono {G G' : Nat → Prop} {F : List Nat} {W : World} {g : Nat} {s : MS} (h : SRt G F W g s) (hG : ∀ b, G b → G' b) : SRt G' F W g s := by
  obtain ⟨⟨V, hB, hD⟩, hk⟩ := h
  exact ⟨⟨V, hB, fun i hi => ⟨(hD i hi).1, fun h0 b hb => hG b ((hD i hi).2 h0 b hb)⟩⟩, hk⟩
set_option maxRecDepth 100000 in
set_option maxHeartbeats 1000000 in
theorem member_rs (G : Nat → Prop) (F : List Nat) (g : Nat) (s : MS) (n : Int) (b : Bool) (w : World) (h : SRt G F w g s) (hg : g ∈ F) :
    Calls Tryz.prog 91 #[.pointer (some ⟨g, 0, none⟩), .int .i64 n, .bool b] w fun e w' => e = .returned (.tuple #[]) ∧ SRt G F w' g (s.member n b) ∧ Only g w w' := by
  have HN := fun W => Lib.hid (node_rf n W)
  by_cases hn : isN n
  · rw [decide_eq_true hn] at HN
    rw [show s.member n b = { s with g := upd s.g n.toNat b } by unfold MS.member; rw [if_pos hn]]
    unfold isN at hn
    obtain ⟨i, rfl⟩ : ∃ i : Nat, n = i := ⟨n.toNat, by omega⟩
    have hi : i < 8 := by omega
    rw [Int.toNat_natCast]
    have c := SRt.cg h hi
    have f := SRt.frozen h (i * 3 + 2)
    have H := Lib.hid (SRt.setg h hg hi b)
    clear h
    go_enter Tryz.func91, Tryz.ntmps91
    go_wp2_with fail
    refine (HN _).out.mono ?_
    rintro _ _ ⟨rfl, rfl⟩
    go_wp2
    exact bodyPost_end (results_none (by rfl) _ _ _) rfl ⟨rfl, H.out, (Only.refl g _).set _ _⟩
  · rw [decide_eq_false hn] at HN
    rw [show s.member n b = s by unfold MS.member; rw [if_neg hn]]
    go_enter Tryz.func91, Tryz.ntmps91
    go_wp2_with fail
    refine (HN _).out.mono ?_
    rintro _ _ ⟨rfl, rfl⟩
    go_wp2
    exact bodyPost_end (results_none (by rfl) _ _ _) rfl ⟨rfl, h, Only.refl _ _⟩

set_option maxRecDepth 100000 in
set_option maxHeartbeats 2000000 in
theorem clear_rs (G : Nat → Prop) (F : List Nat) (g : Nat) (s : MS) (w : World) (h : SRt G F w g s) (hg : g ∈ F) :
    Calls Tryz.prog 62 #[.pointer (some ⟨g, 0, none⟩)] w fun e w' => e = .returned (.tuple #[]) ∧ SRt G F w' g MS.new ∧ Only g w w' := by
  go_enter Tryz.func62, Tryz.ntmps62
  go_wp2_with fail
  go_loopw [2] (fun i wr => ∃ k : Nat, k ≤ 8 ∧ i = .int .i64 k ∧ SRt G F wr g (s.clr k) ∧ Only g w wr) (fun i _ => 8 - (intOf i).toNat)
  case atStart => exact ⟨0, by omega, rfl, SRt.alike h (fun _ _ => rfl) (fun _ _ => rfl) (fun _ _ => rfl), Only.refl _ _⟩
  case round =>
    clear h
    obtain ⟨k, hk, rfl, h, o⟩ := hrel
    by_cases hlt : k < 8
    · have r1 : decide ((k : Int) < 8) = true := decide_eq_true (by omega)
      obtain ⟨v, c0, -⟩ := SRt.cd h hlt
      have c1 := SRt.ca h hlt
      have c2 := SRt.cg h hlt
      have f0 := SRt.frozen h (k * 3)
      have f1 := SRt.frozen h (k * 3 + 1)
      have f2 := SRt.frozen h (k * 3 + 2)
      have H := Lib.hid (SRt.alike (SRt.setg (SRt.seta (SRt.setd h hg hlt DatG.nil (by simp) (fun x hx => by simp at hx)) hg hlt (-1) (by omega) (by omega)) hg hlt false) (s' := s.clr (k + 1)) (fun i _ => (clr_step s k).1 i) (fun i _ => (clr_step s k).2.1 i) (fun i _ => (clr_step s k).2.2 i))
      clear h
      go_wp2
      go_roundw
      case rel => exact ⟨k + 1, by omega, by go_num, H.out, ((o.set _ _).set _ _).set _ _⟩
      case measure => simp [intOf]; omega
    · obtain rfl : k = 8 := by omega
      go_wp2
      exact bodyPost_end (results_none (by rfl) _ _ _) rfl ⟨rfl, SRt.alike h (fun i hi => by simp [MS.clr, MS.new, hi]) (fun i hi => by simp [MS.clr, MS.new, hi]) (fun i hi => by simp [MS.clr, MS.new, hi]), o⟩
set_option maxRecDepth 100000 in
set_option maxHeartbeats 2000000 in
theorem age_rs (G : Nat → Prop) (F : List Nat) (g : Nat) (s : MS) (w : World) (h : SRt G F w g s) (hg : g ∈ F) :
    Calls Tryz.prog 134 #[.pointer (some ⟨g, 0, none⟩)] w fun e w' => e = .returned (.tuple #[]) ∧ SRt G F w' g s.age ∧ Only g w w' := by
  have hok := h.2
  go_enter Tryz.func134, Tryz.ntmps134
  go_wp2_with fail
  go_loopw [2] (fun i wr => ∃ k : Nat, k ≤ 8 ∧ i = .int .i64 k ∧ SRt G F wr g (s.agd k) ∧ Only g w wr) (fun i _ => 8 - (intOf i).toNat)
  case atStart => exact ⟨0, by omega, rfl, SRt.alike h (fun _ _ => rfl) (fun _ _ => rfl) (fun _ _ => rfl), Only.refl _ _⟩
  case round =>
    clear h
    obtain ⟨k, hk, rfl, h, o⟩ := hrel
    by_cases hlt : k < 8
    · have r1 : decide ((k : Int) < 8) = true := decide_eq_true (by omega)
      have c1 := SRt.ca h hlt
      have f1 := SRt.frozen h (k * 3 + 1)
      have e1 : (s.agd k).a k = s.a k := by simp [MS.agd]
      rw [e1] at c1
      have l1 := hok.lo k hlt
      have l2 := hok.hi k hlt
      obtain ⟨p1, p2⟩ := older_ok l1 l2
      have H := Lib.hid (SRt.alike (SRt.seta h hg hlt (older (s.a k)) p1 p2) (s' := s.agd (k + 1)) (fun i _ => rfl) (fun i _ => agd_step s k i) (fun i _ => rfl))
      by_cases hpos : 0 ≤ s.a k
      · have q2 : decide ((0 : Int) ≤ s.a k) = true := decide_eq_true hpos
        have e2 : older (s.a k) = if 65535 < s.a k + 1 then 65535 else s.a k + 1 := by unfold older; rw [if_pos hpos]; split <;> omega
        rw [e2] at H
        clear h e1 e2 p1 p2
        generalize s.a k = x at *
        go_wp2_with fail
        go_region
        all_goals
          go_wp2
          go_roundw
          case rel => exact ⟨k + 1, by omega, by go_num, SRt.drew H.out, (o.set _ _).drew⟩
          case measure => simp [intOf]; omega
      · have q2 : decide ((0 : Int) ≤ s.a k) = false := decide_eq_false hpos
        have e2 : s.agd (k + 1) = s.agd k := by
          unfold MS.agd
          congr 1
          funext i
          rcases lt_or_eq_or i k with h | h | h
          · rw [if_pos (by omega), if_pos (by omega)]
          · subst h; rw [if_pos (by omega), if_neg (by omega)]; unfold older; rw [if_neg hpos]
          · rw [if_neg (by omega), if_neg (by omega)]
        clear H e1 p1 p2
        go_wp2
        go_roundw
        case rel => exact ⟨k + 1, by omega, by go_num, e2 ▸ h, o⟩
        case measure => simp [intOf]; omega
    · obtain rfl : k = 8 := by omega
      go_wp2
      exact bodyPost_end (results_none (by rfl) _ _ _) rfl ⟨rfl, SRt.alike h (fun i hi => rfl) (fun i hi => by simp [MS.agd, MS.age, hi]) (fun i hi => rfl), o⟩
set_option maxRecDepth 100000 in
set_option maxHeartbeats 2000000 in
theorem new_rs (G : Nat → Prop) (w : World) :
    Calls Tryz.prog 24 #[] w fun e w' => ∃ g, e = .returned (.pointer (some ⟨g, 0, none⟩)) ∧ w.heap.size ≤ g ∧ (∀ F, SRt G F w' g MS.new) ∧ Below w.heap.size w w' := by
  have H0 : Hid (SRt G [w.heap.size] (w.alloc (.cells (stc (fun _ => .slice none 0 0) (fun _ => 0) (fun _ => false)) 132)) w.heap.size ⟨fun _ => [], fun _ => 0, fun _ => false⟩) := Lib.hid ⟨⟨_, Blk.new _ _ rfl _ _, fun _ _ => DatG.nil⟩, ⟨fun _ _ => by simp, fun _ _ x hx => by simp at hx, fun _ _ => by simp, fun _ _ => by simp⟩⟩
  have HC := fun W (h : SRt G [w.heap.size] W w.heap.size ⟨fun _ => [], fun _ => 0, fun _ => false⟩) => Lib.hid (clear_rs G [w.heap.size] w.heap.size _ W h (by simp))
  have hb := (Below.refl w.heap.size w).alloc (Nat.le_refl _) (.cells (stc (fun _ => .slice none 0 0) (fun _ => 0) (fun _ => false)) 132)
  have hz : (w.alloc (.cells (stc (fun _ => .slice none 0 0) (fun _ => 0) (fun _ => false)) 132)).heap.size = w.heap.size + 1 := by simp
  unfold stc at H0 hb hz
  go_enter Tryz.func24, Tryz.ntmps24
  go_wp2_with fail
  refine (HC _ H0.out).out.mono ?_
  rintro _ w2 ⟨rfl, h2, o2⟩
  have hb2 := hb.trans (o2.below (Nat.le_refl _) (by rw [hz]; omega))
  go_wp2
  go_ret
  exact ⟨_, rfl, Nat.le_refl _, fun F => SRt.refit h2 (fun i _ => rfl), hb2⟩
set_option maxRecDepth 100000 in
set_option maxHeartbeats 2000000 in
theorem get_rs (G : Nat → Prop) (F : List Nat) (g : Nat) (s : MS) (n : Int) (w : World) (h : SRt G F w g s) :
    Calls Tryz.prog 44 #[.pointer (some ⟨g, 0, none⟩), .int .i64 n] w fun e w' => ∃ v, e = .returned (.agg #[v, .int .i64 (s.ga n), .bool (s.gg n)]) ∧ SeesL w' w'.heap.size v (s.gd n) ∧ Below w.heap.size w w' := by
  have HN := fun W => Lib.hid (node_rf n W)
  by_cases hn : isN n
  · rw [decide_eq_true hn] at HN
    rw [show s.ga n = s.a n.toNat by unfold MS.ga; rw [if_pos hn], show s.gg n = s.g n.toNat by unfold MS.gg; rw [if_pos hn], show s.gd n = s.d n.toNat by unfold MS.gd; rw [if_pos hn]]
    unfold isN at hn
    obtain ⟨i, rfl⟩ : ∃ i : Nat, n = i := ⟨n.toNat, by omega⟩
    have hi : i < 8 := by omega
    rw [Int.toNat_natCast]
    have hgl := SRt.lt h
    obtain ⟨A, c, c0, hD⟩ := SRt.cs h hi
    have c1 := SRt.ca h hi
    have c2 := SRt.cg h hi
    have HD := Lib.hid hD
    clear hD
    clear h
    go_enter Tryz.func44, Tryz.ntmps44
    go_wp2_with fail
    refine (HN _).out.mono ?_
    rintro _ w1 ⟨rfl, rfl⟩
    go_wp2
    refine bodyPost_ret (v := .agg #[.slice A (s.d i).length c, .int .i64 (s.a i), .bool (s.g i)]) ?_ rfl ?_
    · rw [results_cell rfl]
      go_simp
    · refine ⟨_, rfl, both_below HD.out.1 ?_⟩
      (repeat' (first | exact Below.refl _ _ | exact Nat.le_refl _ | (with_reducible refine Below.setCell ?_ ?_ _) | (with_reducible refine Below.alloc ?_ (Nat.le_refl _) _) | (with_reducible refine below_drewN ?_ _) | (with_reducible refine Below.drew ?_)))
  · rw [decide_eq_false hn] at HN
    rw [show s.ga n = -1 by unfold MS.ga; rw [if_neg hn], show s.gg n = false by unfold MS.gg; rw [if_neg hn], show s.gd n = [] by unfold MS.gd; rw [if_neg hn]]
    clear h
    go_enter Tryz.func44, Tryz.ntmps44
    go_wp2_with fail
    refine (HN _).out.mono ?_
    rintro _ w1 ⟨rfl, rfl⟩
    go_wp2
    refine bodyPost_ret (v := .agg #[.slice none 0 0, .int .i64 (-1), .bool false]) ?_ rfl ?_
    · rw [results_cell rfl]
      go_simp
    · refine ⟨_, rfl, both_below (F := []) Dat.nil ?_⟩
      (repeat' (first | exact Below.refl _ _ | exact Nat.le_refl _ | (with_reducible refine Below.setCell ?_ ?_ _) | (with_reducible refine Below.alloc ?_ (Nat.le_refl _) _) | (with_reducible refine below_drewN ?_ _) | (with_reducible refine Below.drew ?_)))
set_option maxRecDepth 100000 in
set_option maxHeartbeats 2000000 in
theorem put_rs (G : Nat → Prop) (F : List Nat) (g : Nat) (s : MS) (n : Int) (v : Value) (l : List Int) (B : Nat) (w : World) (h : SRt G F w g s) (hg : g ∈ F) (hF : ∀ f, f ∈ F → f < w.heap.size) (hGn : ∀ b, w.heap.size ≤ b → G b) (hv : SeesL w B v l) (hl : bytesL l) :
    Calls Tryz.prog 88 #[.pointer (some ⟨g, 0, none⟩), .int .i64 n, v] w fun e w' => e = .returned (.tuple #[]) ∧ SRt G F w' g (s.put n l) ∧ Only g w w' := by
  have HN := fun W => Lib.hid (node_rf n W)
  obtain ⟨A, c, rfl, v1, v2, v3, v4⟩ := hv.at_
  unfold maxLen at v2
  by_cases hn : isN n
  case neg =>
    rw [decide_eq_false hn] at HN
    rw [show s.put n l = s by unfold MS.put; rw [if_neg (fun h => hn h.1)]]
    clear v3 v4
    go_enter Tryz.func88, Tryz.ntmps88
    go_wp2_with fail
    refine (HN _).out.mono ?_
    rintro _ _ ⟨rfl, rfl⟩
    go_wp2
    exact bodyPost_end (results_none (by rfl) _ _ _) rfl ⟨rfl, h, Only.refl _ _⟩
  rw [decide_eq_true hn] at HN
  by_cases h8 : l.length ≤ 8
  case neg =>
    have q8 : decide (((l.length : Nat) : Int) ≤ 8) = false := decide_eq_false (by omega)
    rw [show s.put n l = s by unfold MS.put; rw [if_neg (fun h => h8 h.2)]]
    clear v3 v4
    go_enter Tryz.func88, Tryz.ntmps88
    go_wp2_with fail
    refine (HN _).out.mono ?_
    rintro _ _ ⟨rfl, rfl⟩
    go_wp2
    exact bodyPost_end (results_none (by rfl) _ _ _) rfl ⟨rfl, h, Only.refl _ _⟩
  have q8 : decide (((l.length : Nat) : Int) ≤ 8) = true := decide_eq_true (by omega)
  rw [show s.put n l = ⟨upd s.d n.toNat l, upd s.a n.toNat 0, s.g⟩ by unfold MS.put; rw [if_pos ⟨hn, h8⟩]]
  unfold isN at hn
  obtain ⟨i, rfl⟩ : ∃ i : Nat, n = i := ⟨n.toNat, by omega⟩
  have hi : i < 8 := by omega
  rw [Int.toNat_natCast]
  have hv := Lib.hid hv
  clear v3 v4
  go_enter Tryz.func88, Tryz.ntmps88
  go_wp2_with fail
  refine (HN _).out.mono ?_
  rintro _ w1 ⟨rfl, rfl⟩
  go_wp2_with fail
  go_region_law (first
    | ((refine step_pushL _ rfl (.tmp 17) (.tmp 18) 37 rfl w1.heap.size infoU8 Tryz.underlying37 (.slice (some ⟨w1.heap.size, 0, none⟩) 0 0) [] ?_ rfl B (.slice A l.length c) l rfl ?_ ?_ ?_ ?_); (focus (exact (owns_empty _ _ rfl _ _ (Nat.le_refl _) rfl).drew)); (focus (exact (hv.out.alloc _).drew)); (focus (simp)); (focus (simp; omega)); intro v2 w2 ho2 hx2; (have hb2 := (((Below.refl w1.heap.size w1).alloc (Nat.le_refl _) (.cells #[] 5)).drew).trans (hx2.toBelow (B := w1.heap.size) (by simp) (fun j hj => by cases hj; exact Nat.le_refl _))); (have hD2 : DatG G F w2 v2 l := ⟨OwnsL.dat (F := F) ho2 hF, fun _ b hb => hGn b (ho2.lt b hb).1⟩); (obtain ⟨A2, d2, rfl, -⟩ := hD2.1.1.at_); (have hE2 := Lib.hid hD2); clear hD2; (have h2 := SRt.below h hb2); (have cd2 := SRt.cd h2 hi); (have ca2 := SRt.ca h2 hi); (have f2 := SRt.frozen h2 (i * 3)); (have f2' := SRt.frozen h2 (i * 3 + 1)); (obtain ⟨u2, cu2, -⟩ := cd2); (have o2 := Lib.hid (only_of_below g hb2)); (have h2 := Lib.hid h2); clear hb2 hx2 ho2))
  all_goals exact bodyPost_end (results_none (by rfl) _ _ _) rfl ⟨rfl, SRt.seta (SRt.setd h2.out hg hi hE2.out h8 hl) hg hi 0 (by omega) (by omega), (o2.out.set _ _).set _ _⟩
end Go.Proofs.YtpdenmcacaajkaaGreat

/-! ### RfN -/
namespace Go.Proofs.YtpdenmcacaajkaaGreat
open Go.RowKit
open Tb (D T)

theorem in_r9 (n a b : Int) (w : World) : Calls Tryz.prog 60 #[.int .i64 n, .int .i64 a, .int .i64 b] w fun e w' => e = .returned (.bool (Tb.wi n a b)) ∧ w = w' := by
  unfold Tb.wi
  by_cases h : a ≤ n
  all_goals
    go_enter Tryz.func60, Tryz.ntmps60
    go_wp2
    go_ret
    exact ⟨by simp [*] <;> omega, rfl⟩
/-- Does a rule break off? -/
def mayB (q : R4) : Bool := Tb.wi q.n 0 7 && Tb.wi q.lo 0 255 && Tb.wi q.hi q.lo 255 && Tb.wi q.st 0 65535
theorem mayB_iff (q : R4) : mayB q = decide q.may := by
  have h : mayB q = true ↔ q.may := by
    unfold mayB R4.may
    simp only [Bool.and_eq_true, Tb.wi_iff, and_assoc]
  rw [Bool.eq_iff_iff, h]
  exact decide_eq_true_iff.symm
theorem run_make_rowN {P : Program} (t e : TypeId) (i : TypeInfo) (z : Value) (ht : P.underlying t = some (.slice e)) (hi : P.info? e = some i) (hz : i.zero = some z)
    (kl kc : IntKind) (n c : Nat) (hnc : n ≤ c) (hbytes : i.bytes * c ≤ 281474976710656) (h63 : c ≤ 9223372036854775807) (w : World) :
    (Instr.makeSlice t (.int kl (n : Int)) (.int kc (c : Int))).run P w = .ok (.slice (some ⟨w.heap.size, 0, none⟩) n c) (w.alloc (.cells (madeCells z.cells (c * i.size)) e)) := by
  have hb : (i.bytes : Int) * (c : Int) ≤ 281474976710656 := by
    have h : ((i.bytes * c : Nat) : Int) ≤ 281474976710656 := by omega
    rwa [Int.natCast_mul] at h
  have hr := run_make (P := P) w t e i z ht hi hz kl kc n c (by omega) (by omega) hb (by omega)
  simp only [Int.toNat_natCast] at hr
  exact hr
end Go.Proofs.YtpdenmcacaajkaaGreat

/-! ### Rf6 -/
namespace Go.Proofs.YtpdenmcacaajkaaGreat
open Go.RowKit
end Go.Proofs.YtpdenmcacaajkaaGreat

/-! ### TbQ -/
namespace Go.Proofs.YtpdenmcacaajkaaGreat
open Go.ChangeShapes Go.WideShapes Go.ChangeAt Go.RowKit Go.Joins Go.Deep
open Tb (D T)

def i64oq (x : Int) : Prop := -9223372036854775808 ≤ x ∧ x ≤ 9223372036854775807
/-- A state. -/
structure CSq where
  r : Int
  s : Int
  m : Int
structure InStateq (s : CSq) : Prop where
  hr : i64oq s.r
  hs : i64oq s.s
  hm : i64oq s.m
structure InTable (w : World) (t : T) (v : Value) : Prop where
  sees : SeesT w w.heap.size v t.ns
  hd : i64oq t.dr
  hw : i64oq t.wi
  hl : i64oq t.lm
section
variable {H : Type} {enc : TypeId × Value → H} {P : Program} {w : World} {base : Nat} {spare : Nat → Bool} {held : Bool}
end
end Go.Proofs.YtpdenmcacaajkaaGreat

/-! ### RlO -/
namespace Go.Proofs.YtpdenmcacaajkaaGreat
open Go.ChangeShapes Go.WideShapes Go.ChangeAt Go.RowKit Go.Joins Go.Deep

section
variable {H : Type} {enc : TypeId × Value → H} {P : Program} {w : World} {base : Nat} {spare : Nat → Bool} {held : Bool}
end
end Go.Proofs.YtpdenmcacaajkaaGreat

/-! ### NpM -/
namespace Go.Proofs.YtpdenmcacaajkaaGreat
open Go.RowKit
open Fr (St F)
/-- Behind k acts. -/
structure Bd (m : NM) (k : Nat) : Prop where
  a : m.ty.a ≤ k
  f : m.ty.f ≤ k
  t : -(2147483648 * ((k : Int) + 1)) ≤ m.tm ∧ m.tm ≤ 2147483648 * ((k : Int) + 1)
theorem TS.right_a (s : TS) (n : Int) : (s.right n).a ≤ s.a + 1 ∧ (s.right n).f = s.f := by
  unfold TS.right
  split <;> simp
theorem TS.miss_a (s : TS) (n : Int) : (s.miss n).a = s.a ∧ (s.miss n).f = s.f := by
  unfold TS.miss
  split <;> simp
theorem TS.wrong_a (s : TS) (n : Int) : (s.wrong n).a = s.a ∧ (s.wrong n).f ≤ s.f + 1 := by
  unfold TS.wrong
  split <;> simp
theorem TS.join_a (s : TS) (n : Int) : (s.join n).a = s.a ∧ (s.join n).f = s.f := by
  unfold TS.join
  split <;> simp
theorem goOn_bd {m : NM} (h : NJ m) : m.goOn.ty = m.ty ∧ m.tm - 2000 ≤ m.goOn.tm ∧ m.goOn.tm ≤ m.tm + 2000 := by
  rw [NM.goOn_eq]
  have hlm := h.may.lm
  have hd := h.dr
  have ht := termV_in m.t.lm m.ck (by omega)
  split
  · exact ⟨rfl, by show m.tm - 2000 ≤ m.tm; omega, by show m.tm ≤ m.tm + 2000; omega⟩
  · unfold NM.endR
    split
    · refine ⟨rfl, ?_, ?_⟩
      · show m.tm - 2000 ≤ m.tm + termV m.t.lm m.ck + m.dr; omega
      · show m.tm + termV m.t.lm m.ck + m.dr ≤ m.tm + 2000; omega
    · exact ⟨rfl, by show m.tm - 2000 ≤ m.tm; omega, by show m.tm ≤ m.tm + 2000; omega⟩
theorem enter_bd (m : NM) : m.enter.ty.a ≤ m.ty.a ∧ m.enter.ty.f ≤ m.ty.f ∧ m.enter.tm = m.tm := by
  unfold NM.enter
  repeat' split
  all_goals exact ⟨by first | exact Nat.le_refl _ | exact Nat.zero_le _, by first | exact Nat.le_refl _ | exact Nat.zero_le _, rfl⟩
theorem sendS_bd (m : NM) : m.sendS.ty.a ≤ m.ty.a ∧ m.sendS.ty.f ≤ m.ty.f ∧ m.sendS.tm = m.tm := by
  have he := enter_bd m
  unfold NM.sendS
  split
  · split
    · exact ⟨Nat.le_refl _, Nat.le_refl _, rfl⟩
    · have := TS.join_a ⟨0, 0, 0⟩ (m.i : Nat)
      exact ⟨by show ((⟨0, 0, 0⟩ : TS).join (m.i : Nat)).a ≤ _; rw [this.1]; exact Nat.zero_le _, by show ((⟨0, 0, 0⟩ : TS).join (m.i : Nat)).f ≤ _; rw [this.2]; exact Nat.zero_le _, rfl⟩
  · split
    · exact ⟨Nat.le_refl _, Nat.le_refl _, rfl⟩
    · split
      · exact he
      · exact ⟨Nat.zero_le _, Nat.zero_le _, he.2.2⟩
theorem take_bd {m : NM} (h : Hn) (hj : NJ m) (ho : -1073741824 ≤ h.o ∧ h.o ≤ 1073741824) (hjk : ∀ l, m.st = 1 → m.firstL h = some l → NJ (m.knows (Fr.res l NM.z3) h.o)) :
    (m.take h).ty.a ≤ m.ty.a + 1 ∧ (m.take h).ty.f ≤ m.ty.f + 1 ∧ m.tm - 1073743824 ≤ (m.take h).tm ∧ (m.take h).tm ≤ m.tm + 1073743824 := by
  have same : ∀ m2 : NM, NJ m2 → m2.ty.a ≤ m.ty.a + 1 → m2.ty.f ≤ m.ty.f + 1 → m.tm - 1073741824 ≤ m2.tm → m2.tm ≤ m.tm + 1073741824 → m2.goOn.ty.a ≤ m.ty.a + 1 ∧ m2.goOn.ty.f ≤ m.ty.f + 1 ∧ m.tm - 1073743824 ≤ m2.goOn.tm ∧ m2.goOn.tm ≤ m.tm + 1073743824 := fun m2 j2 a1 a2 t1 t2 => by
    obtain ⟨e, g1, g2⟩ := goOn_bd j2
    rw [e]
    exact ⟨a1, a2, by omega, by omega⟩
  unfold NM.take
  by_cases hoff : m.st = 0 ∨ m.st = 5
  · rw [if_pos hoff]; exact ⟨by omega, by omega, by omega, by omega⟩
  rw [if_neg hoff]
  by_cases h1 : m.st = 1
  · rw [if_pos h1]
    rcases hl : m.firstL h with _ | l
    · simp only
      split
      · exact ⟨by show m.ty.a ≤ _; omega, by show m.ty.f ≤ _; omega, by show _ ≤ m.tm; omega, by show m.tm ≤ _; omega⟩
      · exact ⟨by omega, by omega, by omega, by omega⟩
    · simp only
      have r := TS.right_a ⟨((Fr.res l NM.z3).st.m % 256).toNat, 0, 0⟩ (Fr.res l NM.z3).st.s
      have r1 : (m.knows (Fr.res l NM.z3) h.o).ty.a ≤ 0 + 1 := r.1
      have r2 : (m.knows (Fr.res l NM.z3) h.o).ty.f = 0 := r.2
      have r3 : (m.knows (Fr.res l NM.z3) h.o).tm = m.tm + h.o := rfl
      exact same _ (hjk l h1 hl) (by omega) (by omega) (by rw [r3]; omega) (by rw [r3]; omega)
  rw [if_neg h1]
  by_cases hs : m.sl = m.i
  · rw [if_pos hs]
    refine same _ (hj.ck_ _ ?_) (by show m.ty.a ≤ _; omega) (by show m.ty.f ≤ _; omega) (by show _ ≤ m.tm; omega) (by show m.tm ≤ _; omega)
    split
    · unfold NM.meas
      split
      · exact hj.ck.keep4_ (by omega)
      · exact hj.ck
    · exact hj.ck
  rw [if_neg hs]
  rcases hl : m.rightL h with _ | l
  · simp only
    split
    · have r := TS.miss_a m.ty (m.sl : Nat)
      exact same _ (hj.took _ _ _ hj.ck) (by show (m.ty.miss _).a ≤ _; omega) (by show (m.ty.miss _).f ≤ _; omega) (by show _ ≤ m.tm; omega) (by show m.tm ≤ _; omega)
    · have r := TS.wrong_a m.ty (m.sl : Nat)
      exact same _ (hj.took _ _ _ hj.ck) (by show (m.ty.wrong _).a ≤ _; omega) (by show (m.ty.wrong _).f ≤ _; omega) (by show _ ≤ m.tm; omega) (by show m.tm ≤ _; omega)
  · simp only
    have r := TS.right_a m.ty (m.sl : Nat)
    refine same _ (hj.took _ _ _ ?_) (by show (m.ty.right _).a ≤ _; omega) (by show (m.ty.right _).f ≤ _; omega) (by show _ ≤ m.tm; omega) (by show m.tm ≤ _; omega)
    unfold NM.meas
    split
    · exact hj.ck.keep4_ (by omega)
    · exact hj.ck
/-- What it knows then may be. -/
theorem knows_nj {m : NM} {h : Hn} {l : List Int} (hj : NJ m) (hl : m.firstL h = some l) : NJ (m.knows (Fr.res l NM.z3) h.o) := by
  have htl : m.tells l := by
    have := List.find?_some hl
    exact of_decide_eq_true this
  obtain ⟨he, hk1, hs1, hs2⟩ := htl
  have hrm := (St.may_iff _).1 (res_may he)
  exact hj.knows (Fr.res l NM.z3) h.o hrm.1 ⟨hrm.2.1.1, hs1⟩
theorem Bd.sendS {m : NM} {k : Nat} (h : Bd m k) : Bd m.sendS k := by
  obtain ⟨h1, h2, h3⟩ := sendS_bd m
  exact ⟨Nat.le_trans h1 h.a, Nat.le_trans h2 h.f, by rw [h3]; exact h.t⟩
theorem Bd.take {m : NM} {k : Nat} (h : Bd m k) (hd : Hn) (hj : NJ m) (ho : -1073741824 ≤ hd.o ∧ hd.o ≤ 1073741824) : Bd (m.take hd) (k + 1) := by
  obtain ⟨h1, h2, h3, h4⟩ := take_bd hd hj ho (fun l _ hl => knows_nj hj hl)
  have := h.a
  have := h.f
  have := h.t
  exact ⟨by omega, by omega, by constructor <;> omega⟩
theorem Bd.on {m : NM} {k : Nat} (h : Bd m k) (a : Int) : Bd (m.on a) (k + 1) := by
  have := h.a
  have := h.f
  have := h.t
  unfold NM.on
  split
  · rename_i he
    have ha : -1000 ≤ a ∧ a ≤ 1000 := by
      unfold NM.onE at he
      split at he
      · omega
      · omega
    exact ⟨Nat.zero_le _, Nat.zero_le _, by show -(2147483648 * (((k + 1 : Nat) : Int) + 1)) ≤ a ∧ a ≤ 2147483648 * (((k + 1 : Nat) : Int) + 1); constructor <;> omega⟩
  · exact ⟨by omega, by omega, by constructor <;> omega⟩
theorem Bd.off {m : NM} {k : Nat} (h : Bd m k) : Bd m.off (k + 1) := by
  have := h.t
  exact ⟨Nat.zero_le _, Nat.zero_le _, by show -(2147483648 * (((k + 1 : Nat) : Int) + 1)) ≤ m.tm ∧ m.tm ≤ 2147483648 * (((k + 1 : Nat) : Int) + 1); constructor <;> omega⟩
theorem Bd.more {m m' : NM} {k : Nat} (h : Bd m k) (e1 : m'.ty = m.ty) (e2 : m'.tm = m.tm) : Bd m' (k + 1) := by
  have := h.a
  have := h.f
  have := h.t
  exact ⟨by rw [e1]; omega, by rw [e1]; omega, by rw [e2]; constructor <;> omega⟩
theorem Bd.write {m : NM} {k : Nat} (h : Bd m k) (l : List Int) : Bd (m.write l) (k + 1) := by
  unfold NM.write
  split
  · exact h.more rfl rfl
  · exact h.more rfl rfl
end Go.Proofs.YtpdenmcacaajkaaGreat

/-! ### Acts4O -/
namespace Go.Proofs.YtpdenmcacaajkaaGreat
open Go.ChangeShapes Go.WideShapes Go.ChangeAt Go.RowKit Go.Joins Go.Deep

structure A4 where
  k : Int
  n : Int
  A : Option Addr
  c : Nat
  l : List Int
  q : Bool
  deriving Inhabited
/-- The cells of one, and its bytes. -/
structure A4At (w : World) (b off : Nat) (x : A4) : Prop where
  c0 : w.cell? ⟨b, off, none⟩ = some (.int .i64 x.k)
  c1 : w.cell? ⟨b, off + 1, none⟩ = some (.int .i64 x.n)
  c2 : w.cell? ⟨b, off + 2, none⟩ = some (.slice x.A x.l.length x.c)
  c3 : w.cell? ⟨b, off + 3, none⟩ = some (.bool x.q)
structure InA4 (w : World) (v : Value) (n : Nat) (f : Nat → A4) : Prop where
  at_ : ∃ A c, v = .slice A n c ∧ n ≤ c ∧ c ≤ maxLen ∧ (0 < n → ∃ b off, A = some ⟨b, off, none⟩ ∧ b < w.heap.size ∧ ∀ k, k < n → A4At w b (off + k * 4) (f k))
  sees : ∀ k, k < n → SeesL w w.heap.size (.slice (f k).A (f k).l.length (f k).c) (f k).l ∧ bytesL (f k).l
section
variable {H : Type} {enc : TypeId × Value → H} {P : Program} {w : World} {base : Nat} {spare : Nat → Bool} {held : Bool}
/-- A list of bytes that came in, of whatever length. -/
theorem sees_list {t e : TypeId} {fuel : Nat} {v : Value} {y : DataW H × List MemPlace} (ht : P.underlying t = some (.slice e)) (he : P.underlying e = some (.int .u8)) (hc : P.cellsOf e = 1)
    (h : DataW.trod enc P w base spare held fuel t [v] = some y) : ∃ A c l, v = .slice A l.length c ∧ SeesL w w.heap.size (.slice A l.length c) l ∧ bytesL l := by
  rcases open_ints ht he hc h with ⟨hcs, _⟩ | ⟨x, n, c, zs, hcs, _, hl, hm, hz, _, hcell, hwz⟩
  · obtain rfl : v = .slice none 0 0 := by simpa using hcs
    exact ⟨none, 0, [], rfl, SeesL.nil, fun x hx => by simp at hx⟩
  · obtain rfl : v = .slice (some x) n c := by simpa using hcs
    have hnz : n ≤ zs.length := by rw [hz]; split <;> omega
    have hlen : (zs.take n).length = n := by simp; omega
    refine ⟨some x, c, zs.take n, by rw [hlen], ⟨some x, c, rfl, by rw [hlen]; exact hl, hm, ?_, fun h => by cases h⟩, fun z hz' => ?_⟩
    · rw [hlen]
      intro h0
      obtain ⟨b, off, rfl, hb⟩ := addr_at (hcell 0 (by omega))
      refine ⟨b, off, rfl, hb, fun k hk => ?_⟩
      have e : bv (zs.take n) k = .int .u8 (zs.getD k 0) := by simp [bv, List.getD_eq_getElem?_getD, hk]
      rw [e]
      have := hcell k (by omega)
      by_cases h0 : k = 0
      · subst h0; simpa [Addr.add] using this
      · simpa [Addr.add, h0] using this
    · have := bounds_u8 (hwz z (List.mem_of_mem_take hz'))
      omega
theorem int_cella {t : TypeId} {n : Nat} {v : Value} {y : DataW H × List MemPlace} (hi : P.underlying t = some (.int .i64)) (h : DataW.trod enc P w base spare held n t [v] = some y) : ∃ z, v = .int .i64 z := by
  obtain ⟨z, hz, -⟩ := DataW.trod_int hi h
  exact ⟨z, by simpa using hz⟩
end
end Go.Proofs.YtpdenmcacaajkaaGreat

/-! ### NpO -/
namespace Go.Proofs.YtpdenmcacaajkaaGreat
open Go.ChangeShapes Go.WideShapes Go.ChangeAt Go.RowKit Go.Joins Go.Deep

/-- A node's act. -/
structure Aq where
  k : Int
  n : Int
  d : List Int
  h : Hn
  f : Int
  u : Int
instance : Inhabited Aq := ⟨⟨0, 0, [], ⟨0, 0, [], [], 0⟩, 0, 0⟩⟩
/-- Its ten cells. -/
structure AqAt (W : World) (B b off : Nat) (x : Aq) : Prop where
  c0 : W.cell? ⟨b, off, none⟩ = some (.int .i64 x.k)
  c1 : W.cell? ⟨b, off + 1, none⟩ = some (.int .i64 x.n)
  c2 : ∃ v, W.cell? ⟨b, off + 2, none⟩ = some v ∧ SeesL W B v x.d
  c3 : W.cell? ⟨b, off + 3, none⟩ = some (.int .i64 x.h.a)
  c4 : W.cell? ⟨b, off + 4, none⟩ = some (.int .i64 x.h.b)
  c5 : ∃ v, W.cell? ⟨b, off + 5, none⟩ = some v ∧ SeesL W B v x.h.x
  c6 : ∃ v, W.cell? ⟨b, off + 6, none⟩ = some v ∧ SeesL W B v x.h.y
  c7 : W.cell? ⟨b, off + 7, none⟩ = some (.int .i64 x.h.o)
  c8 : W.cell? ⟨b, off + 8, none⟩ = some (.int .i64 x.f)
  c9 : W.cell? ⟨b, off + 9, none⟩ = some (.int .i64 x.u)
def Aq.by (x : Aq) : Prop := bytesL x.d ∧ bytesL x.h.x ∧ bytesL x.h.y
/-- Acts in memory. -/
structure SeesAq (W : World) (B : Nat) (v : Value) (l : List Aq) : Prop where
  at_ : ∃ A c, v = .slice A l.length c ∧ l.length ≤ c ∧ c ≤ maxLen ∧ (0 < l.length → ∃ b off, A = some ⟨b, off, none⟩ ∧ b < B ∧ ∀ i, i < l.length → AqAt W B b (off + i * 10) (l.getD i default))
  by_ : ∀ x ∈ l, x.by
theorem AqAt.below {W W' : World} {B b off : Nat} {x : Aq} (h : AqAt W B b off x) (hb : Below B W W') (hl : b < B) : AqAt W' B b off x := by
  have e : ∀ o v, W.cell? ⟨b, o, none⟩ = some v → W'.cell? ⟨b, o, none⟩ = some v := fun o v q => (hb.cell (p := ⟨b, o, none⟩) hl).trans q
  obtain ⟨v2, p2, s2⟩ := h.c2
  obtain ⟨v5, p5, s5⟩ := h.c5
  obtain ⟨v6, p6, s6⟩ := h.c6
  exact ⟨e _ _ h.c0, e _ _ h.c1, ⟨v2, e _ _ p2, s2.below hb⟩, e _ _ h.c3, e _ _ h.c4, ⟨v5, e _ _ p5, s5.below hb⟩, ⟨v6, e _ _ p6, s6.below hb⟩, e _ _ h.c7, e _ _ h.c8, e _ _ h.c9⟩
theorem SeesAq.nil {W : World} {B : Nat} : SeesAq W B (.slice none 0 0) [] := ⟨⟨none, 0, rfl, Nat.le_refl _, Nat.zero_le _, fun h => absurd h (by simp)⟩, fun _ h => by cases h⟩
theorem aqAt (l : List Aq) (k : Nat) (hk : k < l.length) : l.getD k default ∈ l := by
  rw [List.getD_eq_getElem?_getD, List.getElem?_eq_getElem hk]
  exact List.getElem_mem hk

section
variable {H : Type} {enc : TypeId × Value → H} {P : Program} {w : World} {base : Nat} {spare : Nat → Bool} {held : Bool}
theorem trod_structq6 {t : TypeId} {f0 f1 f2 f3 f4 f5 : Field} {fuel : Nat} {cs : List Value} {x : DataW H × List MemPlace} (ht : P.underlying t = some (.struct #[f0, f1, f2, f3, f4, f5])) (h : DataW.trod enc P w base spare held fuel t cs = some x) :
    ∃ y0 y1 y2 y3 y4 y5 n, cs.length = P.cellsOf t ∧ DataW.trod enc P w base spare held n f0.type ((cs.drop f0.offset).take (P.cellsOf f0.type)) = some y0 ∧ DataW.trod enc P w base spare held n f1.type ((cs.drop f1.offset).take (P.cellsOf f1.type)) = some y1 ∧ DataW.trod enc P w base spare held n f2.type ((cs.drop f2.offset).take (P.cellsOf f2.type)) = some y2 ∧ DataW.trod enc P w base spare held n f3.type ((cs.drop f3.offset).take (P.cellsOf f3.type)) = some y3 ∧ DataW.trod enc P w base spare held n f4.type ((cs.drop f4.offset).take (P.cellsOf f4.type)) = some y4 ∧ DataW.trod enc P w base spare held n f5.type ((cs.drop f5.offset).take (P.cellsOf f5.type)) = some y5 := by
  obtain ⟨xs, n, _, rfl, hl, hlen, hf⟩ := DataW.trod_struct ht h
  match xs, hlen with
  | [y0, y1, y2, y3, y4, y5], _ => exact ⟨y0, y1, y2, y3, y4, y5, n, hl, by simpa using hf 0 f0 rfl, by simpa using hf 1 f1 rfl, by simpa using hf 2 f2 rfl, by simpa using hf 3 f3 rfl, by simpa using hf 4 f4 rfl, by simpa using hf 5 f5 rfl⟩
theorem trod_structq5 {t : TypeId} {f0 f1 f2 f3 f4 : Field} {fuel : Nat} {cs : List Value} {x : DataW H × List MemPlace} (ht : P.underlying t = some (.struct #[f0, f1, f2, f3, f4])) (h : DataW.trod enc P w base spare held fuel t cs = some x) :
    ∃ y0 y1 y2 y3 y4 n, cs.length = P.cellsOf t ∧ DataW.trod enc P w base spare held n f0.type ((cs.drop f0.offset).take (P.cellsOf f0.type)) = some y0 ∧ DataW.trod enc P w base spare held n f1.type ((cs.drop f1.offset).take (P.cellsOf f1.type)) = some y1 ∧ DataW.trod enc P w base spare held n f2.type ((cs.drop f2.offset).take (P.cellsOf f2.type)) = some y2 ∧ DataW.trod enc P w base spare held n f3.type ((cs.drop f3.offset).take (P.cellsOf f3.type)) = some y3 ∧ DataW.trod enc P w base spare held n f4.type ((cs.drop f4.offset).take (P.cellsOf f4.type)) = some y4 := by
  obtain ⟨xs, n, _, rfl, hl, hlen, hf⟩ := DataW.trod_struct ht h
  match xs, hlen with
  | [y0, y1, y2, y3, y4], _ => exact ⟨y0, y1, y2, y3, y4, n, hl, by simpa using hf 0 f0 rfl, by simpa using hf 1 f1 rfl, by simpa using hf 2 f2 rfl, by simpa using hf 3 f3 rfl, by simpa using hf 4 f4 rfl⟩
theorem aq_cells {e ti ts te th : TypeId} {a0 a1 a2 a3 a4 a5 b0 b1 b2 b3 b4 : Field} {n : Nat} {v0 v1 v2 v3 v4 v5 v6 v7 v8 v9 : Value} {y : DataW H × List MemPlace} (ha : P.underlying e = some (.struct #[a0, a1, a2, a3, a4, a5])) (u0 : a0.type = ti ∧ a0.offset = 0) (u1 : a1.type = ti ∧ a1.offset = 1) (u2 : a2.type = ts ∧ a2.offset = 2) (u3 : a3.type = th ∧ a3.offset = 3) (u4 : a4.type = ti ∧ a4.offset = 8) (u5 : a5.type = ti ∧ a5.offset = 9)
    (hh : P.underlying th = some (.struct #[b0, b1, b2, b3, b4])) (ch : P.cellsOf th = 5) (t0 : b0.type = ti ∧ b0.offset = 0) (t1 : b1.type = ti ∧ b1.offset = 1) (t2 : b2.type = ts ∧ b2.offset = 2) (t3 : b3.type = ts ∧ b3.offset = 3) (t4 : b4.type = ti ∧ b4.offset = 4)
    (hi : P.underlying ti = some (.int .i64)) (hs : P.underlying ts = some (.slice te)) (hu : P.underlying te = some (.int .u8)) (hc : P.cellsOf ti = 1) (hcs : P.cellsOf ts = 1) (hce : P.cellsOf te = 1)
    (h : DataW.trod enc P w base spare held n e [v0, v1, v2, v3, v4, v5, v6, v7, v8, v9] = some y) : ∃ x : Aq, v0 = .int .i64 x.k ∧ v1 = .int .i64 x.n ∧ SeesL w w.heap.size v2 x.d ∧ v3 = .int .i64 x.h.a ∧ v4 = .int .i64 x.h.b ∧ SeesL w w.heap.size v5 x.h.x ∧ SeesL w w.heap.size v6 x.h.y ∧ v7 = .int .i64 x.h.o ∧ v8 = .int .i64 x.f ∧ v9 = .int .i64 x.u ∧ x.by := by
  obtain ⟨y0, y1, y2, y3, y4, y5, q, _, g0, g1, g2, g3, g4, g5⟩ := trod_structq6 ha h
  rw [u0.1, u0.2, hc] at g0
  rw [u1.1, u1.2, hc] at g1
  rw [u2.1, u2.2, hcs] at g2
  rw [u3.1, u3.2, ch] at g3
  rw [u4.1, u4.2, hc] at g4
  rw [u5.1, u5.2, hc] at g5
  obtain ⟨z0, z1, z2, z3, z4, q', _, k0, k1, k2, k3, k4⟩ := trod_structq5 hh g3
  rw [t0.1, t0.2, hc] at k0
  rw [t1.1, t1.2, hc] at k1
  rw [t2.1, t2.2, hcs] at k2
  rw [t3.1, t3.2, hcs] at k3
  rw [t4.1, t4.2, hc] at k4
  obtain ⟨i0, rfl⟩ := int_cella hi g0
  obtain ⟨i1, rfl⟩ := int_cella hi g1
  obtain ⟨A2, c2, l2, rfl, S2, B2⟩ := sees_list hs hu hce g2
  obtain ⟨j0, rfl⟩ := int_cella (v := v3) hi k0
  obtain ⟨j1, rfl⟩ := int_cella (v := v4) hi k1
  obtain ⟨A5, c5, l5, rfl, S5, B5⟩ := sees_list (v := v5) hs hu hce k2
  obtain ⟨A6, c6, l6, rfl, S6, B6⟩ := sees_list (v := v6) hs hu hce k3
  obtain ⟨j4, rfl⟩ := int_cella (v := v7) hi k4
  obtain ⟨i4, rfl⟩ := int_cella (v := v8) hi g4
  obtain ⟨i5, rfl⟩ := int_cella (v := v9) hi g5
  exact ⟨⟨i0, i1, l2, ⟨j0, j1, l5, l6, j4⟩, i4, i5⟩, rfl, rfl, S2, rfl, rfl, S5, S6, rfl, rfl, rfl, B2, B5, B6⟩
theorem sees_aqs {t e ti ts te th : TypeId} {a0 a1 a2 a3 a4 a5 b0 b1 b2 b3 b4 : Field} {A : Option Addr} {n c : Nat} {d : DataW H} {ps : List MemPlace} (hts : P.underlying t = some (.slice e)) (ca : P.cellsOf e = 10) (ha : P.underlying e = some (.struct #[a0, a1, a2, a3, a4, a5])) (u0 : a0.type = ti ∧ a0.offset = 0) (u1 : a1.type = ti ∧ a1.offset = 1) (u2 : a2.type = ts ∧ a2.offset = 2) (u3 : a3.type = th ∧ a3.offset = 3) (u4 : a4.type = ti ∧ a4.offset = 8) (u5 : a5.type = ti ∧ a5.offset = 9)
    (hh : P.underlying th = some (.struct #[b0, b1, b2, b3, b4])) (ch : P.cellsOf th = 5) (t0 : b0.type = ti ∧ b0.offset = 0) (t1 : b1.type = ti ∧ b1.offset = 1) (t2 : b2.type = ts ∧ b2.offset = 2) (t3 : b3.type = ts ∧ b3.offset = 3) (t4 : b4.type = ti ∧ b4.offset = 4)
    (hi : P.underlying ti = some (.int .i64)) (hs : P.underlying ts = some (.slice te)) (hu : P.underlying te = some (.int .u8)) (hc : P.cellsOf ti = 1) (hcs : P.cellsOf ts = 1) (hce : P.cellsOf te = 1)
    (h : DataW.Trod enc P w base spare held t (.slice A n c) d ps) : ∃ l, SeesAq w w.heap.size (.slice A n c) l := by
  obtain ⟨fuel, h⟩ := h
  rcases open_slice hts h with ⟨hv, -⟩ | ⟨a, len, cap, m, k, Dt, Pl, hv, -, hl, hm, hmm, -, hx⟩
  · simp [Value.cells] at hv
    obtain ⟨rfl, rfl, rfl⟩ := hv
    exact ⟨[], SeesAq.nil⟩
  · simp [Value.cells] at hv
    obtain ⟨rfl, rfl, rfl⟩ := hv
    have hlm : n ≤ m := by rw [hmm]; split <;> omega
    have each : ∀ i, i < n → ∃ x : Aq × Value × Value × Value, (w.cell? (a.add (i * 10)) = some (.int .i64 x.1.k) ∧ w.cell? (a.add (i * 10 + 1)) = some (.int .i64 x.1.n) ∧ w.cell? (a.add (i * 10 + 2)) = some x.2.1 ∧ w.cell? (a.add (i * 10 + 3)) = some (.int .i64 x.1.h.a) ∧ w.cell? (a.add (i * 10 + 4)) = some (.int .i64 x.1.h.b) ∧ w.cell? (a.add (i * 10 + 5)) = some x.2.2.1 ∧ w.cell? (a.add (i * 10 + 6)) = some x.2.2.2 ∧ w.cell? (a.add (i * 10 + 7)) = some (.int .i64 x.1.h.o) ∧ w.cell? (a.add (i * 10 + 8)) = some (.int .i64 x.1.f) ∧ w.cell? (a.add (i * 10 + 9)) = some (.int .i64 x.1.u)) ∧ SeesL w w.heap.size x.2.1 x.1.d ∧ SeesL w w.heap.size x.2.2.1 x.1.h.x ∧ SeesL w w.heap.size x.2.2.2 x.1.h.y ∧ x.1.by := by
      intro i hi'
      obtain ⟨cs', h1, h2⟩ := hx i (by omega)
      rw [ca] at h1
      obtain ⟨_, hlen, hcell⟩ := World.cells?_some h1
      match cs', hlen with
      | [v0, v1, v2, v3, v4, v5, v6, v7, v8, v9], _ =>
        obtain ⟨x, rfl, rfl, S2, rfl, rfl, S5, S6, rfl, rfl, rfl, hB⟩ := aq_cells ha u0 u1 u2 u3 u4 u5 hh ch t0 t1 t2 t3 t4 hi hs hu hc hcs hce h2
        have e0 := hcell 0 (by omega)
        have e1 := hcell 1 (by omega)
        have e2 := hcell 2 (by omega)
        have e3 := hcell 3 (by omega)
        have e4 := hcell 4 (by omega)
        have e5 := hcell 5 (by omega)
        have e6 := hcell 6 (by omega)
        have e7 := hcell 7 (by omega)
        have e8 := hcell 8 (by omega)
        have e9 := hcell 9 (by omega)
        rw [add_add] at e0 e1 e2 e3 e4 e5 e6 e7 e8 e9
        exact ⟨(x, v2, v5, v6), ⟨by simpa using e0, by simpa using e1, by simpa using e2, by simpa using e3, by simpa using e4, by simpa using e5, by simpa using e6, by simpa using e7, by simpa using e8, by simpa using e9⟩, S2, S5, S6, hB⟩
    obtain ⟨f, hf⟩ := choose_lt each
    have hg : ∀ k, k < n → ((List.range n).map fun i => (f i).1).getD k default = (f k).1 := fun k hk => by simp [List.getD_eq_getElem?_getD, hk]
    refine ⟨(List.range n).map fun i => (f i).1, ⟨⟨some a, c, by simp, by simpa using hl, hm, fun h0 => ?_⟩, fun x hx => ?_⟩⟩
    · simp only [List.length_map, List.length_range] at h0 ⊢
      have h00 := (hf 0 h0).1.1
      obtain ⟨b, off, rfl, hbb⟩ := addr_at (v := .int .i64 (f 0).1.k) (by simpa using h00)
      have hadd : ∀ j, (⟨b, off, none⟩ : Addr).add j = ⟨b, off + j, none⟩ := fun j => by unfold Addr.add; split <;> simp_all
      simp only [hadd] at hf
      refine ⟨b, off, rfl, hbb, fun k hk => ?_⟩
      obtain ⟨⟨e0, e1, e2, e3, e4, e5, e6, e7, e8, e9⟩, S2, S5, S6, -⟩ := hf k hk
      rw [hg k hk]
      exact ⟨e0, by rw [Nat.add_assoc]; exact e1, ⟨_, by rw [Nat.add_assoc]; exact e2, S2⟩, by rw [Nat.add_assoc]; exact e3, by rw [Nat.add_assoc]; exact e4, ⟨_, by rw [Nat.add_assoc]; exact e5, S5⟩, ⟨_, by rw [Nat.add_assoc]; exact e6, S6⟩, by rw [Nat.add_assoc]; exact e7, by rw [Nat.add_assoc]; exact e8, by rw [Nat.add_assoc]; exact e9⟩
    · simp only [List.mem_map, List.mem_range] at hx
      obtain ⟨i, hi', rfl⟩ := hx
      exact (hf i hi').2.2.2.2
end
end Go.Proofs.YtpdenmcacaajkaaGreat
