/- Texts StP in one. For what each says in front of its theorems. -/
import Derived.Test.YtpdenmcacaajkaaGreatPB14
import Derived.Test.YtpdenmcacaajkaaGreatPB16
/-! ### StP -/
namespace Go.Proofs.YtpdenmcacaajkaaGreat
open Go.RowKit

theorem stc_size (V : Nat → Value) (a : Nat → Int) (g : Nat → Bool) : (stc V a g).size = 24 := rfl
/-- Bytes that lie in no block of F, but in one of G. -/
def Nar (G : Nat → Prop) {α : Type} (v : Value) (l : List α) : Prop := l ≠ [] → ∀ b, v.ownBlock = some b → G b
def DatG (G : Nat → Prop) (F : List Nat) (W : World) (v : Value) (l : List Int) : Prop := Dat F W v l ∧ Nar G v l
theorem DatG.keep {G : Nat → Prop} {F : List Nat} {W W' : World} {v : Value} {l : List Int} (h : DatG G F W v l) (k : Kp F W W') : DatG G F W' v l := ⟨h.1.keep k, h.2⟩
theorem DatG.nil {G : Nat → Prop} {F : List Nat} {W : World} : DatG G F W (.slice none 0 0) [] := ⟨Dat.nil, fun h => absurd rfl h⟩
/-- A store in memory. -/
def SPt (c : Cx 26) (G : Nat → Prop) (F : List Nat) (W : World) (g : Nat) (s : MS) : Prop := (∃ V, PB c W g (stc V s.a s.g) ∧ ∀ i, i < 8 → DatG G F W (V i) (s.d i)) ∧ s.ok
section
variable {c : Cx 26} {G : Nat → Prop} {F : List Nat} {W W' : World} {g g' : Nat} {s s' : MS}
theorem SPt.lt (h : SPt c G F W g s) : g < W.heap.size := by
  obtain ⟨⟨V, hB, -⟩, -⟩ := h
  exact hB.lt
theorem SPt.only (h : SPt c G F W g s) (k : Only g' W W') (hne : g ≠ g') (hF : g' ∈ F) : SPt c G F W' g s := by
  obtain ⟨⟨V, hB, hD⟩, hk⟩ := h
  exact ⟨⟨V, hB.only k hne, fun i hi => (hD i hi).keep (k.kp hF)⟩, hk⟩
theorem SPt.below (h : SPt c G F W g s) (k : Below W.heap.size W W') : SPt c G F W' g s := by
  obtain ⟨⟨V, hB, hD⟩, hk⟩ := h
  exact ⟨⟨V, hB.below k hB.lt, fun i hi => (hD i hi).keep (kp_below k)⟩, hk⟩
theorem SPt.alike (h : SPt c G F W g s) (hd : ∀ i, i < 8 → s.d i = s'.d i) (ha : ∀ i, i < 8 → s.a i = s'.a i) (hg : ∀ i, i < 8 → s.g i = s'.g i) : SPt c G F W g s' := by
  obtain ⟨⟨V, hB, hD⟩, hk⟩ := h
  refine ⟨⟨V, hB.eq (stc_alike (fun _ _ => rfl) ha hg), fun i hi => hd i hi ▸ hD i hi⟩, ⟨fun i hi => hd i hi ▸ hk.len i hi, fun i hi => hd i hi ▸ hk.byt i hi, fun i hi => ha i hi ▸ hk.lo i hi, fun i hi => ha i hi ▸ hk.hi i hi⟩⟩
theorem SPt.cd (h : SPt c G F W g s) {i : Nat} (hi : i < 8) : ∃ v, W.cell? ⟨g, 26 + i * 3, none⟩ = some v ∧ DatG G F W v (s.d i) := by
  obtain ⟨⟨V, hB, hD⟩, -⟩ := h
  exact ⟨V i, hB.cell _ (stc_d _ _ _ hi), hD i hi⟩
theorem SPt.cs (h : SPt c G F W g s) {i : Nat} (hi : i < 8) : ∃ A d, W.cell? ⟨g, 26 + i * 3, none⟩ = some (.slice A (s.d i).length d) ∧ DatG G F W (.slice A (s.d i).length d) (s.d i) := by
  obtain ⟨v, h1, h2⟩ := h.cd hi
  obtain ⟨A, d, rfl, -⟩ := h2.1.1.at_
  exact ⟨A, d, h1, h2⟩
theorem SPt.ca (h : SPt c G F W g s) {i : Nat} (hi : i < 8) : W.cell? ⟨g, 26 + i * 3 + 1, none⟩ = some (.int .i64 (s.a i)) := by
  obtain ⟨⟨V, hB, hD⟩, -⟩ := h
  exact hB.cell _ (stc_a _ _ _ hi)
theorem SPt.cg (h : SPt c G F W g s) {i : Nat} (hi : i < 8) : W.cell? ⟨g, 26 + i * 3 + 2, none⟩ = some (.bool (s.g i)) := by
  obtain ⟨⟨V, hB, hD⟩, -⟩ := h
  exact hB.cell _ (stc_g _ _ _ hi)
theorem SPt.frozen (h : SPt c G F W g s) (o : Nat) : W.frozen? ⟨g, o, none⟩ = false := by
  obtain ⟨⟨V, hB, hD⟩, -⟩ := h
  exact hB.frozen _
theorem SPt.drew (h : SPt c G F W g s) : SPt c G F W.drew g s := h.below (Below.refl _ W).drew
theorem SPt.setd (h : SPt c G F W g s) (hg : g ∈ F) {i : Nat} (hi : i < 8) {v : Value} {l : List Int} (hv : DatG G F W v l) (hl : l.length ≤ 8) (hb : bytesL l) : SPt c G F (W.setCell ⟨g, 26 + i * 3, none⟩ v) g { s with d := upd s.d i l } := by
  obtain ⟨⟨V, hB, hD⟩, hk⟩ := h
  have hkp : Kp F W (W.setCell ⟨g, 26 + i * 3, none⟩ v) := ((Only.refl g W).set _ _).kp hg
  refine ⟨⟨upd V i v, (hB.set (i * 3) (by rw [stc_size]; omega) _).eq (set_d _ _ _ hi _), fun j hj => ?_⟩, ⟨fun j hj => ?_, fun j hj => ?_, hk.lo, hk.hi⟩⟩ <;> simp only [upd] <;> split
  · exact hv.keep hkp
  · exact (hD j hj).keep hkp
  · exact hl
  · exact hk.len j hj
  · exact hb
  · exact hk.byt j hj
theorem SPt.seta (h : SPt c G F W g s) (hg : g ∈ F) {i : Nat} (hi : i < 8) (a : Int) (hl : -1 ≤ a) (hh : a ≤ 65535) : SPt c G F (W.setCell ⟨g, 26 + i * 3 + 1, none⟩ (.int .i64 a)) g { s with a := upd s.a i a } := by
  obtain ⟨⟨V, hB, hD⟩, hk⟩ := h
  have hkp : Kp F W (W.setCell ⟨g, 26 + i * 3 + 1, none⟩ (.int .i64 a)) := ((Only.refl g W).set _ _).kp hg
  refine ⟨⟨V, (hB.set (i * 3 + 1) (by rw [stc_size]; omega) _).eq (set_a _ _ _ hi _), fun j hj => (hD j hj).keep hkp⟩, ⟨hk.len, hk.byt, fun j hj => ?_, fun j hj => ?_⟩⟩ <;> simp only [upd] <;> split
  · exact hl
  · exact hk.lo j hj
  · exact hh
  · exact hk.hi j hj
theorem SPt.setg (h : SPt c G F W g s) (hg : g ∈ F) {i : Nat} (hi : i < 8) (b : Bool) : SPt c G F (W.setCell ⟨g, 26 + i * 3 + 2, none⟩ (.bool b)) g { s with g := upd s.g i b } := by
  obtain ⟨⟨V, hB, hD⟩, hk⟩ := h
  have hkp : Kp F W (W.setCell ⟨g, 26 + i * 3 + 2, none⟩ (.bool b)) := ((Only.refl g W).set _ _).kp hg
  exact ⟨⟨V, (hB.set (i * 3 + 2) (by rw [stc_size]; omega) _).eq (set_g _ _ _ hi _), fun j hj => (hD j hj).keep hkp⟩, ⟨hk.len, hk.byt, hk.lo, hk.hi⟩⟩
end
theorem SPt.mono {c : Cx 26} {G G' : Nat → Prop} {F : List Nat} {W : World} {g : Nat} {s : MS} (h : SPt c G F W g s) (hG : ∀ b, G b → G' b) : SPt c G' F W g s := by
  obtain ⟨⟨V, hB, hD⟩, hk⟩ := h
  exact ⟨⟨V, hB, fun i hi => ⟨(hD i hi).1, fun h0 b hb => hG b ((hD i hi).2 h0 b hb)⟩⟩, hk⟩
set_option maxRecDepth 100000 in
set_option maxHeartbeats 2000000 in
theorem minds_sp (g : Nat) (n : Int) (w : World) :
    Calls Tryz.prog 137 #[.pointer (some ⟨g, 26, none⟩), .int .i64 n] w fun e w' => e = .returned (.bool (decide (isN n))) ∧ w' = w := by
  by_cases h1 : n < 0
  · rw [decide_eq_false (by unfold isN; omega : ¬ isN n)]
    go_enter Tryz.func137, Tryz.ntmps137
    go_wp2
    go_ret
    exact ⟨rfl, rfl⟩
  · by_cases h2 : n < 8
    · rw [decide_eq_true (by unfold isN; omega : isN n)]
      have h1 : 0 ≤ n := by omega
      go_enter Tryz.func137, Tryz.ntmps137
      go_wp2
      go_ret
      exact ⟨by simp_all, rfl⟩
    · rw [decide_eq_false (by unfold isN; omega : ¬ isN n)]
      have h1 : 0 ≤ n := by omega
      go_enter Tryz.func137, Tryz.ntmps137
      go_wp2
      go_ret
      exact ⟨by simp_all, rfl⟩
set_option maxRecDepth 100000 in
set_option maxHeartbeats 1000000 in
theorem member_sp (c : Cx 26) (G : Nat → Prop) (F : List Nat) (g : Nat) (s : MS) (n : Int) (b : Bool) (w : World) (h : SPt c G F w g s) (hg : g ∈ F) :
    Calls Tryz.prog 129 #[.pointer (some ⟨g, 26, none⟩), .int .i64 n, .bool b] w fun e w' => e = .returned (.tuple #[]) ∧ SPt c G F w' g (s.member n b) ∧ Only g w w' := by
  have HN := fun W => Lib.hid (minds_sp g n W)
  by_cases hn : isN n
  · rw [decide_eq_true hn] at HN
    rw [show s.member n b = { s with g := upd s.g n.toNat b } by unfold MS.member; rw [if_pos hn]]
    unfold isN at hn
    obtain ⟨i, rfl⟩ : ∃ i : Nat, n = i := ⟨n.toNat, by omega⟩
    have hi : i < 8 := by omega
    rw [Int.toNat_natCast]
    have c := SPt.cg h hi
    have f := SPt.frozen h (26 + i * 3 + 2)
    have H := Lib.hid (SPt.setg h hg hi b)
    clear h
    go_enter Tryz.func129, Tryz.ntmps129
    go_wp2_with fail
    refine (HN _).out.mono ?_
    rintro _ _ ⟨rfl, rfl⟩
    go_wp2
    exact bodyPost_end (results_none (by rfl) _ _ _) rfl ⟨rfl, H.out, (Only.refl g _).set _ _⟩
  · rw [decide_eq_false hn] at HN
    rw [show s.member n b = s by unfold MS.member; rw [if_neg hn]]
    go_enter Tryz.func129, Tryz.ntmps129
    go_wp2_with fail
    refine (HN _).out.mono ?_
    rintro _ _ ⟨rfl, rfl⟩
    go_wp2
    exact bodyPost_end (results_none (by rfl) _ _ _) rfl ⟨rfl, h, Only.refl _ _⟩

set_option maxRecDepth 100000 in
set_option maxHeartbeats 2000000 in
theorem clear_sp (c : Cx 26) (G : Nat → Prop) (F : List Nat) (g : Nat) (s : MS) (w : World) (h : SPt c G F w g s) (hg : g ∈ F) :
    Calls Tryz.prog 59 #[.pointer (some ⟨g, 26, none⟩)] w fun e w' => e = .returned (.tuple #[]) ∧ SPt c G F w' g MS.new ∧ Only g w w' := by
  go_enter Tryz.func59, Tryz.ntmps59
  go_wp2_with fail
  go_loopw [5] (fun i wr => ∃ k : Nat, k ≤ 8 ∧ i = .int .i64 k ∧ SPt c G F wr g (s.clr k) ∧ Only g w wr) (fun i _ => 8 - (intOf i).toNat)
  case atStart => exact ⟨0, by omega, rfl, SPt.alike h (fun _ _ => rfl) (fun _ _ => rfl) (fun _ _ => rfl), Only.refl _ _⟩
  case round =>
    clear h
    obtain ⟨k, hk, rfl, h, o⟩ := hrel
    by_cases hlt : k < 8
    · have r1 : decide ((k : Int) < 8) = true := decide_eq_true (by omega)
      have H := fun W (hW : SPt c G F W g (s.clr k)) => Lib.hid (SPt.alike (SPt.setg (SPt.seta (SPt.setd hW hg hlt DatG.nil (by simp) (fun x hx => by simp at hx)) hg hlt (-1) (by omega) (by omega)) hg hlt false) (s' := s.clr (k + 1)) (fun i _ => (clr_step s k).1 i) (fun i _ => (clr_step s k).2.1 i) (fun i _ => (clr_step s k).2.2 i))
      have HV := fun W => Lib.hid (never_st W)
      have h0 := Lib.hid h
      have o0 := Lib.hid o
      clear h o
      go_wp2_with fail
      go_region_with (first
        | (go_at_call 103; refine (HV _).out.mono ?_; rintro _ w2 ⟨rfl, hb2⟩; have h2 : SPt c G F w2 g (s.clr k) := SPt.below h0.out.drew hb2; have o2 := Lib.hid (o0.out.drew.trans (only_of_below g hb2)); obtain ⟨v, c0, -⟩ := SPt.cd h2 hlt; have c1 := SPt.ca h2 hlt; have c2 := SPt.cg h2 hlt; have f0 := SPt.frozen h2 (26 + k * 3); have f1 := SPt.frozen h2 (26 + k * 3 + 1); have f2 := SPt.frozen h2 (26 + k * 3 + 2); have H2 := H w2 h2; clear h2 hb2))
      all_goals
        go_wp2
        go_roundw
        case rel => exact ⟨k + 1, by omega, by go_num, H2.out, ((o2.out.set _ _).set _ _).set _ _⟩
        case measure => simp [intOf]; omega
    · obtain rfl : k = 8 := by omega
      go_wp2
      exact bodyPost_end (results_none (by rfl) _ _ _) rfl ⟨rfl, SPt.alike h (fun i hi => by simp [MS.clr, MS.new, hi]) (fun i hi => by simp [MS.clr, MS.new, hi]) (fun i hi => by simp [MS.clr, MS.new, hi]), o⟩
set_option maxRecDepth 100000 in
set_option maxHeartbeats 2000000 in
theorem age_sp (c : Cx 26) (G : Nat → Prop) (F : List Nat) (g : Nat) (s : MS) (w : World) (h : SPt c G F w g s) (hg : g ∈ F) :
    Calls Tryz.prog 150 #[.pointer (some ⟨g, 26, none⟩)] w fun e w' => e = .returned (.tuple #[]) ∧ SPt c G F w' g s.age ∧ Only g w w' := by
  have hok := h.2
  go_enter Tryz.func150, Tryz.ntmps150
  go_wp2_with fail
  go_loopw [6] (fun i wr => ∃ k : Nat, k ≤ 8 ∧ i = .int .i64 k ∧ SPt c G F wr g (s.agd k) ∧ Only g w wr) (fun i _ => 8 - (intOf i).toNat)
  case atStart => exact ⟨0, by omega, rfl, SPt.alike h (fun _ _ => rfl) (fun _ _ => rfl) (fun _ _ => rfl), Only.refl _ _⟩
  case round =>
    clear h
    obtain ⟨k, hk, rfl, h, o⟩ := hrel
    by_cases hlt : k < 8
    · have r1 : decide ((k : Int) < 8) = true := decide_eq_true (by omega)
      have c1 := SPt.ca h hlt
      have f1 := SPt.frozen h (26 + k * 3 + 1)
      have e1 : (s.agd k).a k = s.a k := by simp [MS.agd]
      rw [e1] at c1
      have l1 := hok.lo k hlt
      have l2 := hok.hi k hlt
      obtain ⟨p1, p2⟩ := older_ok l1 l2
      have H := Lib.hid (SPt.alike (SPt.seta h hg hlt (older (s.a k)) p1 p2) (s' := s.agd (k + 1)) (fun i _ => rfl) (fun i _ => agd_step s k i) (fun i _ => rfl))
      by_cases hpos : 0 ≤ s.a k ∧ s.a k < 65535
      · have q2 : decide ((0 : Int) ≤ s.a k) = true := decide_eq_true hpos.1
        have q3 : decide (s.a k < 65535) = true := decide_eq_true hpos.2
        have e2 : older (s.a k) = s.a k + 1 := by unfold older; rw [if_pos hpos.1]; omega
        rw [e2] at H
        clear h e1 e2 p1 p2
        generalize s.a k = x at *
        go_wp2_with fail
        go_region
        all_goals
          go_wp2
          go_roundw
          case rel => exact ⟨k + 1, by omega, by go_num, H.out.drew, (o.set _ _).drew⟩
          case measure => simp [intOf]; omega
      · have e2 : s.agd (k + 1) = s.agd k := by
          unfold MS.agd
          congr 1
          funext i
          rcases lt_or_eq_or i k with h | h | h
          · rw [if_pos (by omega), if_pos (by omega)]
          · subst h; rw [if_pos (by omega), if_neg (by omega)]; unfold older; split <;> omega
          · rw [if_neg (by omega), if_neg (by omega)]
        clear H e1 p1 p2
        by_cases h0 : 0 ≤ s.a k
        · have q2 : decide ((0 : Int) ≤ s.a k) = true := decide_eq_true h0
          have q3 : decide (s.a k < 65535) = false := decide_eq_false (by omega)
          go_wp2
          go_roundw
          case rel => exact ⟨k + 1, by omega, by go_num, e2 ▸ h, o⟩
          case measure => simp [intOf]; omega
        · have q2 : decide ((0 : Int) ≤ s.a k) = false := decide_eq_false h0
          go_wp2
          go_roundw
          case rel => exact ⟨k + 1, by omega, by go_num, e2 ▸ h, o⟩
          case measure => simp [intOf]; omega
    · obtain rfl : k = 8 := by omega
      go_wp2
      exact bodyPost_end (results_none (by rfl) _ _ _) rfl ⟨rfl, SPt.alike h (fun i hi => rfl) (fun i hi => by simp [MS.agd, MS.age, hi]) (fun i hi => rfl), o⟩
set_option maxRecDepth 100000 in
set_option maxHeartbeats 2000000 in
theorem get_sp (c : Cx 26) (G : Nat → Prop) (F : List Nat) (g : Nat) (s : MS) (n : Int) (w : World) (h : SPt c G F w g s) :
    Calls Tryz.prog 95 #[.pointer (some ⟨g, 26, none⟩), .int .i64 n] w fun e w' => ∃ v, e = .returned (.agg #[v, .int .i64 (s.ga n), .bool (s.gg n)]) ∧ SeesL w' w'.heap.size v (s.gd n) ∧ (s.gd n ≠ [] → OwnsL w' w.heap.size v (s.gd n)) ∧ Below w.heap.size w w' := by
  have HN := fun W => Lib.hid (minds_sp g n W)
  by_cases hn : isN n
  · rw [decide_eq_true hn] at HN
    rw [show s.ga n = s.a n.toNat by unfold MS.ga; rw [if_pos hn], show s.gg n = s.g n.toNat by unfold MS.gg; rw [if_pos hn], show s.gd n = s.d n.toNat by unfold MS.gd; rw [if_pos hn]]
    unfold isN at hn
    obtain ⟨i, rfl⟩ : ∃ i : Nat, n = i := ⟨n.toNat, by omega⟩
    have hi : i < 8 := by omega
    rw [Int.toNat_natCast]
    have hgl := SPt.lt h
    obtain ⟨A, c, c0, hD⟩ := SPt.cs h hi
    have c1 := SPt.ca h hi
    have c2 := SPt.cg h hi
    have h8 := h.2.len i hi
    clear h
    generalize s.d i = L at *
    generalize s.a i = a at *
    generalize s.g i = q at *
    have hS := (hD.1.1.alloc (.cells #[.slice none 0 0, .int .i64 0, .bool false] 72)).alloc (.cells #[.slice A L.length c, .int .i64 a, .bool q] 72)
    have hb0 := ((Below.refl w.heap.size w).alloc (Nat.le_refl _) (.cells #[.slice none 0 0, .int .i64 0, .bool false] 72)).alloc (by simp) (.cells #[.slice A L.length c, .int .i64 a, .bool q] 72)
    have hB4 := (Blk.new w w.heap.size rfl #[.slice none 0 0, .int .i64 0, .bool false] 72).alloc (.cells #[.slice A L.length c, .int .i64 a, .bool q] 72)
    have hB5 := Blk.new (w.alloc (.cells #[.slice none 0 0, .int .i64 0, .bool false] 72)) (w.heap.size + 1) (by simp) #[.slice A L.length c, .int .i64 a, .bool q] 72
    clear hD
    go_enter Tryz.func95, Tryz.ntmps95
    go_wp2_with fail
    refine (HN _).out.mono ?_
    rintro _ w1 ⟨rfl, rfl⟩
    have HCl := fun W (hW : SeesL W w.heap.size (.slice A L.length c) L) => Lib.hid (clone_b (.slice A L.length c) L W w.heap.size hW (by omega))
    go_wp2_with fail
    refine (HCl _ hS).out.mono ?_
    rintro _ w2 ⟨v2, rfl, ho2, hb2⟩
    have ho2 : OwnsL w2 (w.heap.size + 2) v2 L := ho2.base (Nat.le_of_eq (by simp))
    have hb2 : Below (w.heap.size + 2) _ w2 := hb2.mono (by simp)
    have hB4 := hB4.below hb2 (by simp)
    have hB5 := hB5.below hb2 (by simp)
    have hb3 := hb0.trans (hb2.mono (by simp))
    obtain ⟨A2, d2, rfl, -⟩ := ho2.sees.at_
    have x0 := hB4.cell 0 (x := .slice none 0 0) rfl
    have x1 := hB4.cell 1 (x := .int .i64 0) rfl
    have x2 := hB4.cell 2 (x := .bool false) rfl
    have y0 := hB5.cell 0 (x := .slice A L.length c) rfl
    have y1 := hB5.cell 1 (x := .int .i64 a) rfl
    have y2 := hB5.cell 2 (x := .bool q) rfl
    have f0 := hB4.frozen 0
    have f1 := hB4.frozen 1
    have f2 := hB4.frozen 2
    have f5 := hB5.frozen 0
    have hO := ((((ho2.setFar ⟨w.heap.size + 1, 0, none⟩ (.slice A2 L.length d2) (by simp)).setFar ⟨w.heap.size, 0, none⟩ (.slice A2 L.length d2) (by simp)).setFar ⟨w.heap.size, 1, none⟩ (.int .i64 a) (by simp)).setFar ⟨w.heap.size, 2, none⟩ (.bool q) (by simp))
    have HB := Lib.hid ((((hb3.setCell (p := ⟨w.heap.size + 1, 0, none⟩) (by simp) (.slice A2 L.length d2)).setCell (p := ⟨w.heap.size, 0, none⟩) (by simp) (.slice A2 L.length d2)).setCell (p := ⟨w.heap.size, 1, none⟩) (by simp) (.int .i64 a)).setCell (p := ⟨w.heap.size, 2, none⟩) (by simp) (.bool q))
    clear hB4 hB5 hb2 ho2 c0 c1 c2
    go_wp2
    refine bodyPost_ret (v := .agg #[.slice A2 L.length d2, .int .i64 a, .bool q]) ?_ rfl ?_
    · rw [results_cell rfl]
      go_simp
    · exact ⟨_, rfl, hO.sees, fun _ => hO.base (by omega), HB.out⟩
  · rw [decide_eq_false hn] at HN
    rw [show s.ga n = -1 by unfold MS.ga; rw [if_neg hn], show s.gg n = false by unfold MS.gg; rw [if_neg hn], show s.gd n = [] by unfold MS.gd; rw [if_neg hn]]
    clear h
    go_enter Tryz.func95, Tryz.ntmps95
    go_wp2_with fail
    refine (HN _).out.mono ?_
    rintro _ w1 ⟨rfl, rfl⟩
    have HV := fun W => Lib.hid (never_st W)
    have hB4 := Blk.new w w.heap.size rfl #[.slice none 0 0, .int .i64 0, .bool false] 72
    have hb0 := (Below.refl w.heap.size w).alloc (Nat.le_refl _) (.cells #[.slice none 0 0, .int .i64 0, .bool false] 72)
    go_wp2_with fail
    refine (HV _).out.mono ?_
    rintro _ w2 ⟨rfl, hb2⟩
    have hB4 := hB4.below hb2 (by simp)
    have hb3 := hb0.trans (hb2.mono (by simp))
    have x0 := hB4.cell 0 (x := .slice none 0 0) rfl
    have x1 := hB4.cell 1 (x := .int .i64 0) rfl
    have x2 := hB4.cell 2 (x := .bool false) rfl
    have f0 := hB4.frozen 0
    have f1 := hB4.frozen 1
    have f2 := hB4.frozen 2
    have HB := Lib.hid (((hb3.setCell (p := ⟨w.heap.size, 0, none⟩) (by simp) (.slice none 0 0)).setCell (p := ⟨w.heap.size, 1, none⟩) (by simp) (.int .i64 (-1))).setCell (p := ⟨w.heap.size, 2, none⟩) (by simp) (.bool false))
    clear hB4 hb0 hb2 hb3
    go_wp2
    refine bodyPost_ret (v := .agg #[.slice none 0 0, .int .i64 (-1), .bool false]) ?_ rfl ?_
    · rw [results_cell rfl]
      go_simp
    · exact ⟨_, rfl, SeesL.nil, fun h => absurd rfl h, HB.out⟩
set_option maxRecDepth 100000 in
set_option maxHeartbeats 2000000 in
theorem put_sp (c : Cx 26) (G : Nat → Prop) (F : List Nat) (g : Nat) (s : MS) (n : Int) (v : Value) (l : List Int) (B : Nat) (w : World) (h : SPt c G F w g s) (hg : g ∈ F) (hF : ∀ f, f ∈ F → f < w.heap.size) (hGn : ∀ b, w.heap.size ≤ b → G b) (hv : SeesL w B v l) (hl : bytesL l) :
    Calls Tryz.prog 126 #[.pointer (some ⟨g, 26, none⟩), .int .i64 n, v] w fun e w' => e = .returned (.tuple #[]) ∧ SPt c G F w' g (s.put n l) ∧ Only g w w' := by
  have HN := fun W => Lib.hid (minds_sp g n W)
  obtain ⟨A, c, rfl, v1, v2, v3, v4⟩ := hv.at_
  unfold maxLen at v2
  by_cases hn : isN n
  case neg =>
    rw [decide_eq_false hn] at HN
    rw [show s.put n l = s by unfold MS.put; rw [if_neg (fun h => hn h.1)]]
    clear v3 v4
    go_enter Tryz.func126, Tryz.ntmps126
    go_wp2_with fail
    refine (HN _).out.mono ?_
    rintro _ _ ⟨rfl, rfl⟩
    go_wp2
    exact bodyPost_end (results_none (by rfl) _ _ _) rfl ⟨rfl, h, Only.refl _ _⟩
  rw [decide_eq_true hn] at HN
  by_cases h8 : l.length ≤ 8
  case neg =>
    have q8 : decide (((l.length : Nat) : Int) ≤ 8) = false := decide_eq_false (by omega)
    rw [show s.put n l = s by unfold MS.put; rw [if_neg (fun h => h8 h.2)]]
    clear v3 v4
    go_enter Tryz.func126, Tryz.ntmps126
    go_wp2_with fail
    refine (HN _).out.mono ?_
    rintro _ _ ⟨rfl, rfl⟩
    go_wp2
    exact bodyPost_end (results_none (by rfl) _ _ _) rfl ⟨rfl, h, Only.refl _ _⟩
  have q8 : decide (((l.length : Nat) : Int) ≤ 8) = true := decide_eq_true (by omega)
  rw [show s.put n l = ⟨upd s.d n.toNat l, upd s.a n.toNat 0, s.g⟩ by unfold MS.put; rw [if_pos ⟨hn, h8⟩]]
  unfold isN at hn
  obtain ⟨i, rfl⟩ : ∃ i : Nat, n = i := ⟨n.toNat, by omega⟩
  have hi : i < 8 := by omega
  rw [Int.toNat_natCast]
  have hv1 := Lib.hid hv
  have HCl := fun W (hW : SeesL W B (.slice A l.length c) l) => Lib.hid (clone_b (.slice A l.length c) l W B hW (by omega))
  clear v3 v4 hv
  go_enter Tryz.func126, Tryz.ntmps126
  go_wp2_with fail
  refine (HN _).out.mono ?_
  rintro _ w1 ⟨rfl, rfl⟩
  go_wp2_with fail
  go_region_with (first
    | (go_at_call 64; refine (HCl _ hv1.out.drew).out.mono ?_; rintro _ w2 ⟨v2, rfl, ho2, hb2⟩; have hb2 : Below w1.heap.size w1 w2 := ((Below.refl w1.heap.size w1).drew).trans hb2; have hD2 : DatG G F w2 v2 l := ⟨OwnsL.dat (F := F) ho2 hF, fun _ b hb => hGn b (ho2.lt b hb).1⟩; (obtain ⟨A2, d2, rfl, -⟩ := hD2.1.1.at_); have hE2 := Lib.hid hD2; clear hD2; have h2 := SPt.below h hb2; have cd2 := SPt.cd h2 hi; have ca2 := SPt.ca h2 hi; have f2 := SPt.frozen h2 (26 + i * 3); have f2' := SPt.frozen h2 (26 + i * 3 + 1); (obtain ⟨u2, cu2, -⟩ := cd2); have o2 := Lib.hid (only_of_below g hb2); have h2 := Lib.hid h2; clear hb2 ho2))
  all_goals
    go_wp2
    exact bodyPost_end (results_none (by rfl) _ _ _) rfl ⟨rfl, SPt.seta (SPt.setd h2.out hg hi hE2.out h8 hl) hg hi 0 (by omega) (by omega), (o2.out.set _ _).set _ _⟩
end Go.Proofs.YtpdenmcacaajkaaGreat
