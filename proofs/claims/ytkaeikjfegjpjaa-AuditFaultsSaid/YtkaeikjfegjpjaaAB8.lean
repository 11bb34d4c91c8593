/- Texts AuE, AuF, TbG, GdF in one. For what each says in front of its theorems. -/
import Derived.Laws.ResultCell
import Derived.Test.YtkaeikjfegjpjaaAB2
import Derived.Test.YtkaeikjfegjpjaaAB3
import Derived.Test.YtkaeikjfegjpjaaAB5
import Derived.Test.YtkaeikjfegjpjaaAB6
/-! ### AuE -/
namespace Go.Proofs.Ytkaeikjfegjpjaa
open Go.RowKit

set_option maxRecDepth 100000 in
set_option maxHeartbeats 4000000 in
theorem Hit_au (v : Value) (l : List Ac) (w : World) (hs : SeesAc w w.heap.size v l) :
    Calls Try.prog 13 #[v] w fun e w' => e = .returned (.int .i64 (auHit l : Nat)) ∧ Below w.heap.size w w' := by
  unfold auHit
  obtain ⟨A, c, rfl, hlen, hc, hcell⟩ := hs.at_
  unfold maxLen at hc
  have hZ := Lib.hid (hitAs_zero l)
  have hS := fun k h => Lib.hid (hitAs_succ l k h)
  have hL := fun k => hitAs_lt l k
  clear hs
  go_enter Try.func13, Try.ntmps13
  go_wp2
  go_loopw [3, 10] (fun m i wr => ∃ k : Nat, k ≤ l.length ∧ i = .int .i64 k ∧ m = .int .i64 (hitAs l k : Nat) ∧ Below w.heap.size w wr) (fun _ i _ => l.length - (intOf i).toNat)
  case atStart => exact ⟨0, by omega, rfl, rfl, Below.refl _ _⟩
  case round =>
    obtain ⟨k, hk, rfl, rfl, hB⟩ := hrel
    rename World => w1
    by_cases hlt : k < l.length
    · have q1 : decide ((k : Int) < (l.length : Nat)) = true := by simp; omega
      obtain ⟨b, off, rfl, hbb, hd⟩ := hcell (by omega)
      obtain ⟨c0, c1, c2, ⟨vd, c3, sd⟩, vf, c4, sf⟩ := (hd k hlt).below hB hbb
      have hS := hS k hlt
      have hM := hL k
      generalize hitAs l k = M at *
      generalize l.getD k default = x at *
      clear hcell hL hZ
      obtain ⟨Ad, cd, rfl, -⟩ := sd.at_
      obtain ⟨Af, cf, rfl, hl0, hcf, hff⟩ := sf.at_
      unfold maxLen at hcf
      have hBx := Lib.hid (hB.alloc hB.size (.cells #[.int .i64 x.k, .int .i64 x.i, .int .i64 x.n, .slice Ad x.d.length cd, .slice Af x.f.length cf] 35))
      have hA : Hid (hitA M x = if x.k = 5 then hitFs M x.f x.f.length else M) := Lib.hid rfl
      by_cases h5 : x.k = 5
      · rw [if_pos h5] at hA
        rw [h5] at c0
        have cc4 : (w1.alloc (.cells #[.int .i64 5, .int .i64 x.i, .int .i64 x.n, .slice Ad x.d.length cd, .slice Af x.f.length cf] 35)).cell? ⟨b, off + k * 5 + 4, none⟩ = some (.slice Af x.f.length cf) := (World.cell?_alloc_lt _ _ _ (Nat.lt_of_lt_of_le hbb hB.size)).trans c4
        have hFz := Lib.hid (hitFs_zero M x.f)
        have hFs := fun j h => Lib.hid (hitFs_succ M x.f j h)
        have hFl := fun j => hitFs_lt hM x.f j
        have hBy := hBx
        rw [h5] at hBy
        clear hBx
        go_wp2
        go_loopw [3, 20] (fun m i wr => ∃ j : Nat, j ≤ x.f.length ∧ i = .int .i64 j ∧ m = .int .i64 (hitFs M x.f j : Nat) ∧ Below w1.heap.size w1 wr) (fun _ i _ => x.f.length - (intOf i).toNat)
        case atStart => exact ⟨0, by omega, rfl, rfl, (Below.refl _ _).alloc (Nat.le_refl _) _⟩
        case round =>
          obtain ⟨j, hj, rfl, rfl, hBj⟩ := hrel
          have cz4 := (hBj.cell (p := ⟨b, off + k * 5 + 4, none⟩) (Nat.lt_of_lt_of_le hbb hB.size)).trans c4
          by_cases hlj : j < x.f.length
          · have q2 : decide ((j : Int) < (x.f.length : Nat)) = true := by simp; omega
            obtain ⟨g, go, rfl, hgb, hg⟩ := hff (by omega)
            obtain ⟨g0, g1, g2, u, g3, hu⟩ := hg j hlj
            obtain ⟨A', cc, rfl, -⟩ := hu.at_
            have hgw : g < w1.heap.size := Nat.lt_of_lt_of_le hgb hB.size
            have g0 := (hBj.cell (p := ⟨g, go + j * 4, none⟩) hgw).trans g0
            have g1 := (hBj.cell (p := ⟨g, go + j * 4 + 1, none⟩) hgw).trans g1
            have g2 := (hBj.cell (p := ⟨g, go + j * 4 + 2, none⟩) hgw).trans g2
            have g3 := (hBj.cell (p := ⟨g, go + j * 4 + 3, none⟩) hgw).trans g3
            have hFs := hFs j hlj
            have hm := hFl j
            generalize hitFs M x.f j = m at *
            have hBz := Lib.hid (hBj.alloc hBj.size (.cells #[.int .i64 (x.f.getD j default).k, .int .i64 (x.f.getD j default).n, .int .i64 (x.f.getD j default).a, .slice A' (x.f.getD j default).d.length cc] 32))
            generalize x.f.getD j default = f at *
            have hH : Hid (hitF m f = if f.k ≠ 4 ∧ f.k ≠ 7 ∧ 0 ≤ f.n ∧ f.n < 8 then ins m f.n.toNat else m) := Lib.hid rfl
            clear hff hg hu hFz hFl
            generalize f.d.length = dl at *
            generalize f.a = fa at *
            by_cases hc8 : f.k ≠ 4 ∧ f.k ≠ 7 ∧ 0 ≤ f.n ∧ f.n < 8
            · rw [if_pos hc8] at hH
              obtain ⟨h4, h7, hn0, hn8⟩ := hc8
              obtain ⟨fn, efn⟩ : ∃ fn : Nat, f.n = fn := ⟨f.n.toNat, by omega⟩
              rw [efn] at g1 hBz hH hn0 hn8
              simp only [Int.toNat_natCast] at hH
              have r4 : (f.k == 4) = false := by rw [beq_eq_false_iff_ne]; exact h4
              have r7 : (f.k == 7) = false := by rw [beq_eq_false_iff_ne]; exact h7
              have n4 : (f.k != 4) = true := by rw [bne, r4]; rfl
              have n7 : (f.k != 7) = true := by rw [bne, r7]; rfl
              have r0 : decide ((0 : Int) ≤ (fn : Int)) = true := decide_eq_true (by omega)
              have r8 : decide ((fn : Int) < 8) = true := decide_eq_true (by omega)
              have r9 : decide ((fn : Int) ≤ 7) = true := decide_eq_true (by omega)
              have r8n : decide (fn < 8) = true := decide_eq_true (by omega)
              have r9n : decide (fn ≤ 7) = true := decide_eq_true (by omega)
              have o1 := or_w hm (show fn < 8 by omega)
              have wu : IntKind.u64.wrap (fn : Int) = fn := by rw [IntKind.wrap_u64]; omega
              generalize f.k = fk at *
              go_wp2
              go_roundw
              case rel => exact ⟨j + 1, by omega, by go_num, by rw [hFs.out, hH.out], hBz.out⟩
              case measure => simp [intOf]; omega
            · rw [if_neg hc8] at hH
              generalize f.n = fn at *
              by_cases h4 : f.k = 4
              · rw [h4] at g0 hBz
                go_wp2
                go_roundw
                case rel => exact ⟨j + 1, by omega, by go_num, by rw [hFs.out, hH.out], hBz.out⟩
                case measure => simp [intOf]; omega
              · have r4 : (f.k == 4) = false := by rw [beq_eq_false_iff_ne]; exact h4
                by_cases h7 : f.k = 7
                · rw [h7] at g0 hBz
                  go_wp2
                  go_roundw
                  case rel => exact ⟨j + 1, by omega, by go_num, by rw [hFs.out, hH.out], hBz.out⟩
                  case measure => simp [intOf]; omega
                · have r7 : (f.k == 7) = false := by rw [beq_eq_false_iff_ne]; exact h7
                  generalize f.k = fk at *
                  by_cases h0 : 0 ≤ fn
                  · have r0 : decide ((0 : Int) ≤ fn) = true := decide_eq_true (by omega)
                    have r8 : decide (fn < (8 : Int)) = false := decide_eq_false (by omega)
                    have r9 : decide (fn ≤ (7 : Int)) = false := decide_eq_false (by omega)
                    go_wp2
                    go_roundw
                    case rel => exact ⟨j + 1, by omega, by go_num, by rw [hFs.out, hH.out], hBz.out⟩
                    case measure => simp [intOf]; omega
                  · have r0 : decide ((0 : Int) ≤ fn) = false := decide_eq_false (by omega)
                    go_wp2
                    go_roundw
                    case rel => exact ⟨j + 1, by omega, by go_num, by rw [hFs.out, hH.out], hBz.out⟩
                    case measure => simp [intOf]; omega
          · obtain rfl : j = x.f.length := by omega
            have q2 : decide ((x.f.length : Int) < (x.f.length : Nat)) = false := by simp
            have hBk := hB.trans (hBj.mono hB.size)
            go_wp2
            go_roundw
            case rel => exact ⟨k + 1, by omega, by go_num, by rw [hS.out, hA.out], hBk⟩
            case measure => simp [intOf]; omega
      · rw [if_neg h5] at hA
        have r5 : (x.k == 5) = false := by rw [beq_eq_false_iff_ne]; exact h5
        generalize x.k = xk at *
        go_wp2
        go_roundw
        case rel => exact ⟨k + 1, by omega, by go_num, by rw [hS.out, hA.out], hBx.out⟩
        case measure => simp [intOf]; omega
    · obtain rfl : k = l.length := by omega
      have q1 : decide ((l.length : Int) < (l.length : Nat)) = false := by simp
      go_wp2
      go_ret
      exact ⟨rfl, hB⟩
set_option maxRecDepth 100000 in
set_option maxHeartbeats 4000000 in
theorem HitR_au (v : Value) (l : List Ac) (w : World) (hs : SeesAc w w.heap.size v l) :
    Calls Try.prog 14 #[v] w fun e w' => e = .returned (.int .i64 (auHit l : Nat)) ∧ Below w.heap.size w w' := by
  unfold auHit
  obtain ⟨A, c, rfl, hlen, hc, hcell⟩ := hs.at_
  unfold maxLen at hc
  have hZ := Lib.hid (hitAs_zero l)
  have hS := fun k h => Lib.hid (hitAs_succ l k h)
  have hL := fun k => hitAs_lt l k
  clear hs
  go_enter Try.func14, Try.ntmps14
  go_wp2
  go_loopw [3, 4] (fun m i wr => ∃ k : Nat, k ≤ l.length ∧ i = .int .i64 k ∧ m = .int .i64 (hitAs l k : Nat) ∧ Below w.heap.size w wr) (fun _ i _ => l.length - (intOf i).toNat)
  case atStart => exact ⟨0, by omega, rfl, rfl, Below.refl _ _⟩
  case round =>
    obtain ⟨k, hk, rfl, rfl, hB⟩ := hrel
    rename World => w1
    by_cases hlt : k < l.length
    · have q1 : decide ((k : Int) < (l.length : Nat)) = true := by simp; omega
      obtain ⟨b, off, rfl, hbb, hd⟩ := hcell (by omega)
      obtain ⟨c0, c1, c2, ⟨vd, c3, sd⟩, vf, c4, sf⟩ := (hd k hlt).below hB hbb
      have hS := hS k hlt
      have hM := hL k
      generalize hitAs l k = M at *
      generalize l.getD k default = x at *
      clear hcell hL hZ
      obtain ⟨Ad, cd, rfl, -⟩ := sd.at_
      obtain ⟨Af, cf, rfl, hl0, hcf, hff⟩ := sf.at_
      unfold maxLen at hcf
      have hBx := Lib.hid hB
      have hA : Hid (hitA M x = if x.k = 5 then hitFs M x.f x.f.length else M) := Lib.hid rfl
      by_cases h5 : x.k = 5
      · rw [if_pos h5] at hA
        rw [h5] at c0
        have cc4 : w1.cell? ⟨b, off + k * 5 + 4, none⟩ = some (.slice Af x.f.length cf) := c4
        have hFz := Lib.hid (hitFs_zero M x.f)
        have hFs := fun j h => Lib.hid (hitFs_succ M x.f j h)
        have hFl := fun j => hitFs_lt hM x.f j
        have hBy := hBx
        clear hBx
        go_wp2
        go_loopw [3, 5] (fun m i wr => ∃ j : Nat, j ≤ x.f.length ∧ i = .int .i64 j ∧ m = .int .i64 (hitFs M x.f j : Nat) ∧ Below w1.heap.size w1 wr) (fun _ i _ => x.f.length - (intOf i).toNat)
        case atStart => exact ⟨0, by omega, rfl, rfl, Below.refl _ _⟩
        case round =>
          obtain ⟨j, hj, rfl, rfl, hBj⟩ := hrel
          have cz4 := (hBj.cell (p := ⟨b, off + k * 5 + 4, none⟩) (Nat.lt_of_lt_of_le hbb hB.size)).trans c4
          by_cases hlj : j < x.f.length
          · have q2 : decide ((j : Int) < (x.f.length : Nat)) = true := by simp; omega
            obtain ⟨g, go, rfl, hgb, hg⟩ := hff (by omega)
            obtain ⟨g0, g1, g2, u, g3, hu⟩ := hg j hlj
            obtain ⟨A', cc, rfl, -⟩ := hu.at_
            have hgw : g < w1.heap.size := Nat.lt_of_lt_of_le hgb hB.size
            have g0 := (hBj.cell (p := ⟨g, go + j * 4, none⟩) hgw).trans g0
            have g1 := (hBj.cell (p := ⟨g, go + j * 4 + 1, none⟩) hgw).trans g1
            have g2 := (hBj.cell (p := ⟨g, go + j * 4 + 2, none⟩) hgw).trans g2
            have g3 := (hBj.cell (p := ⟨g, go + j * 4 + 3, none⟩) hgw).trans g3
            have hFs := hFs j hlj
            have hm := hFl j
            generalize hitFs M x.f j = m at *
            have hBz := Lib.hid (hBj.alloc hBj.size (.cells #[.int .i64 (x.f.getD j default).k, .int .i64 (x.f.getD j default).n, .int .i64 (x.f.getD j default).a, .slice A' (x.f.getD j default).d.length cc] 32))
            generalize x.f.getD j default = f at *
            have hH : Hid (hitF m f = if f.k ≠ 4 ∧ f.k ≠ 7 ∧ 0 ≤ f.n ∧ f.n < 8 then ins m f.n.toNat else m) := Lib.hid rfl
            clear hff hg hu hFz hFl
            generalize f.d.length = dl at *
            generalize f.a = fa at *
            by_cases hc8 : f.k ≠ 4 ∧ f.k ≠ 7 ∧ 0 ≤ f.n ∧ f.n < 8
            · rw [if_pos hc8] at hH
              obtain ⟨h4, h7, hn0, hn8⟩ := hc8
              obtain ⟨fn, efn⟩ : ∃ fn : Nat, f.n = fn := ⟨f.n.toNat, by omega⟩
              rw [efn] at g1 hBz hH hn0 hn8
              simp only [Int.toNat_natCast] at hH
              have r4 : (f.k == 4) = false := by rw [beq_eq_false_iff_ne]; exact h4
              have r7 : (f.k == 7) = false := by rw [beq_eq_false_iff_ne]; exact h7
              have n4 : (f.k != 4) = true := by rw [bne, r4]; rfl
              have n7 : (f.k != 7) = true := by rw [bne, r7]; rfl
              have r0 : decide ((0 : Int) ≤ (fn : Int)) = true := decide_eq_true (by omega)
              have r8 : decide ((fn : Int) < 8) = true := decide_eq_true (by omega)
              have r9 : decide ((fn : Int) ≤ 7) = true := decide_eq_true (by omega)
              have r8n : decide (fn < 8) = true := decide_eq_true (by omega)
              have r9n : decide (fn ≤ 7) = true := decide_eq_true (by omega)
              have o1 := or_w hm (show fn < 8 by omega)
              have wu : IntKind.u64.wrap (fn : Int) = fn := by rw [IntKind.wrap_u64]; omega
              generalize f.k = fk at *
              go_wp2
              go_roundw
              case rel => exact ⟨j + 1, by omega, by go_num, by rw [hFs.out, hH.out], hBz.out⟩
              case measure => simp [intOf]; omega
            · rw [if_neg hc8] at hH
              generalize f.n = fn at *
              by_cases h4 : f.k = 4
              · rw [h4] at g0 hBz
                go_wp2
                go_roundw
                case rel => exact ⟨j + 1, by omega, by go_num, by rw [hFs.out, hH.out], hBz.out⟩
                case measure => simp [intOf]; omega
              · have r4 : (f.k == 4) = false := by rw [beq_eq_false_iff_ne]; exact h4
                by_cases h7 : f.k = 7
                · rw [h7] at g0 hBz
                  go_wp2
                  go_roundw
                  case rel => exact ⟨j + 1, by omega, by go_num, by rw [hFs.out, hH.out], hBz.out⟩
                  case measure => simp [intOf]; omega
                · have r7 : (f.k == 7) = false := by rw [beq_eq_false_iff_ne]; exact h7
                  generalize f.k = fk at *
                  by_cases h0 : 0 ≤ fn
                  · have r0 : decide ((0 : Int) ≤ fn) = true := decide_eq_true (by omega)
                    have r8 : decide (fn < (8 : Int)) = false := decide_eq_false (by omega)
                    have r9 : decide (fn ≤ (7 : Int)) = false := decide_eq_false (by omega)
                    go_wp2
                    go_roundw
                    case rel => exact ⟨j + 1, by omega, by go_num, by rw [hFs.out, hH.out], hBz.out⟩
                    case measure => simp [intOf]; omega
                  · have r0 : decide ((0 : Int) ≤ fn) = false := decide_eq_false (by omega)
                    go_wp2
                    go_roundw
                    case rel => exact ⟨j + 1, by omega, by go_num, by rw [hFs.out, hH.out], hBz.out⟩
                    case measure => simp [intOf]; omega
          · obtain rfl : j = x.f.length := by omega
            have q2 : decide ((x.f.length : Int) < (x.f.length : Nat)) = false := by simp
            have hBk := hB.trans (hBj.mono hB.size)
            go_wp2
            go_roundw
            case rel => exact ⟨k + 1, by omega, by go_num, by rw [hS.out, hA.out], hBk⟩
            case measure => simp [intOf]; omega
      · rw [if_neg h5] at hA
        have r5 : (x.k == 5) = false := by rw [beq_eq_false_iff_ne]; exact h5
        generalize x.k = xk at *
        go_wp2
        go_roundw
        case rel => exact ⟨k + 1, by omega, by go_num, by rw [hS.out, hA.out], hBx.out⟩
        case measure => simp [intOf]; omega
    · obtain rfl : k = l.length := by omega
      have q1 : decide ((l.length : Int) < (l.length : Nat)) = false := by simp
      go_wp2
      go_ret
      exact ⟨rfl, hB⟩
end Go.Proofs.Ytkaeikjfegjpjaa

/-! ### AuF -/
namespace Go.Proofs.Ytkaeikjfegjpjaa
open Go.RowKit
open Tb (D T)

/-- The least that listens, of the first k. -/
def leastL (l : List D) (k : Nat) : Int := (l.take k).foldl (fun m d => min m d.li) 200
theorem leastL_zero (l : List D) : leastL l 0 = 200 := rfl
theorem leastL_succ (l : List D) (k : Nat) (hk : k < l.length) : leastL l (k + 1) = if (l.getD k default).li < leastL l k then (l.getD k default).li else leastL l k := by
  unfold leastL
  rw [List.take_add_one, List.foldl_append, List.getD_eq_getElem?_getD, List.getElem?_eq_getElem hk]
  show min _ _ = _
  simp only [Option.getD_some, Int.min_def]
  split <;> split <;> omega
theorem is_few {t : T} (h : t.is = true) : 4 ≤ t.ns.length ∧ t.ns.length ≤ 8 := by
  simp only [T.is, Tb.are, Bool.and_eq_true, Tb.wi_iff] at h
  omega
theorem is_li {t : T} (h : t.is = true) (k : Nat) (hk : k < t.ns.length) : 0 ≤ (t.ns.getD k default).li ∧ (t.ns.getD k default).li ≤ 200 := by
  simp only [T.is, Tb.are, Bool.and_eq_true, Tb.wi_iff, Tb.oks_iff] at h
  have := h.1.2.1 k hk
  simp only [Tb.ok, Bool.and_eq_true, Tb.wi_iff] at this
  omega
theorem leastL_bd {t : T} (h : t.is = true) : ∀ k, k ≤ t.ns.length → 0 ≤ leastL t.ns k ∧ leastL t.ns k ≤ 200
  | 0, _ => by rw [leastL_zero]; omega
  | k + 1, hk => by
    have h1 := leastL_bd h k (by omega)
    have h2 := is_li h k (by omega)
    rw [leastL_succ _ _ (by omega)]
    split <;> omega
def leadV (t : T) : Int := if t.is then leastL t.ns t.ns.length + t.ns.length else 0
set_option maxRecDepth 100000 in
set_option maxHeartbeats 4000000 in
theorem Lead_au (t : T) (tv : Value) (w : World) (htv : SeesT w w.heap.size tv t.ns) :
    Calls Try.prog 18 #[tabV t tv] w fun e w' => e = .returned (.int .i64 (leadV t)) ∧ Below w.heap.size w w' := by
  obtain ⟨TA, tc, rfl, htc, htc2, hsee, -⟩ := htv.at_
  have hIs := fun W (h : SeesT W W.heap.size (.slice TA t.ns.length tc) t.ns) => Lib.hid (is_tb t _ W _ (Nat.le_refl _) h)
  have hfew := @is_few t
  have hbd := @leastL_bd t
  have her : leadV t = if t.is then leastL t.ns t.ns.length + t.ns.length else 0 := rfl
  rw [her]
  clear her
  obtain ⟨ns, dr, wi, lm⟩ := t
  simp only at htv hIs hfew hbd hsee htc
  unfold tabV at hIs ⊢
  simp only at hIs ⊢
  have hb0 := (Below.refl w.heap.size w).alloc (Nat.le_refl _) (.cells #[.slice TA ns.length tc, .int .i64 dr, .int .i64 wi, .int .i64 lm] 24)
  have hT := Blk.new w _ rfl #[.slice TA ns.length tc, .int .i64 dr, .int .i64 wi, .int .i64 lm] 24
  have hI := hIs _ ((htv.below hb0).more (by simp))
  cases his : T.is ⟨ns, dr, wi, lm⟩
  · rw [his] at hI
    rw [if_neg (by simp)]
    clear hIs hfew hbd hsee
    go_enter Try.func18, Try.ntmps18
    go_wp2_with fail
    refine hI.out.mono ?_
    rintro e w1 ⟨rfl, hb⟩
    go_wp2
    go_ret
    exact ⟨rfl, hb0.trans (hb.mono hb0.size)⟩
  · rw [his] at hI
    rw [if_pos rfl]
    have hn := hfew his
    have hbd := hbd his
    have hS := fun k h => Lib.hid (leastL_succ ns k h)
    have hZ := Lib.hid (leastL_zero ns)
    clear hIs hfew his
    go_enter Try.func18, Try.ntmps18
    go_wp2_with fail
    refine hI.out.mono ?_
    rintro e w1 ⟨rfl, hb⟩
    have hT1 := hT.below hb hT.lt
    have hB1 := hb0.trans (hb.mono hb0.size)
    have t0 := hT1.cell 0 rfl
    clear hT hb hb0 hI
    go_wp2_with fail
    clear t0
    go_loopw [3, 12] (fun m i wr => ∃ k : Nat, k ≤ ns.length ∧ i = .int .i64 k ∧ m = .int .i64 (leastL ns k) ∧ Blk wr w.heap.size #[.slice TA ns.length tc, .int .i64 dr, .int .i64 wi, .int .i64 lm] 24 ∧ Below w.heap.size w wr) (fun _ i _ => ns.length - (intOf i).toNat)
    case atStart => exact ⟨0, by omega, rfl, by rw [hZ.out], hT1, hB1⟩
    case round =>
      clear hT1 hB1
      obtain ⟨k, hk, rfl, rfl, hT, hB⟩ := hrel
      by_cases hlt : k < ns.length
      · have q1 : decide ((k : Int) < (ns.length : Nat)) = true := by simp; omega
        obtain ⟨b, off, rfl, hbb, hd⟩ := hsee.below hB (by omega)
        obtain ⟨e0, e1, e2, e3⟩ := hd k hlt
        have hS := hS k hlt
        generalize leastL ns k = M at *
        generalize ns.getD k default = d at *
        have hBx := Lib.hid (hB.alloc hB.size (.cells #[.bool d.sy, .bool d.inf, .int .i64 d.li, .int .i64 d.sz] 41))
        have hTx := Lib.hid (hT.alloc (.cells #[.bool d.sy, .bool d.inf, .int .i64 d.li, .int .i64 d.sz] 41))
        clear hd hsee hT hB hbd
        by_cases hm : d.li < M
        · rw [if_pos hm] at hS
          have r1 : decide (d.li < M) = true := decide_eq_true hm
          go_wp2
          go_roundw
          case rel => exact ⟨k + 1, by omega, by go_num, by rw [hS.out], hTx.out, hBx.out⟩
          case measure => simp [intOf]; omega
        · rw [if_neg hm] at hS
          have r1 : decide (d.li < M) = false := decide_eq_false hm
          go_wp2
          go_roundw
          case rel => exact ⟨k + 1, by omega, by go_num, by rw [hS.out], hTx.out, hBx.out⟩
          case measure => simp [intOf]; omega
      · obtain rfl : k = ns.length := by omega
        have q1 : decide ((ns.length : Int) < (ns.length : Nat)) = false := by simp
        have t0 := hT.cell 0 rfl
        have hb' := hbd ns.length (by omega)
        have z1 : IntKind.i64.wrap (leastL ns ns.length + (ns.length : Int)) = leastL ns ns.length + (ns.length : Int) := IntWalk.i64_in _ (by omega)
        go_wp2
        go_ret
        exact ⟨rfl, hB⟩
end Go.Proofs.Ytkaeikjfegjpjaa

/-! ### TbG -/
namespace Go.Proofs.Ytkaeikjfegjpjaa
open Go.RowKit
open Tb (D T)

theorem two_ok (n : Int) (h : 0 ≤ n ∧ n ≤ 65535) : IntKind.u8.wrap (n / 256) = n / 256 ∧ IntKind.u8.wrap n = n % 256 := by
  rw [IntKind.wrap_u8, IntKind.wrap_u8]
  omega
theorem or_pair (x y : Int) (hx : 0 ≤ x ∧ x < 256) (hy : 0 ≤ y ∧ y < 256) : bits BinOp.or IntKind.i64 (x * 256) y = x * 256 + y := by
  obtain ⟨X, rfl⟩ := Int.eq_ofNat_of_zero_le hx.1
  obtain ⟨Y, rfl⟩ := Int.eq_ofNat_of_zero_le hy.1
  have h1 : X < 256 := by omega
  have h2 : Y < 256 := by omega
  show IntKind.i64.wrap ((BitVec.ofInt 64 ((X : Int) * 256) ||| BitVec.ofInt 64 (Y : Int)).toNat : Int) = _
  have e : (X : Int) * 256 = ((X * 256 : Nat) : Int) := by omega
  rw [e, BitVec.toNat_or, BitVec.toNat_ofInt, BitVec.toNat_ofInt, IntKind.wrap_i64]
  have e1 : ((((X * 256 : Nat) : Int) % ((2 ^ 64 : Nat) : Int))).toNat = X <<< 8 := by rw [Nat.shiftLeft_eq]; omega
  have e2 : (((Y : Int) % ((2 ^ 64 : Nat) : Int))).toNat = Y := by omega
  rw [e1, e2, ← Nat.shiftLeft_add_eq_or_of_lt (b := Y) (i := 8) (by omega) X, Nat.shiftLeft_eq]
  omega
/-- A node of the call's own goes behind a list. -/
theorem info_def : (Try.prog.info? 41).map (fun i => (i.zero, i.size, i.bytes)) = some (some (.agg #[.bool false, .bool false, .int .i64 0, .int .i64 0]), 4, 24) := by kernel_rfl
theorem OwnsD.snoc {w : World} {B : Nat} {v : Value} {l : List D} {d : D} (h : w.ownsRow B 41 4 v (l.length + 1) (l.flatMap dc ++ dc d)) : OwnsD w B v (l ++ [d]) := by
  unfold OwnsD
  rw [List.length_append, List.flatMap_append]
  simpa using h
theorem defs_room {n : Nat} (h : n ≤ 100000) : n + 1 ≤ maxLen ∧ (n + 1) * 24 ≤ 140737488355328 := ⟨by unfold maxLen; omega, by omega⟩
theorem src_def (w : World) (d : D) (g n c : Nat) (hn : n = 1) (hd : AtD w g 0 d) : Src w (.slice (some ⟨g, 0, none⟩) n c) 4 1 (dc d) := by
  subst hn
  refine .inr ⟨_, c, rfl, rfl, fun j x hj => ?_, fun x hx => ?_⟩
  · match j, hj with
    | 0, hj => simp [dc] at hj; subst hj; exact hd.c0
    | 1, hj => simp [dc] at hj; subst hj; exact hd.c1
    | 2, hj => simp [dc] at hj; subst hj; exact hd.c2
    | 3, hj => simp [dc] at hj; subst hj; exact hd.c3
    | j + 4, hj => simp [dc] at hj
  · simp only [dc, List.mem_cons, List.not_mem_nil, or_false] at hx
    rcases hx with rfl | rfl | rfl | rfl <;> rfl
theorem atD_new (w : World) (d : D) (t : TypeId) (g : Nat) (hg : g = w.heap.size) : AtD (w.alloc (.cells #[.bool d.sy, .bool d.inf, .int .i64 d.li, .int .i64 d.sz] t)) g 0 d :=
  ⟨by rw [World.cell?_alloc_at _ _ _ _ hg]; rfl, by rw [World.cell?_alloc_at _ _ _ _ hg]; rfl, by rw [World.cell?_alloc_at _ _ _ _ hg]; rfl, by rw [World.cell?_alloc_at _ _ _ _ hg]; rfl⟩
end Go.Proofs.Ytkaeikjfegjpjaa

/-! ### GdF -/
namespace Go.Proofs.Ytkaeikjfegjpjaa
open Go.RowKit
open Tb (D T)

def gsmD (i : Nat) : D := ⟨decide ((i : Int) < 4) || ((i : Int) % 2 == 0), ((i : Int) % 3 == 0), 20 + 3 * ((i : Int) * 5 % 8), 4⟩
def gsmL (n : Nat) : List D := (List.range n).map gsmD
def gsmT (n : Nat) (dr : Int) : T := ⟨gsmL n, dr, 4 * dr + 6, 4 * dr + 9⟩
theorem gsmL_length (n : Nat) : (gsmL n).length = n := by simp [gsmL]
theorem gsmL_succ (n : Nat) : gsmL (n + 1) = gsmL n ++ [gsmD n] := by simp [gsmL, List.range_succ]
theorem gsmL_get (n k : Nat) (hk : k < n) : (gsmL n).getD k default = gsmD k := by simp [gsmL, List.getD_eq_getElem?_getD, hk]
theorem some_is (n : Nat) (dr : Int) (h4 : 4 ≤ n) (h8 : n ≤ 8) (hd : 0 ≤ dr ∧ dr ≤ 200) : (gsmT n dr).is = true := by
  have ha : Tb.are (gsmL n) = true := by
    rcases (by omega : n = 4 ∨ n = 5 ∨ n = 6 ∨ n = 7 ∨ n = 8) with rfl | rfl | rfl | rfl | rfl <;> decide +kernel
  simp only [T.is, Tb.rest, gsmT, ha, Bool.true_and, Bool.and_eq_true, Tb.wi_iff]
  omega
theorem some_few (n : Nat) (dr : Int) (h4 : n < 4) : (gsmT n dr).is = false := by
  have ha : Tb.are (gsmL n) = false := by
    rcases (by omega : n = 0 ∨ n = 1 ∨ n = 2 ∨ n = 3) with rfl | rfl | rfl | rfl <;> decide +kernel
  simp only [T.is, gsmT, ha, Bool.false_and]
end Go.Proofs.Ytkaeikjfegjpjaa
