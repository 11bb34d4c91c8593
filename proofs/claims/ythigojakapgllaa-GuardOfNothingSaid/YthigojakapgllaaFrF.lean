/- The contracts of package frame's sum and read; of bytes.Clone. -/
import Derived.Test.YthigojakapgllaaFrE
import Derived.Laws.ResultCell
namespace Go.Proofs.Ythigojakapgllaa
open Go.RowKit
open Fr (St F)

theorem SeesL.alloc {w : World} {B : Nat} {v : Value} {l : List Int} (h : SeesL w B v l) (o : Obj) : SeesL (w.alloc o) B v l := ⟨by
  obtain ⟨A, c, rfl, h1, h2, h3, h4⟩ := h.at_
  refine ⟨A, c, rfl, h1, h2, fun h0 => ?_, h4⟩
  obtain ⟨b, off, e, hb, hc⟩ := h3 h0
  exact ⟨b, off, e, hb, fun k hk => Lib.cell?_alloc_some o (hc k hk)⟩⟩
theorem clone_any (v : Value) (l : List Int) (w : World) (B : Nat) (hv : SeesL w B v l) (hlen : l.length ≤ 140737488355328) :
    Calls Try.prog 46 #[v] w fun e w' => ∃ v', e = .returned v' ∧ OwnsL w' w.heap.size v' l ∧ Below w.heap.size w w' := by
  obtain ⟨A, c, rfl, h1, h2, h3, h4⟩ := hv.at_
  cases A with
  | none =>
    obtain ⟨hl, rfl⟩ := h4 rfl
    have hl' := List.length_eq_zero_iff.1 hl
    subst hl'
    clear h1 h2 h3 h4 hl hv hlen
    have hq := Lib.run_eql_slice_nil (P := Try.prog) w 32 5 none 0 0 0 0 Try.underlying32
    go_enter Try.func46, Try.ntmps46
    go_wp2
    go_ret
    exact ⟨_, rfl, OwnsL.nil, Below.refl _ _⟩
  | some a =>
    have hv := Lib.hid hv
    have hq := Lib.run_eql_slice_nil (P := Try.prog) w 32 5 (some a) l.length c 0 0 Try.underlying32
    clear h3 h4
    go_enter Try.func46, Try.ntmps46
    go_wp2_with (at_builtin; refine wpList_appendL _ rfl (.tmp 5) (.tmp 6) 32 rfl w.heap.size infoU8 Try.underlying32 _ [] w (owns_empty w _ rfl _ _ (Nat.le_refl _) rfl) ((Below.refl _ _).alloc (Nat.le_refl _) _) rfl _ _ l rfl (SeesL.alloc hv.out _) (by simp) (by simp only [List.length_nil]; omega) ?_)
    intro v' w1 ho hb
    go_wp2
    go_ret
    exact ⟨_, rfl, ho, hb⟩

theorem sumf_any (k : Int) (s : St) (v : Value) (l : List Int) (w : World) (hv : SeesL w w.heap.size v l) (hl : bytesL l) :
    Calls Try.prog 44 #[.int .i64 k, stV s, v] w fun e w' => e = .returned (.int .i64 (Fr.sumL (if k = 1 then s.seed else 0) l : Nat)) ∧ Below w.heap.size w w' := by
  obtain ⟨A, c, rfl, h1, h2, h3, -⟩ := hv.at_
  have hsum := fun a W (g : Nat) (hg : g = W.heap.size) (hb : Below w.heap.size w W) => sum_one A l.length c (fun k => l.getD k 0) a W 32 g hg ((h3.below hb).more hb.size) (fun k _ => hl.getD k) (by omega)
  simp only [Fr.sum_all] at hsum
  have hsum := fun a W g hg hb => Lib.hid (hsum a W g hg hb)
  have hseed := fun W => Lib.hid (seed_dev s W)
  have hlt := s.seed_lt
  have hbx := (Below.refl w.heap.size w).alloc (Nat.le_refl _) (.cells #[.int .i64 s.r, .int .i64 s.s, .int .i64 s.m] 36)
  clear hl hv
  unfold stV at hseed ⊢
  by_cases hk : k = 1
  · rw [if_pos hk]
    have hsd := Lib.hid (show Cr.sd (s.seed : Nat) = s.seed from Cr.sd_of hlt)
    generalize s.seed = q at *
    go_enter Try.func44, Try.ntmps44
    go_wp2_with fail
    refine (hseed _).out.mono ?_
    rintro e w1 ⟨rfl, hb⟩
    have hb := hbx.trans (hb.mono hbx.size)
    clear hbx hseed
    go_wp2_with fail
    refine (hsum _ _ _ rfl hb).out.mono ?_
    rintro e w2 ⟨rfl, rfl⟩
    go_wp2
    go_ret
    exact ⟨by show Ending.returned (.int .i64 (Fr.sumL (Cr.sd (q : Nat)) l : Nat)) = _; rw [hsd.out], hb.alloc hb.size _⟩
  · rw [if_neg hk]
    have hs0 := fun W g hg hb => (hsum 0 W g hg hb).out
    simp only [show Cr.sd 0 = 0 from rfl] at hs0
    have hs1 := fun W g hg hb => Lib.hid (hs0 W g hg hb)
    clear hsum hs0
    go_enter Try.func44, Try.ntmps44
    go_wp2_with fail
    refine (hs1 _ _ (by simp) hbx).out.mono ?_
    rintro e w2 ⟨rfl, rfl⟩
    go_wp2
    go_ret
    exact ⟨rfl, hbx.alloc hbx.size _⟩

theorem results_cell {fn : Func} {p : Tmp} {ty : TypeId} (h : fn.results = #[.cell p ty]) (tmps : Array Value) (P : Program) (w : World) :
    (results fn tmps).run P w = ((asAddr (tmps.getD p undef)).run P w).andThen fun a w₁ => (loadVar ty a).run P w₁ := by
  simp only [results, h]
  simp [Sem.run_bind, Result.andThen]
theorem read_any (b off n c : Nat) (x0 x1 x2 x3 : Int) (w : World) (hn : 4 ≤ n) (hn2 : n ≤ maxLen) (hbb : b < w.heap.size) (h0 : w.cell? ⟨b, off, none⟩ = some (.int .u8 x0)) (h1 : w.cell? ⟨b, off + 1, none⟩ = some (.int .u8 x1)) (h2 : w.cell? ⟨b, off + 2, none⟩ = some (.int .u8 x2)) (h3 : w.cell? ⟨b, off + 3, none⟩ = some (.int .u8 x3))
    (hx0 : 0 ≤ x0 ∧ x0 < 256) (hx1 : 0 ≤ x1 ∧ x1 < 256) (hx2 : 0 ≤ x2 ∧ x2 < 256) (hx3 : 0 ≤ x3 ∧ x3 < 256) :
    Calls Try.prog 43 #[.slice (some ⟨b, off, none⟩) n c] w fun e w' => e = .returned (stV ⟨x0 * 256 + x1, x2, x3⟩) ∧ Below w.heap.size w w' := by
  have hp := fun W (hb : Below w.heap.size w W) => Lib.hid (pair_any b off c n x0 x1 W (by omega) hn2 ((bcell hb _ _ hbb).trans h0) ((bcell hb _ _ hbb).trans h1) hx0 hx1)
  have CS := fun (W : World) (hb : Below w.heap.size w W) => (⟨(bcell hb _ _ hbb).trans h2, (bcell hb _ _ hbb).trans h3⟩ : W.cell? ⟨b, off + 2, none⟩ = some (.int .u8 x2) ∧ W.cell? ⟨b, off + 3, none⟩ = some (.int .u8 x3))
  unfold stV
  unfold maxLen at hn2
  have wr2 : IntKind.i64.wrap x2 = x2 := IntWalk.i64_in _ (by omega)
  have wr3 : IntKind.i64.wrap x3 = x3 := IntWalk.i64_in _ (by omega)
  have q2 : (2 : Int) < (n : Int) := by omega
  have q3 : (3 : Int) < (n : Int) := by omega
  clear h0 h1 h2 h3
  go_enter Try.func43, Try.ntmps43
  go_wp2_with fail
  go_region_held3 (fun W => W.cell? ⟨b, off + 2, none⟩ = some (.int .u8 x2) ∧ W.cell? ⟨b, off + 3, none⟩ = some (.int .u8 x3))
    ((refine CS _ ?_; repeat' (first | exact Below.refl _ _ | exact Nat.le_refl _ | (with_reducible refine Below.setCell ?_ ?_ _) | (with_reducible refine Below.alloc ?_ (Nat.le_refl _) _) | (with_reducible refine below_drewN ?_ _) | (with_reducible refine Below.drew ?_))))
    (first
      | ((go_at_call 45; refine (hp _ ?_).out.mono ?_); (repeat' (first | exact Below.refl _ _ | exact Nat.le_refl _ | (with_reducible refine Below.setCell ?_ ?_ _) | (with_reducible refine Below.alloc ?_ (Nat.le_refl _) _) | (with_reducible refine below_drewN ?_ _) | (with_reducible refine Below.drew ?_))); rintro e w3 ⟨rfl, m, rfl⟩)
      | fail)
  all_goals
    go_wp2
    (try simp only [Exit.inBlock, Exit.then])
    refine bodyPost_ret (v := .agg #[.int .i64 (x0 * 256 + x1), .int .i64 x2, .int .i64 x3]) ?_ rfl ⟨rfl, ?_⟩
    · rw [results_cell rfl]
      go_simp
    · (repeat' (first | exact Below.refl _ _ | exact Nat.le_refl _ | (with_reducible refine Below.setCell ?_ ?_ _) | (with_reducible refine Below.alloc ?_ (Nat.le_refl _) _) | (with_reducible refine below_drewN ?_ _) | (with_reducible refine Below.drew ?_)))
end Go.Proofs.Ythigojakapgllaa
