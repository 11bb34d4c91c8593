/- Texts TlA in one. For what each says in front of its theorems. -/
import Derived.BigRegion
import Derived.Test.YtpdenmcacaajkaaGreatPB7
import Derived.Test.YtpdenmcacaajkaaGreatPB10
/-! ### TlA -/
namespace Go.Proofs.YtpdenmcacaajkaaGreat
open Go.RowKit

/-- A tally in memory, of the code's type or the document's. -/
def TAt (t : TypeId) (W : World) (g : Nat) (s : TS) : Prop := Blk W g #[.int .i64 (s.m : Nat), .int .i64 (s.a : Nat), .int .i64 (s.f : Nat)] t ∧ s.m < 256
section
variable {t : TypeId} {W W' : World} {g : Nat} {s : TS}
theorem TAt.below (h : TAt t W g s) {B : Nat} (hb : Below B W W') (hg : g < B) : TAt t W' g s := ⟨h.1.below hb hg, h.2⟩
theorem TAt.only {g' : Nat} (h : TAt t W g s) (hb : Only g' W W') (hg : g ≠ g') : TAt t W' g s := ⟨h.1.only hb hg, h.2⟩
theorem TAt.lt (h : TAt t W g s) : g < W.heap.size := h.1.lt
theorem TAt.drewN (h : TAt t W g s) (n : Nat) : TAt t (W.drewN n) g s := ⟨h.1.drewN n, h.2⟩
theorem TAt.drew (h : TAt t W g s) : TAt t W.drew g s := h
theorem TAt.c0 (h : TAt t W g s) : W.cell? ⟨g, 0, none⟩ = some (.int .i64 (s.m : Nat)) := h.1.cell 0 rfl
theorem TAt.c1 (h : TAt t W g s) : W.cell? ⟨g, 1, none⟩ = some (.int .i64 (s.a : Nat)) := h.1.cell 1 rfl
theorem TAt.c2 (h : TAt t W g s) : W.cell? ⟨g, 2, none⟩ = some (.int .i64 (s.f : Nat)) := h.1.cell 2 rfl
theorem TAt.m_ (h : TAt t W g s) (n : Nat) (hn : n < 256) : TAt t (W.setCell ⟨g, 0, none⟩ (.int .i64 (n : Nat))) g { s with m := n } := ⟨(h.1.set 0 _).eq (by simp), hn⟩
theorem TAt.a_ (h : TAt t W g s) (n : Nat) : TAt t (W.setCell ⟨g, 1, none⟩ (.int .i64 (n : Nat))) g { s with a := n } := ⟨(h.1.set 1 _).eq (by simp), h.2⟩
theorem TAt.f_ (h : TAt t W g s) (n : Nat) : TAt t (W.setCell ⟨g, 2, none⟩ (.int .i64 (n : Nat))) g { s with f := n } := ⟨(h.1.set 2 _).eq (by simp), h.2⟩
end

set_option maxRecDepth 100000 in
set_option maxHeartbeats 1000000 in
theorem new_tl (n : Int) (w : World) :
    Calls Tryz.prog 57 #[.int .i64 n] w fun e w' => e = .returned (.pointer (some ⟨w.heap.size, 0, none⟩)) ∧ TAt 70 w' w.heap.size ⟨(n % 256).toNat, 0, 0⟩ ∧ Below w.heap.size w w' ∧ w'.heap.size = w.heap.size + 1 := by
  have HA := and_low n
  have hl := low_lt n
  generalize (n % 256).toNat = m at *
  go_enter Tryz.func57, Tryz.ntmps57
  go_wp2
  go_ret
  exact ⟨rfl, ⟨Blk.new _ _ rfl _ _, hl⟩, (Below.refl _ _).alloc (Nat.le_refl _) _, by simp⟩

set_option maxRecDepth 100000 in
set_option maxHeartbeats 1000000 in
theorem minds_tl (g : Nat) (n : Int) (w : World) :
    Calls Tryz.prog 108 #[.pointer (some ⟨g, 0, none⟩), .int .i64 n] w fun e w' => e = .returned (.bool (decide (0 ≤ n ∧ n < 8))) ∧ w' = w := by
  by_cases h1 : n < 0
  · rw [decide_eq_false (by omega : ¬ (0 ≤ n ∧ n < 8))]
    go_enter Tryz.func108, Tryz.ntmps108
    go_wp2
    go_ret
    exact ⟨rfl, rfl⟩
  · by_cases h2 : n < 8
    · rw [decide_eq_true (by omega : (0 ≤ n ∧ n < 8))]
      have h1 : 0 ≤ n := by omega
      go_enter Tryz.func108, Tryz.ntmps108
      go_wp2
      go_ret
      exact ⟨by simp_all, rfl⟩
    · rw [decide_eq_false (by omega : ¬ (0 ≤ n ∧ n < 8))]
      have h1 : 0 ≤ n := by omega
      go_enter Tryz.func108, Tryz.ntmps108
      go_wp2
      go_ret
      exact ⟨by simp_all, rfl⟩
set_option maxRecDepth 100000 in
set_option maxHeartbeats 1000000 in
theorem minds_nil (n : Int) (w : World) :
    Calls Tryz.prog 108 #[.pointer none, .int .i64 n] w fun e w' => e = .returned (.bool false) ∧ w' = w := by
  go_enter Tryz.func108, Tryz.ntmps108
  go_wp2
  go_ret
  exact ⟨rfl, rfl⟩

set_option maxRecDepth 100000 in
set_option maxHeartbeats 1000000 in
theorem members_tl (g : Nat) (s : TS) (w : World) (h : TAt 70 w g s) :
    Calls Tryz.prog 93 #[.pointer (some ⟨g, 0, none⟩)] w fun e w' => e = .returned (.int .i64 (s.m : Nat)) ∧ ∃ m, w' = w.drewN m := by
  have c0 := h.c0
  clear h
  go_enter Tryz.func93, Tryz.ntmps93
  go_wp2
  go_ret
  exact ⟨rfl, 0, rfl⟩
set_option maxRecDepth 100000 in
set_option maxHeartbeats 1000000 in
theorem clique_tl (g : Nat) (s : TS) (w : World) (h : TAt 70 w g s) :
    Calls Tryz.prog 106 #[.pointer (some ⟨g, 0, none⟩)] w fun e w' => e = .returned (.bool (decide (s.f ≤ s.a))) ∧ ∃ m, w' = w.drewN m := by
  have c1 := h.c1
  have c2 := h.c2
  clear h
  go_enter Tryz.func106, Tryz.ntmps106
  go_wp2
  go_quiet (fail)
  go_wp2
  go_ret
  exact ⟨by simp, _, rfl⟩
set_option maxRecDepth 100000 in
set_option maxHeartbeats 1000000 in
theorem alone_tl (g : Nat) (s : TS) (w : World) (h : TAt 70 w g s) :
    Calls Tryz.prog 107 #[.pointer (some ⟨g, 0, none⟩)] w fun e w' => e = .returned (.bool (decide (s.a = 0))) ∧ ∃ m, w' = w.drewN m := by
  have c1 := h.c1
  clear h
  go_enter Tryz.func107, Tryz.ntmps107
  go_wp2
  go_ret
  refine ⟨?_, 0, rfl⟩
  rw [show decide (s.a = 0) = ((s.a : Int) == 0) by by_cases h : s.a = 0 <;> simp [h]]
  rfl
set_option maxRecDepth 100000 in
set_option maxHeartbeats 1000000 in
theorem is_tl (g : Nat) (s : TS) (n : Int) (w : World) (h : TAt 70 w g s) :
    Calls Tryz.prog 130 #[.pointer (some ⟨g, 0, none⟩), .int .i64 n] w fun e w' => e = .returned (.bool (isB s.m n)) ∧ ∃ m, w' = w.drewN m := by
  have HM := fun W => Lib.hid (minds_tl g n W)
  have c0 := h.c0
  by_cases hn : 0 ≤ n ∧ n < 8
  · rw [decide_eq_true hn] at HM
    have n1 := hn.1
    have n2 := hn.2
    go_enter Tryz.func130, Tryz.ntmps130
    go_wp2_with fail
    refine (HM _).out.mono ?_
    rintro _ _ ⟨rfl, rfl⟩
    go_wp2
    go_ret
    refine ⟨?_, 0, rfl⟩
    rw [show isB s.m n = (bits BinOp.and IntKind.i64 ((s.m : Int) / (2 : Int) ^ n.toNat) 1 == 1) by rw [is_w]; simp [isB, hn]]
    rfl
  · rw [decide_eq_false hn] at HM
    go_enter Tryz.func130, Tryz.ntmps130
    go_wp2_with fail
    refine (HM _).out.mono ?_
    rintro _ _ ⟨rfl, rfl⟩
    go_wp2
    go_ret
    refine ⟨?_, 0, rfl⟩
    rw [show isB s.m n = false by simp [isB, hn]]
    rfl
set_option maxRecDepth 100000 in
set_option maxHeartbeats 1000000 in
theorem join_tl (g : Nat) (s : TS) (n : Int) (w : World) (h : TAt 70 w g s) :
    Calls Tryz.prog 69 #[.pointer (some ⟨g, 0, none⟩), .int .i64 n] w fun e w' => e = .returned (.tuple #[]) ∧ TAt 70 w' g (s.join n) ∧ Only g w w' := by
  have HM := fun W => Lib.hid (minds_tl g n W)
  by_cases hn : 0 ≤ n ∧ n < 8
  · rw [decide_eq_true hn] at HM
    have c0 := h.c0
    have f0 := h.1.frozen 0
    have n1 := hn.1
    have n2 := hn.2
    go_enter Tryz.func69, Tryz.ntmps69
    go_wp2_with fail
    refine (HM _).out.mono ?_
    rintro _ _ ⟨rfl, rfl⟩
    have HO := or_w h.2 (k := n.toNat) (by omega)
    have hI := ins_lt h.2 (k := n.toNat) (by omega)
    go_wp2_with fail
    go_region
    exact bodyPost_end (results_none (by rfl) _ _ _) rfl ⟨rfl, by simpa [TS.join, hn] using (h.m_ _ hI).drew, ((Only.refl g _).set 0 _).drew⟩
  · rw [decide_eq_false hn] at HM
    go_enter Tryz.func69, Tryz.ntmps69
    go_wp2_with fail
    refine (HM _).out.mono ?_
    rintro _ _ ⟨rfl, rfl⟩
    go_wp2
    exact bodyPost_end (results_none (by rfl) _ _ _) rfl ⟨rfl, by simpa [TS.join, hn] using h, Only.refl _ _⟩
set_option maxRecDepth 100000 in
set_option maxHeartbeats 1000000 in
theorem miss_tl (g : Nat) (s : TS) (n : Int) (w : World) (h : TAt 70 w g s) :
    Calls Tryz.prog 127 #[.pointer (some ⟨g, 0, none⟩), .int .i64 n] w fun e w' => e = .returned (.tuple #[]) ∧ TAt 70 w' g (s.miss n) ∧ Only g w w' := by
  have HM := fun W => Lib.hid (minds_tl g n W)
  by_cases hn : 0 ≤ n ∧ n < 8
  · rw [decide_eq_true hn] at HM
    have c0 := h.c0
    have f0 := h.1.frozen 0
    have n1 := hn.1
    have n2 := hn.2
    go_enter Tryz.func127, Tryz.ntmps127
    go_wp2_with fail
    refine (HM _).out.mono ?_
    rintro _ _ ⟨rfl, rfl⟩
    have HO := andNot_w h.2 (k := n.toNat) (by omega)
    have hI := del_lt (k := n.toNat) h.2
    go_wp2_with fail
    go_region
    exact bodyPost_end (results_none (by rfl) _ _ _) rfl ⟨rfl, by simpa [TS.miss, hn] using (h.m_ _ hI).drew, ((Only.refl g _).set 0 _).drew⟩
  · rw [decide_eq_false hn] at HM
    go_enter Tryz.func127, Tryz.ntmps127
    go_wp2_with fail
    refine (HM _).out.mono ?_
    rintro _ _ ⟨rfl, rfl⟩
    go_wp2
    exact bodyPost_end (results_none (by rfl) _ _ _) rfl ⟨rfl, by simpa [TS.miss, hn] using h, Only.refl _ _⟩
set_option maxRecDepth 100000 in
set_option maxHeartbeats 1000000 in
theorem right_tl (g : Nat) (s : TS) (n : Int) (w : World) (h : TAt 70 w g s) (hb : s.a < 1000) :
    Calls Tryz.prog 125 #[.pointer (some ⟨g, 0, none⟩), .int .i64 n] w fun e w' => e = .returned (.tuple #[]) ∧ TAt 70 w' g (s.right n) ∧ Only g w w' := by
  have HM := fun W => Lib.hid (minds_tl g n W)
  by_cases hn : 0 ≤ n ∧ n < 8
  · rw [decide_eq_true hn] at HM
    have hs : s.right n = { s.join n with a := s.a + 1 } := by simp [TS.right, TS.join, hn]
    have hf : (s.join n).a = s.a := by simp [TS.join, hn]
    rw [hs]
    clear hs
    have HJ := fun W (h : TAt 70 W g s) => Lib.hid (join_tl g s n W h)
    generalize s.join n = u at *
    go_enter Tryz.func125, Tryz.ntmps125
    go_wp2_with fail
    refine (HM _).out.mono ?_
    rintro _ _ ⟨rfl, rfl⟩
    go_wp2_with fail
    refine (HJ _ h).out.mono ?_
    rintro _ w1 ⟨rfl, h1, o1⟩
    generalize s.join n = u at *
    have c := h1.c1
    rw [hf] at c
    have f := h1.1.frozen 1
    have h2 := Lib.hid (h1.a_ (s.a + 1))
    clear h h1 hf HM HJ
    go_wp2
    exact bodyPost_end (results_none (by rfl) _ _ _) rfl ⟨rfl, by simpa using h2.out, o1.set 1 _⟩
  · rw [decide_eq_false hn] at HM
    go_enter Tryz.func125, Tryz.ntmps125
    go_wp2_with fail
    refine (HM _).out.mono ?_
    rintro _ _ ⟨rfl, rfl⟩
    go_wp2
    exact bodyPost_end (results_none (by rfl) _ _ _) rfl ⟨rfl, by simpa [TS.right, hn] using h, Only.refl _ _⟩
set_option maxRecDepth 100000 in
set_option maxHeartbeats 1000000 in
theorem wrong_tl (g : Nat) (s : TS) (n : Int) (w : World) (h : TAt 70 w g s) (hb : s.f < 1000) :
    Calls Tryz.prog 128 #[.pointer (some ⟨g, 0, none⟩), .int .i64 n] w fun e w' => e = .returned (.tuple #[]) ∧ TAt 70 w' g (s.wrong n) ∧ Only g w w' := by
  have HM := fun W => Lib.hid (minds_tl g n W)
  by_cases hn : 0 ≤ n ∧ n < 8
  · rw [decide_eq_true hn] at HM
    have hs : s.wrong n = { s.miss n with f := s.f + 1 } := by simp [TS.wrong, TS.miss, hn]
    have hf : (s.miss n).f = s.f := by simp [TS.miss, hn]
    rw [hs]
    clear hs
    have HJ := fun W (h : TAt 70 W g s) => Lib.hid (miss_tl g s n W h)
    generalize s.miss n = u at *
    go_enter Tryz.func128, Tryz.ntmps128
    go_wp2_with fail
    refine (HM _).out.mono ?_
    rintro _ _ ⟨rfl, rfl⟩
    go_wp2_with fail
    refine (HJ _ h).out.mono ?_
    rintro _ w1 ⟨rfl, h1, o1⟩
    generalize s.miss n = u at *
    have c := h1.c2
    rw [hf] at c
    have f := h1.1.frozen 2
    have h2 := Lib.hid (h1.f_ (s.f + 1))
    clear h h1 hf HM HJ
    go_wp2
    exact bodyPost_end (results_none (by rfl) _ _ _) rfl ⟨rfl, by simpa using h2.out, o1.set 2 _⟩
  · rw [decide_eq_false hn] at HM
    go_enter Tryz.func128, Tryz.ntmps128
    go_wp2_with fail
    refine (HM _).out.mono ?_
    rintro _ _ ⟨rfl, rfl⟩
    go_wp2
    exact bodyPost_end (results_none (by rfl) _ _ _) rfl ⟨rfl, by simpa [TS.wrong, hn] using h, Only.refl _ _⟩
set_option maxRecDepth 100000 in
set_option maxHeartbeats 1000000 in
theorem clear_tl (g : Nat) (s : TS) (w : World) (h : TAt 70 w g s) :
    Calls Tryz.prog 70 #[.pointer (some ⟨g, 0, none⟩)] w fun e w' => e = .returned (.tuple #[]) ∧ TAt 70 w' g s.clear ∧ Only g w w' := by
  have c1 := h.c1
  have c2 := h.c2
  have f1 := h.1.frozen 1
  have f2 := h.1.frozen 2
  have h2 := Lib.hid ((h.a_ 0).f_ 0)
  clear h
  go_enter Tryz.func70, Tryz.ntmps70
  go_wp2
  exact bodyPost_end (results_none (by rfl) _ _ _) rfl ⟨rfl, h2.out, ((Only.refl g _).set 1 _).set 2 _⟩
/-! ### Of none. -/
set_option maxRecDepth 100000 in
set_option maxHeartbeats 1000000 in
theorem members_nil (w : World) :
    Calls Tryz.prog 93 #[.pointer none] w fun e w' => e = .returned (.int .i64 0) ∧ w' = w := by
  go_enter Tryz.func93, Tryz.ntmps93
  go_wp2
  go_ret
  exact ⟨rfl, rfl⟩
set_option maxRecDepth 100000 in
set_option maxHeartbeats 1000000 in
theorem clique_nil (w : World) :
    Calls Tryz.prog 106 #[.pointer none] w fun e w' => e = .returned (.bool false) ∧ ∃ m, w' = w.drewN m := by
  go_enter Tryz.func106, Tryz.ntmps106
  go_wp2_with fail
  go_quiet (fail)
  go_wp2
  go_ret
  exact ⟨rfl, _, rfl⟩
set_option maxRecDepth 100000 in
set_option maxHeartbeats 1000000 in
theorem alone_nil (w : World) :
    Calls Tryz.prog 107 #[.pointer none] w fun e w' => e = .returned (.bool false) ∧ w' = w := by
  go_enter Tryz.func107, Tryz.ntmps107
  go_wp2
  go_ret
  exact ⟨rfl, rfl⟩
set_option maxRecDepth 100000 in
set_option maxHeartbeats 1000000 in
theorem clear_nil (w : World) :
    Calls Tryz.prog 70 #[.pointer none] w fun e w' => e = .returned (.tuple #[]) ∧ w' = w := by
  go_enter Tryz.func70, Tryz.ntmps70
  go_wp2
  exact bodyPost_end (results_none (by rfl) _ _ _) rfl ⟨rfl, rfl⟩
set_option maxRecDepth 100000 in
set_option maxHeartbeats 1000000 in
theorem is_nil (n : Int) (w : World) :
    Calls Tryz.prog 130 #[.pointer none, .int .i64 n] w fun e w' => e = .returned (.bool false) ∧ w' = w := by
  have HM := fun W => Lib.hid (minds_nil n W)
  go_enter Tryz.func130, Tryz.ntmps130
  go_wp2_with fail
  refine (HM _).out.mono ?_
  rintro _ _ ⟨rfl, rfl⟩
  go_wp2
  go_ret
  exact ⟨rfl, rfl⟩
set_option maxRecDepth 100000 in
set_option maxHeartbeats 1000000 in
theorem join_nil (n : Int) (w : World) :
    Calls Tryz.prog 69 #[.pointer none, .int .i64 n] w fun e w' => e = .returned (.tuple #[]) ∧ w' = w := by
  have HM := fun W => Lib.hid (minds_nil n W)
  go_enter Tryz.func69, Tryz.ntmps69
  go_wp2_with fail
  refine (HM _).out.mono ?_
  rintro _ _ ⟨rfl, rfl⟩
  go_wp2
  exact bodyPost_end (results_none (by rfl) _ _ _) rfl ⟨rfl, rfl⟩
set_option maxRecDepth 100000 in
set_option maxHeartbeats 1000000 in
theorem missing_nil (n : Int) (w : World) :
    Calls Tryz.prog 127 #[.pointer none, .int .i64 n] w fun e w' => e = .returned (.tuple #[]) ∧ w' = w := by
  have HM := fun W => Lib.hid (minds_nil n W)
  go_enter Tryz.func127, Tryz.ntmps127
  go_wp2_with fail
  refine (HM _).out.mono ?_
  rintro _ _ ⟨rfl, rfl⟩
  go_wp2
  exact bodyPost_end (results_none (by rfl) _ _ _) rfl ⟨rfl, rfl⟩
set_option maxRecDepth 100000 in
set_option maxHeartbeats 1000000 in
theorem right_nil (n : Int) (w : World) :
    Calls Tryz.prog 125 #[.pointer none, .int .i64 n] w fun e w' => e = .returned (.tuple #[]) ∧ w' = w := by
  have HM := fun W => Lib.hid (minds_nil n W)
  go_enter Tryz.func125, Tryz.ntmps125
  go_wp2_with fail
  refine (HM _).out.mono ?_
  rintro _ _ ⟨rfl, rfl⟩
  go_wp2
  exact bodyPost_end (results_none (by rfl) _ _ _) rfl ⟨rfl, rfl⟩
set_option maxRecDepth 100000 in
set_option maxHeartbeats 1000000 in
theorem wrong_nil (n : Int) (w : World) :
    Calls Tryz.prog 128 #[.pointer none, .int .i64 n] w fun e w' => e = .returned (.tuple #[]) ∧ w' = w := by
  have HM := fun W => Lib.hid (minds_nil n W)
  go_enter Tryz.func128, Tryz.ntmps128
  go_wp2_with fail
  refine (HM _).out.mono ?_
  rintro _ _ ⟨rfl, rfl⟩
  go_wp2
  exact bodyPost_end (results_none (by rfl) _ _ _) rfl ⟨rfl, rfl⟩
end Go.Proofs.YtpdenmcacaajkaaGreat
