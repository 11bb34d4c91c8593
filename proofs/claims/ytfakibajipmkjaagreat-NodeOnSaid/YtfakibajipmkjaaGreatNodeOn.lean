/- NodeOn holds: it is switched on just when it is off, or frozen. For all numbers. -/
import Derived.Test.YtfakibajipmkjaaGreatNB36
namespace Go.Proofs.YtfakibajipmkjaaGreat
open Go.ChangeShapes Go.WideShapes Go.ChangeAt Go.RowKit

def no0 : NM := NM.new (smnT 4 1) (1 : Int).toNat 0 []
theorem no_a (a : Int) : no0.onE a = (if a < -1000 ∨ 1000 < a then 1 else 0) ∧ (no0.on a).st = (if a < -1000 ∨ 1000 < a then 0 else 1) := by
  have e : no0.onE a = (if a < -1000 ∨ 1000 < a then 1 else 0) := by
    unfold NM.onE
    have : ¬ (no0.st ≠ 0 ∧ no0.st ≠ 5) := fun h => h.1 rfl
    rw [if_neg this]
  refine ⟨e, ?_⟩
  unfold NM.on
  rw [e]
  by_cases h : a < -1000 ∨ 1000 < a
  · rw [if_pos h, if_pos h, if_neg (by decide)]
    rfl
  · rw [if_neg h, if_neg h, if_pos rfl]
    rfl
theorem no_b (s : NM) (a : Int) (h : s.st = 0 ∨ s.st = 1) : s.onE a = (if a < -1000 ∨ 1000 < a then 1 else if s.st = 1 then 4 else 0) ∧ (s.on a).st = (if s.onE a = 0 then 1 else s.st) := by
  constructor
  · unfold NM.onE
    rcases h with h | h <;> rw [h] <;> simp
  · unfold NM.on
    split <;> rfl
set_option maxRecDepth 100000 in
set_option maxHeartbeats 2000000 in
theorem gwalk_nodeOn {NAt : List Nat → World → Nat → NM → Prop} (A : NodeApi NAt) (a c : Int) (w : World) (_h1 : -9223372036854775808 ≤ a ∧ a ≤ 9223372036854775807) (_h2 : -9223372036854775808 ≤ c ∧ c ≤ 9223372036854775807) :
    Calls Tryz.prog 5 #[.int .i64 a, .int .i64 c] w fun e w' => e = .returned (.bool true) ∧ Below w.heap.size w w' := by
  obtain ⟨x1, x2⟩ := no_a a
  have hst : (no0.on a).st = 0 ∨ (no0.on a).st = 1 := by
    rw [x2]
    split <;> simp
  obtain ⟨y1, y2⟩ := no_b (no0.on a) c hst
  rcases (by omega : a < -1000 ∨ 1000 < a ∨ (-1000 ≤ a ∧ a ≤ 1000)) with ha | ha | ha <;> rcases (by omega : c < -1000 ∨ 1000 < c ∨ (-1000 ≤ c ∧ c ≤ 1000)) with hc | hc | hc
  · have a1 : decide (-1000 ≤ a) = false := decide_eq_false (by omega)
    have a2 : decide (a ≤ 1000) = true := decide_eq_true (by omega)
    have c1 : decide (-1000 ≤ c) = false := decide_eq_false (by omega)
    have c2 : decide (c ≤ 1000) = true := decide_eq_true (by omega)
    rw [if_pos (by omega : (a < -1000 ∨ 1000 < a))] at x1 x2
    rw [x2, if_pos (by omega : (c < -1000 ∨ 1000 < c))] at y1
    rw [y1, x2] at y2
    rw [if_neg (by decide)] at y2
    have HS := fun W => Lib.hid (some_nd 4 1 (by omega) (by omega) W)
    go_enter Tryz.func5, Tryz.ntmps5
    go_wp2_with fail
    refine (HS _).out.mono ?_
    rintro _ w1 ⟨v, rfl, ho, b⟩
    have hv := ho.sees
    have hB1 := b.size
    have hm := may_some 4 1 1 0 [] (by omega) (by omega) (by omega) (by omega) (by simp) (by simp)
    clear ho HS
    go_wp2_with fail
    refine (A.newB (smnT 4 1) v _ 1 0 [] w1 hv SeesRs.nil hm).mono ?_
    rintro _ w2 ⟨g, rfl, h, b'⟩
    replace b := b.trans (b'.mono b.size)
    clear hv hm b'
    replace h : Nd NAt w1.heap.size [] _ g no0 := h
    go_wp2_with fail
    refine (A.onB a h).mono ?_
    rintro _ u1 ⟨rfl, h', b'⟩
    replace b := b.trans (b'.b.mono hB1)
    replace h : Nd NAt w1.heap.size [] _ g (no0.on a) := h'
    clear h' b' 
    rw [x1]
    go_wp2_with fail
    refine (A.onB c h).mono ?_
    rintro _ u2 ⟨rfl, h', b'⟩
    replace b := b.trans (b'.b.mono hB1)
    replace h : Nd NAt w1.heap.size [] _ g ((no0.on a).on c) := h'
    clear h' b' 
    rw [y1]
    go_wp2_with fail
    refine (A.stateB h).mono ?_
    rintro _ u3 ⟨rfl, h', b'⟩
    replace b := b.trans (b'.b.mono hB1)
    replace h : Nd NAt w1.heap.size [] _ g ((no0.on a).on c) := h'
    clear h' b' 
    rw [y2]
    go_wp2_with fail
    refine (known_nd A _).mono ?_
    rintro _ wk ⟨rfl, bk⟩
    replace bk := b.trans (bk.mono b.size)
    go_wp2
    go_ret
    exact ⟨rfl, bk⟩
  · have a1 : decide (-1000 ≤ a) = false := decide_eq_false (by omega)
    have a2 : decide (a ≤ 1000) = true := decide_eq_true (by omega)
    have c1 : decide (-1000 ≤ c) = true := decide_eq_true (by omega)
    have c2 : decide (c ≤ 1000) = false := decide_eq_false (by omega)
    rw [if_pos (by omega : (a < -1000 ∨ 1000 < a))] at x1 x2
    rw [x2, if_pos (by omega : (c < -1000 ∨ 1000 < c))] at y1
    rw [y1, x2] at y2
    rw [if_neg (by decide)] at y2
    have HS := fun W => Lib.hid (some_nd 4 1 (by omega) (by omega) W)
    go_enter Tryz.func5, Tryz.ntmps5
    go_wp2_with fail
    refine (HS _).out.mono ?_
    rintro _ w1 ⟨v, rfl, ho, b⟩
    have hv := ho.sees
    have hB1 := b.size
    have hm := may_some 4 1 1 0 [] (by omega) (by omega) (by omega) (by omega) (by simp) (by simp)
    clear ho HS
    go_wp2_with fail
    refine (A.newB (smnT 4 1) v _ 1 0 [] w1 hv SeesRs.nil hm).mono ?_
    rintro _ w2 ⟨g, rfl, h, b'⟩
    replace b := b.trans (b'.mono b.size)
    clear hv hm b'
    replace h : Nd NAt w1.heap.size [] _ g no0 := h
    go_wp2_with fail
    refine (A.onB a h).mono ?_
    rintro _ u1 ⟨rfl, h', b'⟩
    replace b := b.trans (b'.b.mono hB1)
    replace h : Nd NAt w1.heap.size [] _ g (no0.on a) := h'
    clear h' b' 
    rw [x1]
    go_wp2_with fail
    refine (A.onB c h).mono ?_
    rintro _ u2 ⟨rfl, h', b'⟩
    replace b := b.trans (b'.b.mono hB1)
    replace h : Nd NAt w1.heap.size [] _ g ((no0.on a).on c) := h'
    clear h' b' 
    rw [y1]
    go_wp2_with fail
    refine (A.stateB h).mono ?_
    rintro _ u3 ⟨rfl, h', b'⟩
    replace b := b.trans (b'.b.mono hB1)
    replace h : Nd NAt w1.heap.size [] _ g ((no0.on a).on c) := h'
    clear h' b' 
    rw [y2]
    go_wp2_with fail
    refine (known_nd A _).mono ?_
    rintro _ wk ⟨rfl, bk⟩
    replace bk := b.trans (bk.mono b.size)
    go_wp2
    go_ret
    exact ⟨rfl, bk⟩
  · have a1 : decide (-1000 ≤ a) = false := decide_eq_false (by omega)
    have a2 : decide (a ≤ 1000) = true := decide_eq_true (by omega)
    have c1 : decide (-1000 ≤ c) = true := decide_eq_true (by omega)
    have c2 : decide (c ≤ 1000) = true := decide_eq_true (by omega)
    rw [if_pos (by omega : (a < -1000 ∨ 1000 < a))] at x1 x2
    rw [x2, if_neg (by omega : ¬ (c < -1000 ∨ 1000 < c))] at y1
    rw [if_neg (by decide)] at y1
    rw [y1, x2] at y2
    rw [if_pos rfl] at y2
    have HS := fun W => Lib.hid (some_nd 4 1 (by omega) (by omega) W)
    go_enter Tryz.func5, Tryz.ntmps5
    go_wp2_with fail
    refine (HS _).out.mono ?_
    rintro _ w1 ⟨v, rfl, ho, b⟩
    have hv := ho.sees
    have hB1 := b.size
    have hm := may_some 4 1 1 0 [] (by omega) (by omega) (by omega) (by omega) (by simp) (by simp)
    clear ho HS
    go_wp2_with fail
    refine (A.newB (smnT 4 1) v _ 1 0 [] w1 hv SeesRs.nil hm).mono ?_
    rintro _ w2 ⟨g, rfl, h, b'⟩
    replace b := b.trans (b'.mono b.size)
    clear hv hm b'
    replace h : Nd NAt w1.heap.size [] _ g no0 := h
    go_wp2_with fail
    refine (A.onB a h).mono ?_
    rintro _ u1 ⟨rfl, h', b'⟩
    replace b := b.trans (b'.b.mono hB1)
    replace h : Nd NAt w1.heap.size [] _ g (no0.on a) := h'
    clear h' b' 
    rw [x1]
    go_wp2_with fail
    refine (A.onB c h).mono ?_
    rintro _ u2 ⟨rfl, h', b'⟩
    replace b := b.trans (b'.b.mono hB1)
    replace h : Nd NAt w1.heap.size [] _ g ((no0.on a).on c) := h'
    clear h' b' 
    rw [y1]
    go_wp2_with fail
    refine (A.stateB h).mono ?_
    rintro _ u3 ⟨rfl, h', b'⟩
    replace b := b.trans (b'.b.mono hB1)
    replace h : Nd NAt w1.heap.size [] _ g ((no0.on a).on c) := h'
    clear h' b' 
    rw [y2]
    go_wp2_with fail
    refine (known_nd A _).mono ?_
    rintro _ wk ⟨rfl, bk⟩
    replace bk := b.trans (bk.mono b.size)
    go_wp2
    go_ret
    exact ⟨rfl, bk⟩
  · have a1 : decide (-1000 ≤ a) = true := decide_eq_true (by omega)
    have a2 : decide (a ≤ 1000) = false := decide_eq_false (by omega)
    have c1 : decide (-1000 ≤ c) = false := decide_eq_false (by omega)
    have c2 : decide (c ≤ 1000) = true := decide_eq_true (by omega)
    rw [if_pos (by omega : (a < -1000 ∨ 1000 < a))] at x1 x2
    rw [x2, if_pos (by omega : (c < -1000 ∨ 1000 < c))] at y1
    rw [y1, x2] at y2
    rw [if_neg (by decide)] at y2
    have HS := fun W => Lib.hid (some_nd 4 1 (by omega) (by omega) W)
    go_enter Tryz.func5, Tryz.ntmps5
    go_wp2_with fail
    refine (HS _).out.mono ?_
    rintro _ w1 ⟨v, rfl, ho, b⟩
    have hv := ho.sees
    have hB1 := b.size
    have hm := may_some 4 1 1 0 [] (by omega) (by omega) (by omega) (by omega) (by simp) (by simp)
    clear ho HS
    go_wp2_with fail
    refine (A.newB (smnT 4 1) v _ 1 0 [] w1 hv SeesRs.nil hm).mono ?_
    rintro _ w2 ⟨g, rfl, h, b'⟩
    replace b := b.trans (b'.mono b.size)
    clear hv hm b'
    replace h : Nd NAt w1.heap.size [] _ g no0 := h
    go_wp2_with fail
    refine (A.onB a h).mono ?_
    rintro _ u1 ⟨rfl, h', b'⟩
    replace b := b.trans (b'.b.mono hB1)
    replace h : Nd NAt w1.heap.size [] _ g (no0.on a) := h'
    clear h' b' 
    rw [x1]
    go_wp2_with fail
    refine (A.onB c h).mono ?_
    rintro _ u2 ⟨rfl, h', b'⟩
    replace b := b.trans (b'.b.mono hB1)
    replace h : Nd NAt w1.heap.size [] _ g ((no0.on a).on c) := h'
    clear h' b' 
    rw [y1]
    go_wp2_with fail
    refine (A.stateB h).mono ?_
    rintro _ u3 ⟨rfl, h', b'⟩
    replace b := b.trans (b'.b.mono hB1)
    replace h : Nd NAt w1.heap.size [] _ g ((no0.on a).on c) := h'
    clear h' b' 
    rw [y2]
    go_wp2_with fail
    refine (known_nd A _).mono ?_
    rintro _ wk ⟨rfl, bk⟩
    replace bk := b.trans (bk.mono b.size)
    go_wp2
    go_ret
    exact ⟨rfl, bk⟩
  · have a1 : decide (-1000 ≤ a) = true := decide_eq_true (by omega)
    have a2 : decide (a ≤ 1000) = false := decide_eq_false (by omega)
    have c1 : decide (-1000 ≤ c) = true := decide_eq_true (by omega)
    have c2 : decide (c ≤ 1000) = false := decide_eq_false (by omega)
    rw [if_pos (by omega : (a < -1000 ∨ 1000 < a))] at x1 x2
    rw [x2, if_pos (by omega : (c < -1000 ∨ 1000 < c))] at y1
    rw [y1, x2] at y2
    rw [if_neg (by decide)] at y2
    have HS := fun W => Lib.hid (some_nd 4 1 (by omega) (by omega) W)
    go_enter Tryz.func5, Tryz.ntmps5
    go_wp2_with fail
    refine (HS _).out.mono ?_
    rintro _ w1 ⟨v, rfl, ho, b⟩
    have hv := ho.sees
    have hB1 := b.size
    have hm := may_some 4 1 1 0 [] (by omega) (by omega) (by omega) (by omega) (by simp) (by simp)
    clear ho HS
    go_wp2_with fail
    refine (A.newB (smnT 4 1) v _ 1 0 [] w1 hv SeesRs.nil hm).mono ?_
    rintro _ w2 ⟨g, rfl, h, b'⟩
    replace b := b.trans (b'.mono b.size)
    clear hv hm b'
    replace h : Nd NAt w1.heap.size [] _ g no0 := h
    go_wp2_with fail
    refine (A.onB a h).mono ?_
    rintro _ u1 ⟨rfl, h', b'⟩
    replace b := b.trans (b'.b.mono hB1)
    replace h : Nd NAt w1.heap.size [] _ g (no0.on a) := h'
    clear h' b' 
    rw [x1]
    go_wp2_with fail
    refine (A.onB c h).mono ?_
    rintro _ u2 ⟨rfl, h', b'⟩
    replace b := b.trans (b'.b.mono hB1)
    replace h : Nd NAt w1.heap.size [] _ g ((no0.on a).on c) := h'
    clear h' b' 
    rw [y1]
    go_wp2_with fail
    refine (A.stateB h).mono ?_
    rintro _ u3 ⟨rfl, h', b'⟩
    replace b := b.trans (b'.b.mono hB1)
    replace h : Nd NAt w1.heap.size [] _ g ((no0.on a).on c) := h'
    clear h' b' 
    rw [y2]
    go_wp2_with fail
    refine (known_nd A _).mono ?_
    rintro _ wk ⟨rfl, bk⟩
    replace bk := b.trans (bk.mono b.size)
    go_wp2
    go_ret
    exact ⟨rfl, bk⟩
  · have a1 : decide (-1000 ≤ a) = true := decide_eq_true (by omega)
    have a2 : decide (a ≤ 1000) = false := decide_eq_false (by omega)
    have c1 : decide (-1000 ≤ c) = true := decide_eq_true (by omega)
    have c2 : decide (c ≤ 1000) = true := decide_eq_true (by omega)
    rw [if_pos (by omega : (a < -1000 ∨ 1000 < a))] at x1 x2
    rw [x2, if_neg (by omega : ¬ (c < -1000 ∨ 1000 < c))] at y1
    rw [if_neg (by decide)] at y1
    rw [y1, x2] at y2
    rw [if_pos rfl] at y2
    have HS := fun W => Lib.hid (some_nd 4 1 (by omega) (by omega) W)
    go_enter Tryz.func5, Tryz.ntmps5
    go_wp2_with fail
    refine (HS _).out.mono ?_
    rintro _ w1 ⟨v, rfl, ho, b⟩
    have hv := ho.sees
    have hB1 := b.size
    have hm := may_some 4 1 1 0 [] (by omega) (by omega) (by omega) (by omega) (by simp) (by simp)
    clear ho HS
    go_wp2_with fail
    refine (A.newB (smnT 4 1) v _ 1 0 [] w1 hv SeesRs.nil hm).mono ?_
    rintro _ w2 ⟨g, rfl, h, b'⟩
    replace b := b.trans (b'.mono b.size)
    clear hv hm b'
    replace h : Nd NAt w1.heap.size [] _ g no0 := h
    go_wp2_with fail
    refine (A.onB a h).mono ?_
    rintro _ u1 ⟨rfl, h', b'⟩
    replace b := b.trans (b'.b.mono hB1)
    replace h : Nd NAt w1.heap.size [] _ g (no0.on a) := h'
    clear h' b' 
    rw [x1]
    go_wp2_with fail
    refine (A.onB c h).mono ?_
    rintro _ u2 ⟨rfl, h', b'⟩
    replace b := b.trans (b'.b.mono hB1)
    replace h : Nd NAt w1.heap.size [] _ g ((no0.on a).on c) := h'
    clear h' b' 
    rw [y1]
    go_wp2_with fail
    refine (A.stateB h).mono ?_
    rintro _ u3 ⟨rfl, h', b'⟩
    replace b := b.trans (b'.b.mono hB1)
    replace h : Nd NAt w1.heap.size [] _ g ((no0.on a).on c) := h'
    clear h' b' 
    rw [y2]
    go_wp2_with fail
    refine (known_nd A _).mono ?_
    rintro _ wk ⟨rfl, bk⟩
    replace bk := b.trans (bk.mono b.size)
    go_wp2
    go_ret
    exact ⟨rfl, bk⟩
  · have a1 : decide (-1000 ≤ a) = true := decide_eq_true (by omega)
    have a2 : decide (a ≤ 1000) = true := decide_eq_true (by omega)
    have c1 : decide (-1000 ≤ c) = false := decide_eq_false (by omega)
    have c2 : decide (c ≤ 1000) = true := decide_eq_true (by omega)
    rw [if_neg (by omega : ¬ (a < -1000 ∨ 1000 < a))] at x1 x2
    rw [x2, if_pos (by omega : (c < -1000 ∨ 1000 < c))] at y1
    rw [y1, x2] at y2
    rw [if_neg (by decide)] at y2
    have HS := fun W => Lib.hid (some_nd 4 1 (by omega) (by omega) W)
    go_enter Tryz.func5, Tryz.ntmps5
    go_wp2_with fail
    refine (HS _).out.mono ?_
    rintro _ w1 ⟨v, rfl, ho, b⟩
    have hv := ho.sees
    have hB1 := b.size
    have hm := may_some 4 1 1 0 [] (by omega) (by omega) (by omega) (by omega) (by simp) (by simp)
    clear ho HS
    go_wp2_with fail
    refine (A.newB (smnT 4 1) v _ 1 0 [] w1 hv SeesRs.nil hm).mono ?_
    rintro _ w2 ⟨g, rfl, h, b'⟩
    replace b := b.trans (b'.mono b.size)
    clear hv hm b'
    replace h : Nd NAt w1.heap.size [] _ g no0 := h
    go_wp2_with fail
    refine (A.onB a h).mono ?_
    rintro _ u1 ⟨rfl, h', b'⟩
    replace b := b.trans (b'.b.mono hB1)
    replace h : Nd NAt w1.heap.size [] _ g (no0.on a) := h'
    clear h' b' 
    rw [x1]
    go_wp2_with fail
    refine (A.onB c h).mono ?_
    rintro _ u2 ⟨rfl, h', b'⟩
    replace b := b.trans (b'.b.mono hB1)
    replace h : Nd NAt w1.heap.size [] _ g ((no0.on a).on c) := h'
    clear h' b' 
    rw [y1]
    go_wp2_with fail
    refine (A.stateB h).mono ?_
    rintro _ u3 ⟨rfl, h', b'⟩
    replace b := b.trans (b'.b.mono hB1)
    replace h : Nd NAt w1.heap.size [] _ g ((no0.on a).on c) := h'
    clear h' b' 
    rw [y2]
    go_wp2_with fail
    refine (known_nd A _).mono ?_
    rintro _ wk ⟨rfl, bk⟩
    replace bk := b.trans (bk.mono b.size)
    go_wp2
    go_ret
    exact ⟨rfl, bk⟩
  · have a1 : decide (-1000 ≤ a) = true := decide_eq_true (by omega)
    have a2 : decide (a ≤ 1000) = true := decide_eq_true (by omega)
    have c1 : decide (-1000 ≤ c) = true := decide_eq_true (by omega)
    have c2 : decide (c ≤ 1000) = false := decide_eq_false (by omega)
    rw [if_neg (by omega : ¬ (a < -1000 ∨ 1000 < a))] at x1 x2
    rw [x2, if_pos (by omega : (c < -1000 ∨ 1000 < c))] at y1
    rw [y1, x2] at y2
    rw [if_neg (by decide)] at y2
    have HS := fun W => Lib.hid (some_nd 4 1 (by omega) (by omega) W)
    go_enter Tryz.func5, Tryz.ntmps5
    go_wp2_with fail
    refine (HS _).out.mono ?_
    rintro _ w1 ⟨v, rfl, ho, b⟩
    have hv := ho.sees
    have hB1 := b.size
    have hm := may_some 4 1 1 0 [] (by omega) (by omega) (by omega) (by omega) (by simp) (by simp)
    clear ho HS
    go_wp2_with fail
    refine (A.newB (smnT 4 1) v _ 1 0 [] w1 hv SeesRs.nil hm).mono ?_
    rintro _ w2 ⟨g, rfl, h, b'⟩
    replace b := b.trans (b'.mono b.size)
    clear hv hm b'
    replace h : Nd NAt w1.heap.size [] _ g no0 := h
    go_wp2_with fail
    refine (A.onB a h).mono ?_
    rintro _ u1 ⟨rfl, h', b'⟩
    replace b := b.trans (b'.b.mono hB1)
    replace h : Nd NAt w1.heap.size [] _ g (no0.on a) := h'
    clear h' b' 
    rw [x1]
    go_wp2_with fail
    refine (A.onB c h).mono ?_
    rintro _ u2 ⟨rfl, h', b'⟩
    replace b := b.trans (b'.b.mono hB1)
    replace h : Nd NAt w1.heap.size [] _ g ((no0.on a).on c) := h'
    clear h' b' 
    rw [y1]
    go_wp2_with fail
    refine (A.stateB h).mono ?_
    rintro _ u3 ⟨rfl, h', b'⟩
    replace b := b.trans (b'.b.mono hB1)
    replace h : Nd NAt w1.heap.size [] _ g ((no0.on a).on c) := h'
    clear h' b' 
    rw [y2]
    go_wp2_with fail
    refine (known_nd A _).mono ?_
    rintro _ wk ⟨rfl, bk⟩
    replace bk := b.trans (bk.mono b.size)
    go_wp2
    go_ret
    exact ⟨rfl, bk⟩
  · have a1 : decide (-1000 ≤ a) = true := decide_eq_true (by omega)
    have a2 : decide (a ≤ 1000) = true := decide_eq_true (by omega)
    have c1 : decide (-1000 ≤ c) = true := decide_eq_true (by omega)
    have c2 : decide (c ≤ 1000) = true := decide_eq_true (by omega)
    rw [if_neg (by omega : ¬ (a < -1000 ∨ 1000 < a))] at x1 x2
    rw [x2, if_neg (by omega : ¬ (c < -1000 ∨ 1000 < c))] at y1
    rw [if_pos rfl] at y1
    rw [y1, x2] at y2
    rw [if_neg (by decide)] at y2
    have HS := fun W => Lib.hid (some_nd 4 1 (by omega) (by omega) W)
    go_enter Tryz.func5, Tryz.ntmps5
    go_wp2_with fail
    refine (HS _).out.mono ?_
    rintro _ w1 ⟨v, rfl, ho, b⟩
    have hv := ho.sees
    have hB1 := b.size
    have hm := may_some 4 1 1 0 [] (by omega) (by omega) (by omega) (by omega) (by simp) (by simp)
    clear ho HS
    go_wp2_with fail
    refine (A.newB (smnT 4 1) v _ 1 0 [] w1 hv SeesRs.nil hm).mono ?_
    rintro _ w2 ⟨g, rfl, h, b'⟩
    replace b := b.trans (b'.mono b.size)
    clear hv hm b'
    replace h : Nd NAt w1.heap.size [] _ g no0 := h
    go_wp2_with fail
    refine (A.onB a h).mono ?_
    rintro _ u1 ⟨rfl, h', b'⟩
    replace b := b.trans (b'.b.mono hB1)
    replace h : Nd NAt w1.heap.size [] _ g (no0.on a) := h'
    clear h' b' 
    rw [x1]
    go_wp2_with fail
    refine (A.onB c h).mono ?_
    rintro _ u2 ⟨rfl, h', b'⟩
    replace b := b.trans (b'.b.mono hB1)
    replace h : Nd NAt w1.heap.size [] _ g ((no0.on a).on c) := h'
    clear h' b' 
    rw [y1]
    go_wp2_with fail
    refine (A.stateB h).mono ?_
    rintro _ u3 ⟨rfl, h', b'⟩
    replace b := b.trans (b'.b.mono hB1)
    replace h : Nd NAt w1.heap.size [] _ g ((no0.on a).on c) := h'
    clear h' b' 
    rw [y2]
    go_wp2_with fail
    refine (known_nd A _).mono ?_
    rintro _ wk ⟨rfl, bk⟩
    replace bk := b.trans (bk.mono b.size)
    go_wp2
    go_ret
    exact ⟨rfl, bk⟩
/-- Of the node that is there. -/
theorem walk_nodeOn (a c : Int) (w : World) (_h_a : -9223372036854775808 ≤ a ∧ a ≤ 9223372036854775807) (_h_c : -9223372036854775808 ≤ c ∧ c ≤ 9223372036854775807) :
    Calls Tryz.prog 5 #[.int .i64 a, .int .i64 c] w fun e w' => e = .returned (.bool true) ∧ Below w.heap.size w w' := gwalk_nodeOn nodeApi a c w _h_a _h_c

/-! ### THE ROW's STEP around the walk. -/
theorem own_nodeOn : ownKnob Tryz.prog.godebug = none := by kernel_rfl
theorem laidOut_nodeOn : laidOutB Tryz.prog = true := by kernel_rfl
set_option maxRecDepth 100000 in
theorem lifted_nodeOn (os : Os) (started : os.Started) (H : Type) (enc : TypeId × Value → H) :
    ReturnsInHanded {} Tryz.checked os 5 .any (Rows.nodeOnSpec.pre6 enc Tryz.prog Tryz.f5 Rows.nodeOnRow.domain false) (Rows.nodeOnSpec.post enc Tryz.prog Tryz.f5 false true false false) := by
  refine returnsInHanded_of_change (C := Tryz.checked) own_nodeOn started (by kernel_rfl) Tryz.func5
    (ChangeSpec.witness6 (enc := enc) (C := Tryz.checked) false ⟨#[], #[.int .i64 0, .int .i64 0], []⟩ 8 (by kernel_rfl) (by kernel_rfl) (by kernel_rfl) (by kernel_rfl)) ?_
  intro W base args ds gs before hval0 hW hcnd _
  have hval : ∀ (j : Nat) t v, Tryz.f5.params[j]? = some t → args[j]? = some v → Value.okWide Tryz.prog W .any base t v := hval0
  have hW' := hW
  obtain ⟨p, q, hA0, hV, rfl, hfz, hnd⟩ := hW
  have hA : DataW.TrodAll enc Tryz.prog W 0 (fun _ => true) true Tryz.f5.params.toList args.toList ds p := hA0
  rw [Tryz.params5] at hA hval
  obtain ⟨v0, vs0, d0, ds0, p0, q0, hargs, rfl, rfl, h0, r0⟩ := trodAll_cons hA
  obtain ⟨v1, vs1, d1, ds1, p1, q1, rfl, rfl, rfl, h1, r1⟩ := trodAll_cons r0
  obtain ⟨rfl, rfl, rfl⟩ := trodAll_nil r1
  obtain rfl : args = #[v0, v1] := by cases args; simp_all
  obtain ⟨rfl, rfl⟩ := trodVars_none hV
  obtain ⟨a0, rfl, rfl, rfl, w0⟩ := open_int Tryz.underlying3 (hval 0 3 v0 rfl rfl) h0
  obtain ⟨a1, rfl, rfl, rfl, w1⟩ := open_int Tryz.underlying3 (hval 1 3 v1 rfl rfl) h1
  clear hA0 hval0
  refine (walk_nodeOn a0 a1 W (bounds_i64 w0) (bounds_i64 w1)).mono fun e W' ⟨he, bel⟩ => ?_
  subst he
  exact ⟨_, rfl, _, _, _, [], _, [], hW', trodAll_mk1 (shut_bool Tryz.underlying4 _), (trodAll_cons_mk (shut_int Tryz.underlying3 w0) (trodAll_cons_mk (shut_int Tryz.underlying3 w1) trodAll_mk0)), rfl, bel.frame _, fun h => by cases h⟩

theorem over_nodeOn : Rows.nodeOnRow.holds Tryz.pinned (OpenSpec.ofChange Rows.nodeOnSpec) :=
  OpenClaim.holds_of_wide 5 Tryz.f5 rfl rfl rfl rfl rfl rfl rfl ⟨rfl, rfl, rfl, rfl, rfl⟩ rfl rfl rfl rfl rfl (by kernel_rfl) Tryz.func5 (by kernel_rfl)
    (of_decide_eq_true (by kernel_rfl)) (by unfold Func.isWrapper; first | (rw [if_pos (by decide +kernel)]; kernel_rfl) | (rw [if_neg (by decide +kernel)]; exact ⟨rfl, rfl⟩))
    (fun os started H enc _ => lifted_nodeOn os started H enc)

theorem proved_nodeOn : Rows.NodeOnSaid := over_nodeOn
end Go.Proofs.YtfakibajipmkjaaGreat
