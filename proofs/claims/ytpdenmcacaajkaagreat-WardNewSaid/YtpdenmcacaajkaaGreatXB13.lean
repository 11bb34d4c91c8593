/- Texts NdD, NdG, NdH, NdI in one. For what each says in front of its theorems. -/
import Derived.BigQuiet
import Derived.StillTailTactics
import Derived.Test.YtpdenmcacaajkaaGreatXB12
/-! ### NdD -/
namespace Go.Proofs.YtpdenmcacaajkaaGreat
open Go.RowKit
open Clk (avg)

section
variable {b : Bool} {G : Nat → Prop} {w : World} {g : Nat} {m : NM}
theorem NA.join (h : NA b G w g m) (n : Int) : Calls Tryz.prog 69 #[.pointer (some ⟨g, 17, none⟩), .int .i64 n] w fun e w' => e = .returned (.tuple #[]) ∧ NA b G w' g { m with ty := m.ty.join n } ∧ Only g w w' := by
  obtain ⟨c, h1, h2⟩ := h.tp
  refine (join_tp c g _ n w h1).mono ?_
  rintro _ w' ⟨rfl, hT, o⟩
  exact ⟨rfl, h2 _ _ hT o, o⟩
theorem NA.miss (h : NA b G w g m) (n : Int) : Calls Tryz.prog 127 #[.pointer (some ⟨g, 17, none⟩), .int .i64 n] w fun e w' => e = .returned (.tuple #[]) ∧ NA b G w' g { m with ty := m.ty.miss n } ∧ Only g w w' := by
  obtain ⟨c, h1, h2⟩ := h.tp
  refine (miss_tp c g _ n w h1).mono ?_
  rintro _ w' ⟨rfl, hT, o⟩
  exact ⟨rfl, h2 _ _ hT o, o⟩
theorem NA.right (h : NA b G w g m) (n : Int) (hb : m.ty.a < 1000) : Calls Tryz.prog 125 #[.pointer (some ⟨g, 17, none⟩), .int .i64 n] w fun e w' => e = .returned (.tuple #[]) ∧ NA b G w' g { m with ty := m.ty.right n } ∧ Only g w w' := by
  obtain ⟨c, h1, h2⟩ := h.tp
  refine (right_tp c g _ n w h1 hb).mono ?_
  rintro _ w' ⟨rfl, hT, o⟩
  exact ⟨rfl, h2 _ _ hT o, o⟩
theorem NA.wrong (h : NA b G w g m) (n : Int) (hb : m.ty.f < 1000) : Calls Tryz.prog 128 #[.pointer (some ⟨g, 17, none⟩), .int .i64 n] w fun e w' => e = .returned (.tuple #[]) ∧ NA b G w' g { m with ty := m.ty.wrong n } ∧ Only g w w' := by
  obtain ⟨c, h1, h2⟩ := h.tp
  refine (wrong_tp c g _ n w h1 hb).mono ?_
  rintro _ w' ⟨rfl, hT, o⟩
  exact ⟨rfl, h2 _ _ hT o, o⟩
theorem NA.clear (h : NA b G w g m) : Calls Tryz.prog 70 #[.pointer (some ⟨g, 17, none⟩)] w fun e w' => e = .returned (.tuple #[]) ∧ NA b G w' g { m with ty := m.ty.clear } ∧ Only g w w' := by
  obtain ⟨c, h1, h2⟩ := h.tp
  refine (clear_tp c g _ w h1).mono ?_
  rintro _ w' ⟨rfl, hT, o⟩
  exact ⟨rfl, h2 _ _ hT o, o⟩
theorem NA.kclear (h : NA b G w g m) : Calls Tryz.prog 58 #[.pointer (some ⟨g, 20, none⟩)] w fun e w' => e = .returned (.tuple #[]) ∧ NA b G w' g { m with ck := [] } ∧ Only g w w' := by
  obtain ⟨c, h1, h2⟩ := h.kp
  refine (clear_kp c g _ _ w h1).mono ?_
  rintro _ w' ⟨rfl, hT, o⟩
  exact ⟨rfl, h2 _ _ hT o, o⟩
theorem NA.measure (h : NA b G w g m) (n : Int) : Calls Tryz.prog 79 #[.pointer (some ⟨g, 20, none⟩), .int .i64 n] w fun e w' => e = .returned (.tuple #[]) ∧ NA b G w' g { m with ck := keep4 m.ck n } ∧ Only g w w' := by
  obtain ⟨c, h1, h2⟩ := h.kp
  refine (measure_kp c g _ _ n w h1).mono ?_
  rintro _ w' ⟨rfl, hT, o⟩
  exact ⟨rfl, h2 _ _ hT o, o⟩
theorem NA.sclear (h : NA b G w g m) : Calls Tryz.prog 59 #[.pointer (some ⟨g, 26, none⟩)] w fun e w' => e = .returned (.tuple #[]) ∧ NA b G w' g { m with so := MS.new } ∧ Only g w w' := by
  obtain ⟨c, h1, h2⟩ := h.sp
  refine (clear_sp c G [g] g _ w h1 (by simp)).mono ?_
  rintro _ w' ⟨rfl, hT, o⟩
  exact ⟨rfl, h2 _ _ hT o, o⟩
theorem NA.age (h : NA b G w g m) : Calls Tryz.prog 150 #[.pointer (some ⟨g, 26, none⟩)] w fun e w' => e = .returned (.tuple #[]) ∧ NA b G w' g { m with so := m.so.age } ∧ Only g w w' := by
  obtain ⟨c, h1, h2⟩ := h.sp
  refine (age_sp c G [g] g _ w h1 (by simp)).mono ?_
  rintro _ w' ⟨rfl, hT, o⟩
  exact ⟨rfl, h2 _ _ hT o, o⟩
theorem NA.member (h : NA b G w g m) (n : Int) (q : Bool) : Calls Tryz.prog 129 #[.pointer (some ⟨g, 26, none⟩), .int .i64 n, .bool q] w fun e w' => e = .returned (.tuple #[]) ∧ NA b G w' g { m with so := m.so.member n q } ∧ Only g w w' := by
  obtain ⟨c, h1, h2⟩ := h.sp
  refine (member_sp c G [g] g _ n q w h1 (by simp)).mono ?_
  rintro _ w' ⟨rfl, hT, o⟩
  exact ⟨rfl, h2 _ _ hT o, o⟩
theorem NA.put (h : NA b G w g m) (n : Int) {v : Value} {l : List Int} {B : Nat} (hG : ∀ x, w.heap.size ≤ x → G x) (hv : SeesL w B v l) (hl : bytesL l) : Calls Tryz.prog 126 #[.pointer (some ⟨g, 26, none⟩), .int .i64 n, v] w fun e w' => e = .returned (.tuple #[]) ∧ NA b G w' g { m with so := m.so.put n l } ∧ Only g w w' := by
  obtain ⟨c, h1, h2⟩ := h.sp
  refine (put_sp c G [g] g _ n v l B w h1 (by simp) (fun f hf => by rw [List.mem_singleton] at hf; rw [hf]; exact h.lt) hG hv hl).mono ?_
  rintro _ w' ⟨rfl, hT, o⟩
  exact ⟨rfl, h2 _ _ hT o, o⟩
theorem NA.members (h : NA b G w g m) : Calls Tryz.prog 93 #[.pointer (some ⟨g, 17, none⟩)] w fun e w' => e = .returned (.int .i64 (m.ty.m : Nat)) ∧ w' = w := by
  obtain ⟨c, h1, -⟩ := h.tp
  exact members_tp c g _ w h1
theorem NA.clique_ (h : NA b G w g m) : Calls Tryz.prog 106 #[.pointer (some ⟨g, 17, none⟩)] w fun e w' => e = .returned (.bool (decide (m.ty.f ≤ m.ty.a))) ∧ ∃ k, w' = w.drewN k := by
  obtain ⟨c, h1, -⟩ := h.tp
  exact clique_tp c g _ w h1
theorem NA.alone_ (h : NA b G w g m) : Calls Tryz.prog 107 #[.pointer (some ⟨g, 17, none⟩)] w fun e w' => e = .returned (.bool (decide (m.ty.a = 0))) ∧ w' = w := by
  obtain ⟨c, h1, -⟩ := h.tp
  exact alone_tp c g _ w h1
theorem NA.is_ (h : NA b G w g m) (n : Int) : Calls Tryz.prog 130 #[.pointer (some ⟨g, 17, none⟩), .int .i64 n] w fun e w' => e = .returned (.bool (isB m.ty.m n)) ∧ w' = w := by
  obtain ⟨c, h1, -⟩ := h.tp
  exact is_tp c g _ n w h1
theorem NA.term (h : NA b G w g m) (hs : small m.ck) (hm : 0 ≤ m.t.lm ∧ m.t.lm ≤ 9223372036854775807) : Calls Tryz.prog 149 #[.pointer (some ⟨g, 20, none⟩)] w fun e w' => e = .returned (.tuple #[.int .i64 (termV m.t.lm m.ck), .bool (wiB m.t.lm (avg m.ck))]) ∧ Below w.heap.size w w' := by
  obtain ⟨c, h1, -⟩ := h.kp
  exact term_kp c g _ _ w h1 hs hm
theorem NA.get (h : NA b G w g m) (n : Int) : Calls Tryz.prog 95 #[.pointer (some ⟨g, 26, none⟩), .int .i64 n] w fun e w' => ∃ v, e = .returned (.agg #[v, .int .i64 (m.so.ga n), .bool (m.so.gg n)]) ∧ SeesL w' w'.heap.size v (m.so.gd n) ∧ (m.so.gd n ≠ [] → OwnsL w' w.heap.size v (m.so.gd n)) ∧ Below w.heap.size w w' := by
  obtain ⟨c, h1, -⟩ := h.sp
  exact get_sp c G [g] g _ n w h1
theorem NA.look (h : NA b G w g m) : Calls Tryz.prog 151 #[.pointer (some ⟨g, 50, none⟩), ndGet g] w fun e w' => e = .returned (.tuple #[]) ∧ NA b G w' g { m with an := nowM m.al m.so, ar := fun i => m.ar i ||| nowM m.al m.so i } ∧ Only g w w' := by
  obtain ⟨c, c', V, h1, hS, h2⟩ := h.ap
  refine (look_ap c c' V G [g] g _ _ _ _ w h1 (by simp) hS).mono ?_
  rintro _ w' ⟨rfl, hT, o⟩
  exact ⟨rfl, h2 _ _ _ hT o, o⟩
end
theorem NA.se_ {b : Bool} {G : Nat → Prop} {w : World} {g : Nat} {m : NM} (h : NA b G w g m) (q : Bool) : NA b G w g { m with se := q } := ⟨h.ex, h.tyo, h.cko, h.soo, h.al8, h.n16, h.r16⟩
theorem nblk_set (w : World) (a : Addr) (v : Value) : (w.setCell a v).heap.size = w.heap.size := by simp [World.setCell]
set_option maxRecDepth 100000 in
set_option maxHeartbeats 2000000 in
theorem begin_nd (b : Bool) (G : Nat → Prop) (g : Nat) (m : NM) (k : Nat) (z : Int) (hz : z = k) (w : World) (h : NA b G w g m) :
    Calls Tryz.prog 20 #[.pointer (some ⟨g, 0, none⟩), .int .i64 z] w fun e w' => e = .returned (.tuple #[]) ∧ NA false G w' g (m.anew k) ∧ Only g w w' := by
  subst hz
  have HT := fun W => Lib.hid (new_tl 0 W)
  have c10 := h.c10
  have c11 := h.c11
  have c12 := h.c12
  have c13 := h.c13
  have c14 := h.c14
  have f10 := h.frozen 10
  have f11 := h.frozen 11
  have f12 := h.frozen 12
  have f13 := h.frozen 13
  have f14 := h.frozen 14
  have h1 := Lib.hid (((((h.sSt k).sRd 0).sSl 0).sWt 0).sSe false)
  have o1 := Lib.hid (((((((Only.refl g w).set 10 (.int .i64 (k : Nat))).set 11 (.int .i64 0)).set 12 (.int .i64 0)).set 13 (.int .i64 0)).set 14 (.bool false)))
  clear h
  go_enter Tryz.func20, Tryz.ntmps20
  go_wp2_with fail
  refine (HT _).out.mono ?_
  rintro _ w1 ⟨rfl, hT, b1, -⟩
  have h1 := h1.out.below b1
  have o1 := o1.out.trans (only_of_below g b1)
  simp only [nblk_set] at hT
  have t0 := hT.c0
  have t1 := hT.c1
  have t2 := hT.c2
  have c17 := h1.tp
  obtain ⟨c, hc, -⟩ := h1.tp
  have c17 := hc.c0
  have c18 := hc.c1
  have c19 := hc.c2
  have f17 := h1.frozen 17
  have f18 := h1.frozen 18
  have f19 := h1.frozen 19
  have h2 := Lib.hid (h1.sTy ⟨0, 0, 0⟩ (by decide))
  have o2 := Lib.hid (((o1.set 17 (.int .i64 0)).set 18 (.int .i64 0)).set 19 (.int .i64 0))
  clear h1 o1 hc hT c10 c11 c12 c13 c14 f10 f11 f12 f13 f14 HT b1
  go_wp2_with fail
  refine h2.out.kclear.mono ?_
  rintro _ w2 ⟨rfl, h3, o3⟩
  have o3 := o2.out.trans o3
  clear h2 o2 c17 c18 c19 f17 f18 f19 t0 t1 t2
  go_wp2_with fail
  refine h3.sclear.mono ?_
  rintro _ w3 ⟨rfl, h4, o4⟩
  go_wp2
  exact bodyPost_end (results_none (by rfl) _ _ _) rfl ⟨rfl, h4.se_ false, o3.trans o4⟩
end Go.Proofs.YtpdenmcacaajkaaGreat

/-! ### NdG -/
namespace Go.Proofs.YtpdenmcacaajkaaGreat
open Go.RowKit

set_option maxRecDepth 100000 in
set_option maxHeartbeats 1000000 in
theorem state_nd (b : Bool) (G : Nat → Prop) (g : Nat) (m : NM) (w : World) (h : NA b G w g m) :
    Calls Tryz.prog 38 #[.pointer (some ⟨g, 0, none⟩)] w fun e w' => e = .returned (.int .i64 (m.st : Nat)) ∧ w' = w := by
  have c10 := h.c10
  clear h
  go_enter Tryz.func38, Tryz.ntmps38
  go_wp2
  go_ret
  exact ⟨rfl, rfl⟩
set_option maxRecDepth 100000 in
set_option maxHeartbeats 1000000 in
theorem clock_nd (b : Bool) (G : Nat → Prop) (g : Nat) (m : NM) (w : World) (h : NA b G w g m) :
    Calls Tryz.prog 41 #[.pointer (some ⟨g, 0, none⟩)] w fun e w' => e = .returned (.int .i64 m.tm) ∧ w' = w := by
  have c15 := h.c15
  clear h
  go_enter Tryz.func41, Tryz.ntmps41
  go_wp2
  go_ret
  exact ⟨rfl, rfl⟩
set_option maxRecDepth 100000 in
set_option maxHeartbeats 1000000 in
theorem view_nd (b : Bool) (G : Nat → Prop) (g : Nat) (m : NM) (w : World) (h : NA b G w g m) :
    Calls Tryz.prog 39 #[.pointer (some ⟨g, 0, none⟩)] w fun e w' => e = .returned (csV m.rd m.sl m.ty.m) ∧ Below w.heap.size w w' := by
  unfold csV
  have hX := Blk.new w w.heap.size rfl #[.int .i64 0, .int .i64 0, .int .i64 0] 101
  have hb0 := (Below.refl w.heap.size w).alloc (Nat.le_refl _) (.cells #[.int .i64 0, .int .i64 0, .int .i64 0] 101)
  have h1 := h.alloc (.cells #[.int .i64 0, .int .i64 0, .int .i64 0] 101)
  have H := Lib.hid h1.drew.members
  have c11 := h1.c11
  have c12 := h1.c12
  clear h h1
  go_enter Tryz.func39, Tryz.ntmps39
  go_wp2_with fail
  generalize w.alloc (.cells #[.int .i64 0, .int .i64 0, .int .i64 0] 101) = w2 at *
  go_still_tail 13, (by kernel_rfl)
  still_call H.out
  repeat still_step
  refine wpStill_nil ?_
  change wpList _ _ _ _ _ w2.drew
  have hX := hX.drew
  have hb := hb0.drew
  generalize w2.drew = w3 at *
  have x0 := hX.cell 0 (x := .int .i64 0) rfl
  have x1 := hX.cell 1 (x := .int .i64 0) rfl
  have x2 := hX.cell 2 (x := .int .i64 0) rfl
  have f0 := hX.frozen 0
  have f1 := hX.frozen 1
  have f2 := hX.frozen 2
  have HB := Lib.hid (((hb.setCell (p := ⟨w.heap.size, 0, none⟩) (by simp) (.int .i64 m.rd)).setCell (p := ⟨w.heap.size, 1, none⟩) (by simp) (.int .i64 (m.sl : Nat))).setCell (p := ⟨w.heap.size, 2, none⟩) (by simp) (.int .i64 (m.ty.m : Nat)))
  clear hX hb hb0 c11 c12 H
  go_wp2
  refine bodyPost_ret (v := .agg #[.int .i64 m.rd, .int .i64 (m.sl : Nat), .int .i64 (m.ty.m : Nat)]) ?_ rfl ?_
  · rw [results_cell rfl]
    go_simp
  · exact ⟨rfl, HB.out⟩
end Go.Proofs.YtpdenmcacaajkaaGreat

/-! ### NdH -/
namespace Go.Proofs.YtpdenmcacaajkaaGreat
open Go.RowKit

set_option maxRecDepth 100000 in
set_option maxHeartbeats 1000000 in
theorem on_nd (b : Bool) (G : Nat → Prop) (g : Nat) (m : NM) (a : Int) (w : World) (h : NA b G w g m) (h5 : m.st ≤ 5) :
    Calls Tryz.prog 25 #[.pointer (some ⟨g, 0, none⟩), .int .i64 a] w fun e w' => e = .returned (.int .i64 (m.onE a)) ∧ NA (if m.onE a = 0 then false else b) G w' g (m.on a) ∧ Only g w w' := by
  by_cases h1 : a < -1000 ∨ 1000 < a
  · have e : m.onE a = 1 := by unfold NM.onE; rw [if_pos h1]
    rw [e, show m.on a = m by unfold NM.on; rw [e]; rfl]
    rw [if_neg (by omega)]
    by_cases h2 : a < -1000
    · clear h1
      go_enter Tryz.func25, Tryz.ntmps25
      go_wp2
      go_ret
      exact ⟨rfl, h, Only.refl _ _⟩
    · have h3 : 1000 < a := by omega
      have h2 : -1000 ≤ a := by omega
      clear h1
      go_enter Tryz.func25, Tryz.ntmps25
      go_wp2
      go_ret
      exact ⟨rfl, h, Only.refl _ _⟩
  · have a1 : -1000 ≤ a := by omega
    have a2 : a ≤ 1000 := by omega
    have c10 := h.c10
    by_cases h2 : m.st ≠ 0 ∧ m.st ≠ 5
    · have e : m.onE a = 4 := by unfold NM.onE; rw [if_neg h1, if_pos h2]
      rw [e, show m.on a = m by unfold NM.on; rw [e]; rfl]
      rw [if_neg (by omega)]
      have hk : Hid (NA b G w g m) := Lib.hid h
      clear h1 e h
      rcases (by omega : m.st = 1 ∨ m.st = 2 ∨ m.st = 3 ∨ m.st = 4) with e | e | e | e
      all_goals
        rw [e] at c10
        clear h2 e h5
        go_enter Tryz.func25, Tryz.ntmps25
        go_wp2
        go_ret
        exact ⟨rfl, hk.out, Only.refl _ _⟩
    · have e : m.onE a = 0 := by unfold NM.onE; rw [if_neg h1, if_neg h2]
      rw [e, show m.on a = { m.anew 1 with tm := a } by unfold NM.on; rw [if_pos e]]
      rw [if_pos rfl]
      have HB := Lib.hid (begin_nd b G g m 1 1 rfl w h)
      clear h h1 e
      generalize m.anew 1 = m' at *
      rcases (by omega : m.st = 0 ∨ m.st = 5) with e | e
      all_goals
        rw [e] at c10
        clear h2 e
        go_enter Tryz.func25, Tryz.ntmps25
        go_wp2_with fail
        refine HB.out.mono ?_
        rintro _ w1 ⟨rfl, h1, o1⟩
        have c15 := h1.c15
        have f15 := h1.frozen 15
        have h2 := Lib.hid (h1.sTm a)
        clear h1
        go_wp2
        go_ret
        exact ⟨rfl, h2.out, o1.set _ _⟩
end Go.Proofs.YtpdenmcacaajkaaGreat

/-! ### NdI -/
namespace Go.Proofs.YtpdenmcacaajkaaGreat
open Go.RowKit

/-- Of what kind a frame would be. -/
def NM.kindV (m : NM) : Int := if m.st = 1 then 3 else if m.me.inf = true ∨ m.st ≠ 4 ∨ m.rd % 2 = 0 then 2 else 1
set_option maxRecDepth 100000 in
set_option maxHeartbeats 1000000 in
theorem kind_nd (b : Bool) (G : Nat → Prop) (g : Nat) (m : NM) (w : World) (h : NA b G w g m) (h5 : m.st ≤ 5) (hr : 0 ≤ m.rd ∧ m.rd ≤ 65535) :
    Calls Tryz.prog 66 #[.pointer (some ⟨g, 0, none⟩)] w fun e w' => e = .returned (.int .i64 m.kindV) ∧ w' = w := by
  have c5 := h.c5
  have c10 := h.c10
  have c11 := h.c11
  unfold NM.kindV
  clear h
  generalize m.me.inf = q at *
  generalize m.rd = r at *
  obtain ⟨r1, r2⟩ := hr
  by_cases h1 : m.st = 1
  · rw [h1] at c10
    rw [if_pos h1]
    clear h5 h1
    go_enter Tryz.func66, Tryz.ntmps66
    go_wp2
    go_ret
    exact ⟨rfl, rfl⟩
  · rw [if_neg h1]
    by_cases h4 : m.st = 4
    · rw [h4] at c10
      cases q
      · have hm : Int.tmod r 2 = r % 2 := Int.tmod_eq_emod_of_nonneg r1
        by_cases hp : r % 2 = 0
        · rw [if_pos (.inr (.inr hp))]
          clear h5 h1 h4
          go_enter Tryz.func66, Tryz.ntmps66
          go_wp2
          go_ret
          exact ⟨rfl, rfl⟩
        · rw [if_neg (by simp [h4, hp])]
          have hp : r % 2 = 1 := by omega
          clear h5 h1 h4
          go_enter Tryz.func66, Tryz.ntmps66
          go_wp2
          go_ret
          exact ⟨rfl, rfl⟩
      · rw [if_pos (.inl rfl)]
        clear h5 h1 h4
        go_enter Tryz.func66, Tryz.ntmps66
        go_wp2
        go_ret
        exact ⟨rfl, rfl⟩
    · rw [if_pos (.inr (.inl h4))]
      rcases (by omega : m.st = 0 ∨ m.st = 2 ∨ m.st = 3 ∨ m.st = 5) with e | e | e | e
      all_goals
        rw [e] at c10
        clear h5 h1 h4 e
        cases q
        all_goals
          go_enter Tryz.func66, Tryz.ntmps66
          go_wp2
          go_ret
          exact ⟨rfl, rfl⟩
set_option maxRecDepth 100000 in
set_option maxHeartbeats 1000000 in
/-- It has waited for one slot more. -/
theorem waits_no (b : Bool) (G : Nat → Prop) (g : Nat) (m : NM) (w : World) (h : NA b G w g m) (hw : (m.wt : Int) + 1 < m.me.li) (hl : m.me.li ≤ 1000) :
    Calls Tryz.prog 67 #[.pointer (some ⟨g, 0, none⟩)] w fun e w' => e = .returned (.bool false) ∧ NA b G w' g { m with wt := m.wt + 1 } ∧ Only g w w' := by
  have c13 := h.c13
  have f13 := h.frozen 13
  have H1 := Lib.hid (h.sWt (m.wt + 1))
  have d6 := H1.out.c6
  have d13 := H1.out.c13
  have o1 := Lib.hid (((Only.refl g w).set 13 (.int .i64 ((m.wt + 1 : Nat) : Int))))
  have e0 : ((m.wt + 1 : Nat) : Int) = ((m.wt : Nat) : Int) + 1 := by omega
  rw [show ({ m with wt := m.wt + 1 } : NM).me = m.me from rfl] at d6
  rw [show ({ m with wt := m.wt + 1 } : NM).wt = m.wt + 1 from rfl] at d13
  rw [e0] at d13 d6 o1
  have H1 : Hid (NA b G (w.setCell ⟨g, 13, none⟩ (.int .i64 (((m.wt : Nat) : Int) + 1))) g { m with wt := m.wt + 1 }) := Lib.hid H1.out
  have q : (((m.wt : Nat) : Int) + 1 == m.me.li) = false := by rw [beq_eq_false_iff_ne]; omega
  have z2 : ((m.wt : Nat) : Int) ≤ 1000 := by omega
  clear h hw e0
  generalize hz : ((m.wt : Nat) : Int) = z at *
  generalize hy : m.me.li = y at *
  have z1 : 0 ≤ z := by omega
  go_enter Tryz.func67, Tryz.ntmps67
  go_wp2_with fail
  go_quiet (fail)
  go_wp2
  go_ret
  exact ⟨rfl, H1.out.drewN _, o1.out.trans (only_of_below g (below_drewN (Below.refl _ _) _))⟩
set_option maxRecDepth 100000 in
set_option maxHeartbeats 1000000 in
/-- It has waited out. -/
theorem waits_yes (b : Bool) (G : Nat → Prop) (g : Nat) (m : NM) (w : World) (h : NA b G w g m) (hw : m.me.li = (m.wt : Int) + 1) (hl : m.me.li ≤ 1000) :
    Calls Tryz.prog 67 #[.pointer (some ⟨g, 0, none⟩)] w fun e w' => e = .returned (.bool true) ∧ NA false G w' g { m.anew 2 with sl := m.i } ∧ Only g w w' := by
  have c13 := h.c13
  have f13 := h.frozen 13
  have H1 := Lib.hid (h.sWt (m.wt + 1))
  have d6 := H1.out.c6
  have d13 := H1.out.c13
  have o1 := Lib.hid (((Only.refl g w).set 13 (.int .i64 ((m.wt + 1 : Nat) : Int))))
  have e0 : ((m.wt + 1 : Nat) : Int) = ((m.wt : Nat) : Int) + 1 := by omega
  rw [show ({ m with wt := m.wt + 1 } : NM).me = m.me from rfl, hw] at d6
  rw [show ({ m with wt := m.wt + 1 } : NM).wt = m.wt + 1 from rfl] at d13
  rw [e0] at d13 d6 o1
  have H1 : Hid (NA b G (w.setCell ⟨g, 13, none⟩ (.int .i64 (((m.wt : Nat) : Int) + 1))) g { m with wt := m.wt + 1 }) := Lib.hid H1.out
  have z2 : ((m.wt : Nat) : Int) ≤ 1000 := by omega
  have HB := fun W (h : NA b G W g { m with wt := m.wt + 1 }) => Lib.hid (begin_nd b G g _ 2 2 rfl W h)
  rw [show ({ m with wt := m.wt + 1 } : NM).anew 2 = m.anew 2 from rfl] at HB
  have hi : (m.anew 2).i = m.i := rfl
  clear h hw e0 hl
  generalize m.i = i at *
  generalize m.anew 2 = m2 at *
  generalize hz : ((m.wt : Nat) : Int) = z at *
  have z1 : 0 ≤ z := by omega
  go_enter Tryz.func67, Tryz.ntmps67
  go_wp2_with fail
  go_quiet (fail)
  go_wp2_with fail
  refine (HB _ (H1.out.drewN _)).out.mono ?_
  rintro _ w2 ⟨rfl, h2, o2⟩
  have c8 := h2.c8
  rw [hi] at c8
  have c12 := h2.c12
  have f12 := h2.frozen 12
  have h3 := Lib.hid (h2.sSl i)
  have o3 := Lib.hid (((o1.out.trans (only_of_below g (below_drewN (Below.refl _ _) _))).trans o2).set 12 (.int .i64 (i : Nat)))
  clear h2 o2 H1 d6 d13 c13 f13 HB o1
  go_wp2
  go_ret
  exact ⟨rfl, h3.out, o3.out⟩
end Go.Proofs.YtpdenmcacaajkaaGreat
