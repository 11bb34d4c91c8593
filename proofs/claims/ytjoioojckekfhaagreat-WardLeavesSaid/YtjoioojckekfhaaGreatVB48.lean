/- Texts WdO, WdM, NdNil in one. For what each says in front of its theorems. -/
import Derived.Test.YtjoioojckekfhaaGreatVB31
import Derived.Test.YtjoioojckekfhaaGreatVB47
/-! ### WdO -/
namespace Go.Proofs.YtjoioojckekfhaaGreat
open Go.RowKit

theorem info_np : (Tryz.prog.info? 71).map (fun i => (i.zero, i.size, i.bytes)) = some (some (.pointer none), 1, 8) := by kernel_rfl
theorem src_ptr (w : World) (t : TypeId) (b g : Nat) (hb : b = w.heap.size) : Src (w.alloc (.cells #[.pointer (some ⟨g, 0, none⟩)] t)) (.slice (some ⟨b, 0, none⟩) 1 1) 1 1 [.pointer (some ⟨g, 0, none⟩)] := by
  refine .inr ⟨_, 1, rfl, rfl, fun j x hj => ?_, fun x hx => ?_⟩
  · match j, hj with
    | 0, hj => simp at hj; subst hj; show (w.alloc _).cell? ⟨b, 0, none⟩ = _; rw [World.cell?_alloc_at _ _ _ _ hb]; rfl
    | j + 1, hj => simp at hj
  · rw [List.mem_singleton.1 hx]; rfl
set_option maxRecDepth 100000 in
set_option maxHeartbeats 4000000 in
theorem wnew (t : Tb.T) (tv dv rv : Value) (dl : List Int) (l : List R4) (W : World) (ht : SeesT W W.heap.size tv t.ns) (hd : SeesI W W.heap.size dv dl) (hr : SeesRs W W.heap.size rv l) (his : t.is = true) (hN : dl.length = t.ns.length) (hmay : ∀ i, i < t.ns.length → NM.may t (i : Nat) (dl.getD i 0) l) :
    Calls Tryz.prog 13 #[tabV t tv, dv, rv] W fun e w' => ∃ x, e = .returned (.tuple #[.pointer (some ⟨x, 0, none⟩), .int .i64 0]) ∧ WAt W.heap.size [] t.ns.length w' x (WM.new t dl l) ∧ Below W.heap.size W w' := by
  have hn4 := (Tb.T.may his).n4
  have hn8 := (Tb.T.may his).n8
  have hbx := (Below.refl W.heap.size W).alloc (Nat.le_refl _) (.cells #[tv, .int .i64 t.dr, .int .i64 t.wi, .int .i64 t.lm] 29)
  have X := Blk.new W W.heap.size rfl #[tv, .int .i64 t.dr, .int .i64 t.wi, .int .i64 t.lm] 29
  have hT := fun W' (hb : Below W.heap.size W W') => (ht.below hb).more hb.size
  have hS := fun W' (hb : Below W.heap.size W W') => Lib.hid (new_sr t tv W' (hT W' hb) his)
  obtain ⟨Ad, cd, rfl, d1, d2, d3, d4⟩ := hd.at_
  obtain ⟨At, ct, rfl, -⟩ := ht.at_
  unfold tabV at hS ⊢
  rw [hN] at d1 d3 d4 ⊢
  have q0 : (((t.ns.length : Nat) : Int) != ((t.ns.length : Nat) : Int)) = false := by simp
  have tz : ∀ k : Nat, ((k : Nat) : Int).toNat = k := fun k => Int.toNat_natCast k
  have hNd := fun (k : Nat) (hk : k < t.ns.length) (wr : World) (hb : Below W.heap.size W wr) => Lib.hid (nodeApi.new_ok t (.slice At t.ns.length ct) rv (k : Nat) (dl.getD k 0) l wr (hT wr hb) ((hr.below hb).more hb.size) (hmay k hk))
  simp only [Int.toNat_natCast] at hNd
  unfold tabV at hNd
  have hdc : Hid (∀ (k : Nat) (wr : World), k < t.ns.length → Below W.heap.size W wr → ∃ b off, Ad = some ⟨b, off, none⟩ ∧ wr.cell? ⟨b, off + k, none⟩ = some (.int .i64 (dl.getD k 0))) := Lib.hid fun k wr hk hb => by
    obtain ⟨b, off, e, hlt, hc⟩ := d3 (by omega)
    exact ⟨b, off, e, (hb.cell (p := ⟨b, off + k, none⟩) hlt).trans (hc k hk)⟩
  generalize hNe : t.ns.length = N at *
  go_enter Tryz.func13, Tryz.ntmps13
  have x0 := X.cell 0 (x := .slice At N ct) rfl
  have x1 := X.cell 1 (x := .int .i64 t.dr) rfl
  have x2 := X.cell 2 (x := .int .i64 t.wi) rfl
  have x3 := X.cell 3 (x := .int .i64 t.lm) rfl
  go_wp2_with fail
  clear x0 x1 x2 x3
  refine (hS _ hbx).out.mono ?_
  rintro e w1 ⟨gs, rfl, hgs, hG, hb1⟩
  have X1 := X.below hb1 X.lt
  have hB1 := hbx.trans (hb1.mono (by simp))
  have x0 := X1.cell 0 (x := .slice At N ct) rfl
  have hXl := X.lt
  have hgs0 : W.heap.size < gs := by (have hgs1 : W.heap.size + 1 ≤ gs := by simpa using hgs); omega
  have hNW : NW W.heap.size t dl l w1.heap.size gs 0 (fun _ => 0) (fun _ => []) (.slice none 0 0) W (w1.alloc (.cells #[.slice none 0 0, .pointer (some ⟨gs, 0, none⟩), .int .i64 0] 70)) :=
    ⟨Blk.new w1 _ rfl _ _, by rw [hNe]; exact hG.below ((Below.refl _ _).alloc (Nat.le_refl _) _) hG.lt, World.ownsRow_nil _ _ _ _, fun i hi => by omega, fun i hi => by omega, fun i j hi => by omega, ⟨by omega, hG.lt⟩, hB1.alloc hB1.size _⟩
  have X2 := X1.alloc (.cells #[.slice none 0 0, .pointer (some ⟨gs, 0, none⟩), .int .i64 0] 70)
  have hNW := Lib.hid hNW
  have hXw : W.heap.size < w1.heap.size := X1.lt
  clear hS X X1 hb1 hB1 hG hbx
  go_wp2_with fail
  clear x0
  generalize w1.alloc (.cells #[.slice none 0 0, .pointer (some ⟨gs, 0, none⟩), .int .i64 0] 70) = w2 at *
  generalize w1.heap.size = x at *
  go_loopw [35] (fun i wr => ∃ (k : Nat) (gp : Nat → Nat) (F : Nat → List Nat) (v : Value), k ≤ N ∧ i = .int .i64 (k : Nat) ∧ NW W.heap.size t dl l x gs k gp F v W wr ∧ Blk wr W.heap.size #[.slice At N ct, .int .i64 t.dr, .int .i64 t.wi, .int .i64 t.lm] 29) (fun i _ => N - (intOf i).toNat)
  case atStart => exact ⟨0, _, _, _, by omega, rfl, hNW.out, X2⟩
  case round =>
    clear hNW X2
    obtain ⟨k, gp, F, v, hk, rfl, h, X⟩ := hrel
    by_cases hlt : k < N
    · have r1 : decide ((k : Int) < (N : Nat)) = true := by simp; omega
      obtain ⟨b, off, rfl, hdr⟩ := hdc.out k wr hlt h.bw
      have x0 := X.cell 0 (x := .slice At N ct) rfl
      have x1 := X.cell 1 (x := .int .i64 t.dr) rfl
      have x2 := X.cell 2 (x := .int .i64 t.wi) rfl
      have x3 := X.cell 3 (x := .int .i64 t.lm) rfl
      have hN4 := hNd k hlt wr h.bw
      obtain ⟨y, hy0⟩ : ∃ y, y = dl.getD k 0 := ⟨_, rfl⟩
      have hy := Lib.hid hy0
      rw [← hy0] at hdr hN4
      clear hy0
      go_wp2_with fail
      clear x0 x1 x2 x3 hdr
      refine hN4.out.mono ?_
      rintro e w4 ⟨g, F', rfl, hn, hF, hb4⟩
      rw [hy.out] at hn
      have X4 := X.below hb4 X.lt
      obtain ⟨gp', F'', eg, h4, hn4, hF4, hd4⟩ := h.node hb4 hn hF
      subst eg
      have hx4 := h4.lt
      have hl4 := h4.lst
      have c0 := h4.blk.cell 0 (x := v) rfl
      have hvx : v.ownBlock ≠ some x := fun e => by have := (hl4.lt x e).1; omega
      have hvX : v.ownBlock ≠ some W.heap.size := fun e => by have := (hl4.lt _ e).1; omega
      have hsrc := src_ptr w4 71 w4.heap.size (gp' k) rfl
      clear h hn hF hb4 hN4 X
      go_wp2_with (at_builtin; go_loud (refine wpList_pushC _ rfl (.tmp 54) (.tmp 56) 68 rfl (x + 1) 71 _ 1 8 info_np rfl (by omega) Tryz.underlying68 v k _ (hl4.alloc _) rfl _ 1 _ rfl hsrc (by simp; omega) (by simp [maxLen]; omega) (by omega) ?_))
      intro v5 w5 hl5 hx5
      obtain ⟨b5, e5, rfl⟩ : ∃ b5 e5, v5 = .slice (some ⟨b5, 0, none⟩) (k + 1) e5 := by
        rcases hl5.2 with ⟨-, e⟩ | ⟨g5, cap5, cur5, e, -⟩
        · omega
        · exact ⟨g5, cap5, e⟩
      have hE := ((Ext.refl w4 v).alloc (.cells #[.pointer (some ⟨gp' k, 0, none⟩)] 71)).trans hx5
      have hX5 : Blk w5 x #[v, .pointer (some ⟨gs, 0, none⟩), .int .i64 0] 70 := (hE.grown.block x hx4 (fun e => hvx e.symm)).trans h4.blk
      have c5 := hX5.cell 0 (x := v) rfl
      have f5 := hX5.frozen 0
      have h6 := Lib.hid (h4.push hn4 hF4 hd4 hE hl5)
      have X6 : Hid (Blk (w5.setCell ⟨x, 0, none⟩ (.slice (some ⟨b5, 0, none⟩) (k + 1) e5)) W.heap.size #[.slice At N ct, .int .i64 t.dr, .int .i64 t.wi, .int .i64 t.lm] 29) := Lib.hid (Blk.other ((hE.grown.block _ X4.lt (fun e => hvX e.symm)).trans X4) ⟨x, 0, none⟩ (by show W.heap.size ≠ x; omega) _)
      clear h4 hn4 hF4 hd4 hE hl5 hx5 hX5 c0 hl4 hsrc X4
      go_wp2_with fail
      go_roundw
      case rel => exact ⟨k + 1, gp', F'', _, by omega, by go_num, h6.out, X6.out⟩
      case measure => simp [intOf]; omega
    · obtain rfl : k = N := by omega
      have r1 : decide ((k : Int) < (k : Nat)) = false := by simp
      have hw := Lib.hid (h.done (by omega) hNe.symm)
      have hbw := Lib.hid h.bw
      clear h X
      go_wp2_with fail
      go_ret2
      exact ⟨x, rfl, hw.out, hbw.out⟩
end Go.Proofs.YtjoioojckekfhaaGreat

/-! ### WdM -/
namespace Go.Proofs.YtjoioojckekfhaaGreat
open Go.RowKit
open Fr (St F)

/-- What is sent is bytes, not many. -/
theorem sent_good {b : Bool} {G : Nat → Prop} {W : World} {g : Nat} {s : NM} (h : NA b G W g s.sendS) (hj : NJ s.sendS) : bytesL s.sent ∧ s.sent.length ≤ 16 := by
  unfold NM.sent
  by_cases e : s.sendK = 0
  · rw [if_pos e]; exact ⟨fun x hx => (by cases hx), by simp⟩
  · rw [if_neg e]
    have hk : 1 ≤ s.sendK ∧ s.sendK ≤ 3 := by
      unfold NM.sendK at e ⊢
      repeat' split
      all_goals simp_all
    have hn8 := hj.may.n8
    have his : (s.sendS.frm s.sendK).is = true := by
      rw [F.is_iff]
      exact ⟨hk, view_may hj.rd (by have := hj.sl; omega) h.tyo, hj.da.1⟩
    refine ⟨F.bytes_ok his hj.da.2, ?_⟩
    rw [F.bytes_length]
    have h1 : (s.sendS.frm s.sendK).hl ≤ 6 := by unfold F.hl; split <;> omega
    have h2 : (s.sendS.frm s.sendK).d.length ≤ 8 := hj.da.1
    omega
theorem sentAt_good {F : List Nat} {W : World} {g : Nat} {s : NM} (h : NAt F W g s.sendS) : bytesL s.sent ∧ s.sent.length ≤ 16 := by
  obtain ⟨b, ha, hi⟩ := h.a
  exact sent_good ha hi.j
theorem fst_range (f : Nat → Bool) (n : Nat) : fst f n = -1 ∨ ∃ j : Nat, fst f n = j ∧ j < n ∧ f j = true := by
  by_cases h : ∃ j, j < n ∧ f j = true
  · obtain ⟨j, hj, hf⟩ := h
    right
    have : ∀ m, (∃ j, j < m ∧ j < n ∧ f j = true) → ∃ k, k < n ∧ f k = true ∧ ∀ i, i < k → f i = false := by
      intro m
      induction m with
      | zero => rintro ⟨j, h, -⟩; omega
      | succ m ih =>
        rintro ⟨j, h1, h2, h3⟩
        by_cases e : ∃ j, j < m ∧ j < n ∧ f j = true
        · exact ih e
        · refine ⟨j, h2, h3, fun i hi => ?_⟩
          by_cases hi2 : f i = true
          · exact absurd ⟨i, by omega, by omega, hi2⟩ e
          · simpa using hi2
    obtain ⟨k, h1, h2, h3⟩ := this (j + 1) ⟨j, Nat.lt_succ_self _, hj, hf⟩
    exact ⟨k, fst_hit h1 h2 h3, h1, h2⟩
  · left
    refine fst_none fun k hk => ?_
    by_cases e : f k = true
    · exact absurd ⟨k, hk, e⟩ h
    · simpa using e
theorem pass_range (s : G) (f : Nat → Bool) (a : Nat → Int) (hs : s.slot < s.n) : s.pass f a = -1 ∨ ∃ j : Nat, s.pass f a = j ∧ j < s.n ∧ f j = true := by
  unfold G.pass
  split
  · split
    · rename_i h
      rw [Bool.and_eq_true] at h
      exact .inr ⟨s.slot, rfl, hs, h.1⟩
    · exact .inl rfl
  · exact fst_range f s.n
namespace WM
/-- What is sent, and when. -/
def bs (u : WM) (N i : Nat) : List Int := if i < N then (u.ms i).sent else []
def at_ (u : WM) (N i : Nat) : Int := if i < N then (u.ms i).sendS.tm else 0
def sd (u : WM) (N : Nat) : List Sd := m0 N (u.bs N) (u.at_ N)
/-- Who is heard; -1: nobody. -/
def who (u : WM) (N : Nat) : Int := u.s.pass (sF (u.sd N)) (sA (u.sd N))
def heard (u : WM) (N : Nat) : List Int := if u.who N < 0 then [] else u.bs N (u.who N).toNat
def when_ (u : WM) (N : Nat) : Int := if u.who N < 0 then 0 else u.at_ N (u.who N).toNat
def hear (u : WM) (N i : Nat) : Hn := if u.who N < 0 then ⟨0, 0, [], [], 0⟩ else ⟨2, 2, u.heard N, u.heard N, u.when_ N - u.at_ N i⟩
def slot (u : WM) (N : Nat) : WM := ⟨fun i => if i < N then (u.ms i).sendS.take (u.hear N i) else u.ms i, u.s.ended (u.heard N) (u.when_ N), u.sl + 1⟩
end WM
/-- What may be asked of the slot. -/
structure WOk (N : Nat) (u : WM) : Prop where
  n4 : 4 ≤ N ∧ N ≤ 8
  sn : u.s.n = N
  tm : ∀ i, i < N → -100000 ≤ (u.ms i).sendS.tm ∧ (u.ms i).sendS.tm ≤ 100000
  ty : ∀ i, i < N → (u.ms i).sendS.ty.a < 900 ∧ (u.ms i).sendS.ty.f < 900
  now : -100000 ≤ u.s.now ∧ u.s.now ≤ 100000
  slot : u.s.slot < N
  small : small u.s.l
  lm : 0 ≤ u.s.lm ∧ u.s.lm ≤ 1000
  wi : 0 ≤ u.s.wi ∧ u.s.wi ≤ 1000
  si : u.s.si ≤ 1000
theorem WM.at_bd {N : Nat} {u : WM} (h : WOk N u) (i : Nat) : -100000 ≤ u.at_ N i ∧ u.at_ N i ≤ 100000 := by
  unfold WM.at_
  split
  · exact h.tm i (by assumption)
  · omega
theorem WM.when_bd {N : Nat} {u : WM} (h : WOk N u) : -100000 ≤ u.when_ N ∧ u.when_ N ≤ 100000 := by
  unfold WM.when_
  split
  · omega
  · exact WM.at_bd h _
theorem WOk.ok {N : Nat} {u : WM} (h : WOk N u) : u.s.Ok (u.when_ N) := by
  have := WM.when_bd h
  refine ⟨by rw [h.sn]; exact h.n4.2, by rw [h.sn]; exact h.slot, h.small, ?_, ?_, ?_, h.si⟩
  · have := h.lm; omega
  · have := h.now; omega
  · have := h.now; omega
/-- Who is heard sends. -/
theorem WM.who_range {N : Nat} {u : WM} (h : WOk N u) : u.who N = -1 ∨ ∃ j : Nat, u.who N = j ∧ j < N ∧ 0 < (u.bs N j).length := by
  rcases pass_range u.s (sF (u.sd N)) (sA (u.sd N)) (by rw [h.sn]; exact h.slot) with e | ⟨j, e, hj, hf⟩
  · exact .inl e
  · rw [h.sn] at hj
    refine .inr ⟨j, e, hj, ?_⟩
    unfold WM.sd at hf
    rw [sF_m0 N _ _ j hj] at hf
    exact of_decide_eq_true hf
end Go.Proofs.YtjoioojckekfhaaGreat

/-! ### NdNil -/
namespace Go.Proofs.YtjoioojckekfhaaGreat
open Go.ChangeShapes Go.WideShapes Go.ChangeAt Go.RowKit

theorem new_gdN (n : Int) : MS.new.gd n = [] := by unfold MS.gd MS.new; split <;> rfl
theorem new_gaN (n : Int) : MS.new.ga n = -1 := by unfold MS.ga MS.new; split <;> rfl
theorem new_ggN (n : Int) : MS.new.gg n = false := by unfold MS.gg MS.new; split <;> rfl
set_option maxRecDepth 100000 in
set_option maxHeartbeats 1000000 in
theorem noff_nil (w : World) : Calls Tryz.prog 39 #[.pointer none] w fun e w' => e = .returned (.tuple #[]) ∧ w' = w := by
  go_enter Tryz.func39, Tryz.ntmps39
  go_wp2
  exact bodyPost_end (results_none (by rfl) _ _ _) rfl ⟨rfl, rfl⟩
set_option maxRecDepth 100000 in
set_option maxHeartbeats 1000000 in
theorem ntake_nil (w : World) : Calls Tryz.prog 59 #[.pointer none, .agg #[.int .i64 0, .int .i64 0, .slice none 0 0, .slice none 0 0, .int .i64 0]] w fun e w' => e = .returned (.tuple #[]) ∧ Below w.heap.size w w' := by
  have hb := (Below.refl w.heap.size w).alloc (Nat.le_refl _) (.cells #[.int .i64 0, .int .i64 0, .slice none 0 0, .slice none 0 0, .int .i64 0] 120)
  go_enter Tryz.func59, Tryz.ntmps59
  go_wp2
  exact bodyPost_end (results_none (by rfl) _ _ _) rfl ⟨rfl, hb⟩
set_option maxRecDepth 100000 in
set_option maxHeartbeats 1000000 in
theorem non_nil (a : Int) (w : World) : Calls Tryz.prog 38 #[.pointer none, .int .i64 a] w fun e w' => e = .returned (.int .i64 1) ∧ w' = w := by
  go_enter Tryz.func38, Tryz.ntmps38
  go_wp2
  go_ret
  exact ⟨rfl, rfl⟩
set_option maxRecDepth 100000 in
set_option maxHeartbeats 1000000 in
theorem nwrite_nil (A : Option Addr) (m c : Nat) (w : World) : Calls Tryz.prog 40 #[.pointer none, .slice A m c] w fun e w' => e = .returned (.int .i64 1) ∧ w' = w := by
  go_enter Tryz.func40, Tryz.ntmps40
  go_wp2
  go_ret
  exact ⟨rfl, rfl⟩
set_option maxRecDepth 100000 in
set_option maxHeartbeats 1000000 in
theorem nack_nil (a : Int) (w : World) : Calls Tryz.prog 41 #[.pointer none, .int .i64 a] w fun e w' => e = .returned (.int .i64 1) ∧ w' = w := by
  go_enter Tryz.func41, Tryz.ntmps41
  go_wp2
  go_ret
  exact ⟨rfl, rfl⟩
set_option maxRecDepth 100000 in
set_option maxHeartbeats 1000000 in
theorem nsend_nil (w : World) : Calls Tryz.prog 57 #[.pointer none] w fun e w' => e = .returned (.slice none 0 0) ∧ w' = w := by
  go_enter Tryz.func57, Tryz.ntmps57
  go_wp2_with fail
  refine scope_go 0 rfl ?_
  go_wp2
  simp only [Exit.jump]
  go_ret
  exact ⟨rfl, rfl⟩
set_option maxRecDepth 100000 in
set_option maxHeartbeats 1000000 in
theorem nstate_nil (w : World) : Calls Tryz.prog 42 #[.pointer none] w fun e w' => e = .returned (.int .i64 0) ∧ w' = w := by
  go_enter Tryz.func42, Tryz.ntmps42
  go_wp2
  go_ret
  exact ⟨rfl, rfl⟩
set_option maxRecDepth 100000 in
set_option maxHeartbeats 1000000 in
theorem nclock_nil (w : World) : Calls Tryz.prog 45 #[.pointer none] w fun e w' => e = .returned (.int .i64 0) ∧ w' = w := by
  go_enter Tryz.func45, Tryz.ntmps45
  go_wp2
  go_ret
  exact ⟨rfl, rfl⟩
set_option maxRecDepth 100000 in
set_option maxHeartbeats 1000000 in
theorem nrings_nil (a : Int) (w : World) : Calls Tryz.prog 46 #[.pointer none, .int .i64 a] w fun e w' => e = .returned (.int .i64 0) ∧ w' = w := by
  go_enter Tryz.func46, Tryz.ntmps46
  go_wp2
  go_ret
  exact ⟨rfl, rfl⟩
set_option maxRecDepth 100000 in
set_option maxHeartbeats 1000000 in
theorem nview_nil (w : World) : Calls Tryz.prog 43 #[.pointer none] w fun e w' => e = .returned (.agg #[.int .i64 0, .int .i64 0, .int .i64 0]) ∧ Below w.heap.size w w' := by
  have hX := Blk.new w w.heap.size rfl #[.int .i64 0, .int .i64 0, .int .i64 0] 42
  have hb := (((((Below.refl w.heap.size w).alloc (Nat.le_refl _) (.cells #[.int .i64 0, .int .i64 0, .int .i64 0] 42))).setCell (p := ⟨w.heap.size, 0, none⟩) (Nat.le_refl _) (.int .i64 0)).setCell (p := ⟨w.heap.size, 1, none⟩) (Nat.le_refl _) (.int .i64 0)).setCell (p := ⟨w.heap.size, 2, none⟩) (Nat.le_refl _) (.int .i64 0)
  have hB := Lib.hid hb
  clear hb
  go_enter Tryz.func43, Tryz.ntmps43
  go_wp2
  refine bodyPost_ret (v := .agg #[.int .i64 0, .int .i64 0, .int .i64 0]) ?_ rfl ⟨rfl, ?_⟩
  · rw [results_cell rfl]
    go_simp
  · (repeat' (first | exact Below.refl _ _ | exact Nat.le_refl _ | (with_reducible refine Below.setCell ?_ ?_ _) | (with_reducible refine Below.alloc ?_ (Nat.le_refl _) _) | (with_reducible refine below_drewN ?_ _) | (with_reducible refine Below.drew ?_)))
set_option maxRecDepth 100000 in
set_option maxHeartbeats 1000000 in
theorem nread_nil (n : Int) (w : World) : Calls Tryz.prog 44 #[.pointer none, .int .i64 n] w fun e w' => ∃ v, e = .returned (.agg #[v, .int .i64 (-1), .bool false]) ∧ SeesL w' w'.heap.size v [] ∧ Below w.heap.size w w' := by
  have hX := Blk.new w w.heap.size rfl #[.slice none 0 0, .int .i64 0, .bool false] 49
  have hb0 := (Below.refl w.heap.size w).alloc (Nat.le_refl _) (.cells #[.slice none 0 0, .int .i64 0, .bool false] 49)
  have hN := fun W => Lib.hid (new_st W)
  go_enter Tryz.func44, Tryz.ntmps44
  go_wp2_with fail
  refine (hN _).out.mono ?_
  rintro _ w1 ⟨gs, rfl, hgs, hC, b1⟩
  have hX1 := hX.below b1 (by simp)
  have b1 := hb0.trans (b1.mono (by simp))
  have H := Lib.hid (get_st [] gs MS.new n w1 (hC []))
  rw [new_gdN, new_gaN, new_ggN] at H
  clear hN hC hX hb0
  go_wp2_with fail
  refine H.out.mono ?_
  rintro _ w2 ⟨v, rfl, hs, -, b2⟩
  have hX2 := hX1.below b2 hX1.lt
  have b2 := b1.trans (b2.mono b1.size)
  obtain ⟨A, c, rfl, h1, h2, -, h4⟩ := hs.at_
  have x0 := hX2.cell 0 (x := .slice none 0 0) rfl
  have x1 := hX2.cell 1 (x := .int .i64 0) rfl
  have x2 := hX2.cell 2 (x := .bool false) rfl
  have f0 := hX2.frozen 0
  have f1 := hX2.frozen 1
  have f2 := hX2.frozen 2
  have HB := Lib.hid (((b2.setCell (p := ⟨w.heap.size, 0, none⟩) (Nat.le_refl _) (.slice A ([] : List Int).length c)).setCell (p := ⟨w.heap.size, 1, none⟩) (Nat.le_refl _) (.int .i64 (-1))).setCell (p := ⟨w.heap.size, 2, none⟩) (Nat.le_refl _) (.bool false))
  have HN := Lib.hid (And.intro h1 (And.intro h2 h4))
  clear hs b2 hX1 hX2 b1 h1 h2 h4 H
  go_wp2
  refine bodyPost_ret (v := .agg #[.slice A ([] : List Int).length c, .int .i64 (-1), .bool false]) ?_ rfl ?_
  · rw [results_cell rfl]
    go_simp
  · exact ⟨_, rfl, ⟨A, c, rfl, HN.out.1, HN.out.2.1, fun h0 => absurd h0 (by simp), HN.out.2.2⟩, HB.out⟩
end Go.Proofs.YtjoioojckekfhaaGreat
