/- WardNew holds: of any table, drifts and rules whether a ward may be. For all of them. -/
import Derived.Test.YtpdenmcacaajkaaGreatXB44
namespace Go.Proofs.YtpdenmcacaajkaaGreat
open Go.RowKit
theorem info_n10 : (Tryz.prog.info? 33).map (fun i => (i.zero, i.size, i.bytes)) = some (some (.pointer none), 1, 8) := by kernel_rfl
theorem src_p10 (w : World) (t : TypeId) (b g : Nat) (hb : b = w.heap.size) : Src (w.alloc (.cells #[.pointer (some ⟨g, 0, none⟩)] t)) (.slice (some ⟨b, 0, none⟩) 1 1) 1 1 [.pointer (some ⟨g, 0, none⟩)] := by
  refine .inr ⟨_, 1, rfl, rfl, fun j x hj => ?_, fun x hx => ?_⟩
  · match j, hj with
    | 0, hj => simp at hj; subst hj; show (w.alloc _).cell? ⟨b, 0, none⟩ = _; rw [World.cell?_alloc_at _ _ _ _ hb]; rfl
    | j + 1, hj => simp at hj
  · rw [List.mem_singleton.1 hx]; rfl
/-- May a ward be? -/
def mayW (t : Tb.T) (dl : List Int) (l : List R4) : Prop := t.is = true ∧ dl.length = t.ns.length ∧ ∀ i, i < t.ns.length → NM.may t (i : Nat) (dl.getD i 0) l
theorem first_no {t : Tb.T} {dl : List Int} {l : List R4} (h1 : t.is = true) (h2 : dl.length = t.ns.length) (h : ¬ mayW t dl l) : ∃ m, m < t.ns.length ∧ (∀ i, i < m → NM.may t (i : Nat) (dl.getD i 0) l) ∧ ¬ NM.may t (m : Nat) (dl.getD m 0) l := by
  have key : ∀ n, n ≤ t.ns.length → (∀ i, i < n → NM.may t (i : Nat) (dl.getD i 0) l) ∨ ∃ m, m < t.ns.length ∧ (∀ i, i < m → NM.may t (i : Nat) (dl.getD i 0) l) ∧ ¬ NM.may t (m : Nat) (dl.getD m 0) l := by
    intro n
    induction n with
    | zero => exact fun _ => .inl fun i hi => by omega
    | succ n ih =>
      intro hn
      rcases ih (by omega) with h' | h'
      · by_cases hq : NM.may t (n : Nat) (dl.getD n 0) l
        · refine .inl fun i hi => ?_
          by_cases e : i = n
          · subst e; exact hq
          · exact h' i (by omega)
        · exact .inr ⟨n, by omega, h', hq⟩
      · exact .inr h'
  rcases key t.ns.length (Nat.le_refl _) with h' | h'
  · exact absurd ⟨h1, h2, h'⟩ h
  · exact h'
/-- Some nodes are made. -/
structure MW (S x k : Nat) (sp v : Value) (ps : List Value) (X : Array Value) (w0 W : World) : Prop where
  blk : Blk W x #[v, sp, .int .i64 0] 114
  lst : W.ownsRow (x + 1) 33 1 v k ps
  tab : Blk W S X 29
  lo : S < x
  bw : Below S w0 W
theorem MW.below {S x k : Nat} {sp v : Value} {ps : List Value} {X : Array Value} {w0 W W' : World} (h : MW S x k sp v ps X w0 W) (b : Below W.heap.size W W') : MW S x k sp v ps X w0 W' :=
  ⟨h.blk.below b h.blk.lt, World.ownsRow.kept (row := none) h.lst ⟨b.os, b.tape, b.output, b.size, fun k hk _ => b.block k hk⟩ (by cases v.ownBlock <;> simp), h.tab.below b h.tab.lt, h.lo, h.bw.trans (b.mono (by have := h.tab.lt; omega))⟩
theorem MW.push {S x k : Nat} {sp v v' p : Value} {ps : List Value} {X : Array Value} {w0 W W' : World} (h : MW S x k sp v ps X w0 W) (e : Ext W W' v v') (hl : W'.ownsRow (x + 1) 33 1 v' (k + 1) (ps ++ [p])) : MW S x (k + 1) sp v' (ps ++ [p]) X w0 (W'.setCell ⟨x, 0, none⟩ v') := by
  have hx := h.blk.lt
  have hvx : v.ownBlock ≠ some x := fun e => by have := (h.lst.lt x e).1; omega
  have hlo := h.lo
  have hvS : v.ownBlock ≠ some S := fun e => by have := (h.lst.lt S e).1; omega
  have o : Only x W' (W'.setCell ⟨x, 0, none⟩ v') := (Only.refl _ _).set 0 _
  have hX : Blk W' x #[v, sp, .int .i64 0] 114 := (e.grown.block x hx (fun e => hvx e.symm)).trans h.blk
  refine ⟨(hX.set 0 v').eq (by simp), World.ownsRow.kept (row := some x) hl o (.inr fun e' => by have := (hl.lt x e').1; omega), Blk.other ((e.grown.block S h.tab.lt (fun e => hvS e.symm)).trans h.tab) ⟨x, 0, none⟩ (by show S ≠ x; omega) _, h.lo, ?_⟩
  exact h.bw.trans ((e.toBelow (B := S) (by omega) (fun j hj => by have := (h.lst.lt j hj).1; omega)).setCell (p := ⟨x, 0, none⟩) (by show S ≤ x; omega) v')
def N12 (t : Tb.T) (tv dv rv : Value) (W : World) (R : Value → Prop) : Prop :=
  Calls Tryz.prog 14 #[tabV t tv, dv, rv] W fun e w' => (∃ x, R x ∧ e = .returned x) ∧ Below W.heap.size W w'
set_option maxRecDepth 100000 in
set_option maxHeartbeats 4000000 in
theorem n12_1 (t : Tb.T) (tv dv rv : Value) (dl : List Int) (W : World) (ht : SeesT W W.heap.size tv t.ns) (hd : SeesI W W.heap.size dv dl) (his : t.is = false) : N12 t tv dv rv W N10no := by
  unfold N12 N10no
  have hbx := (Below.refl W.heap.size W).alloc (Nat.le_refl _) (.cells #[tv, .int .i64 t.dr, .int .i64 t.wi, .int .i64 t.lm] 29)
  have X := Blk.new W W.heap.size rfl #[tv, .int .i64 t.dr, .int .i64 t.wi, .int .i64 t.lm] 29
  have hI := Lib.hid (is_rf t tv (W.alloc (.cells #[tv, .int .i64 t.dr, .int .i64 t.wi, .int .i64 t.lm] 29)) W.heap.size (by simp) (ht.below hbx))
  rw [his] at hI
  obtain ⟨Ad, cd, rfl, -⟩ := hd.at_
  obtain ⟨At, ct, rfl, -⟩ := ht.at_
  unfold tabV at hI ⊢
  clear ht hd
  have x0 := X.cell 0 (x := .slice At t.ns.length ct) rfl
  have x1 := X.cell 1 (x := .int .i64 t.dr) rfl
  have x2 := X.cell 2 (x := .int .i64 t.wi) rfl
  have x3 := X.cell 3 (x := .int .i64 t.lm) rfl
  go_enter Tryz.func14, Tryz.ntmps14
  go_wp2_with fail
  refine hI.out.mono ?_
  rintro e w1 ⟨rfl, hb1⟩
  have hB1 := Lib.hid (hbx.trans (hb1.mono hbx.size))
  clear X hI hbx hb1 x0 x1 x2 x3
  go_wp2_with fail
  go_ret2
  exact ⟨⟨_, rfl, rfl⟩, hB1.out⟩
set_option maxRecDepth 100000 in
set_option maxHeartbeats 4000000 in
theorem n12_2 (t : Tb.T) (tv dv rv : Value) (dl : List Int) (W : World) (ht : SeesT W W.heap.size tv t.ns) (hd : SeesI W W.heap.size dv dl) (his : t.is = true) (hN : dl.length ≠ t.ns.length) : N12 t tv dv rv W N10no := by
  unfold N12 N10no
  have hbx := (Below.refl W.heap.size W).alloc (Nat.le_refl _) (.cells #[tv, .int .i64 t.dr, .int .i64 t.wi, .int .i64 t.lm] 29)
  have X := Blk.new W W.heap.size rfl #[tv, .int .i64 t.dr, .int .i64 t.wi, .int .i64 t.lm] 29
  have hI := Lib.hid (is_rf t tv (W.alloc (.cells #[tv, .int .i64 t.dr, .int .i64 t.wi, .int .i64 t.lm] 29)) W.heap.size (by simp) (ht.below hbx))
  rw [his] at hI
  obtain ⟨Ad, cd, rfl, -⟩ := hd.at_
  obtain ⟨At, ct, rfl, -⟩ := ht.at_
  unfold tabV at hI ⊢
  clear ht hd
  have q0 : (((dl.length : Nat) : Int) != ((t.ns.length : Nat) : Int)) = true := by simp; omega
  have q0n : (dl.length != t.ns.length) = true := by simpa using hN
  generalize dl.length = nd at *
  generalize hNe : t.ns.length = N at *
  have x0 := X.cell 0 (x := .slice At N ct) rfl
  have x1 := X.cell 1 (x := .int .i64 t.dr) rfl
  have x2 := X.cell 2 (x := .int .i64 t.wi) rfl
  have x3 := X.cell 3 (x := .int .i64 t.lm) rfl
  go_enter Tryz.func14, Tryz.ntmps14
  go_wp2_with fail
  refine hI.out.mono ?_
  rintro e w1 ⟨rfl, hb1⟩
  have hB1 := Lib.hid (hbx.trans (hb1.mono hbx.size))
  have x0 := (X.below hb1 X.lt).cell 0 (x := .slice At N ct) rfl
  clear X hI hbx hb1 x1 x2 x3
  go_wp2_with fail
  go_ret2
  exact ⟨⟨_, rfl, rfl⟩, hB1.out⟩
set_option maxRecDepth 100000 in
set_option maxHeartbeats 4000000 in
theorem n12_3 (m : Nat) (t : Tb.T) (tv dv rv : Value) (dl : List Int) (l : List R4) (W : World) (ht : SeesT W W.heap.size tv t.ns) (hd : SeesI W W.heap.size dv dl) (hr : SeesRs W W.heap.size rv l) (his : t.is = true) (hN : dl.length = t.ns.length) (hm : m < t.ns.length) (hmay : ∀ i, i < m → NM.may t (i : Nat) (dl.getD i 0) l) (hno : ¬ NM.may t (m : Nat) (dl.getD m 0) l) : N12 t tv dv rv W N10no := by
  unfold N12 N10no
  have hn4 := (Tb.T.may his).n4
  have hn8 := (Tb.T.may his).n8
  have hbx := (Below.refl W.heap.size W).alloc (Nat.le_refl _) (.cells #[tv, .int .i64 t.dr, .int .i64 t.wi, .int .i64 t.lm] 29)
  have X := Blk.new W W.heap.size rfl #[tv, .int .i64 t.dr, .int .i64 t.wi, .int .i64 t.lm] 29
  have hT := fun W' (hb : Below W.heap.size W W') => (ht.below hb).more hb.size
  have hI := Lib.hid (is_rf t tv (W.alloc (.cells #[tv, .int .i64 t.dr, .int .i64 t.wi, .int .i64 t.lm] 29)) W.heap.size (by simp) (ht.below hbx))
  rw [his] at hI
  have hS := fun W' (hb : Below W.heap.size W W') => Lib.hid ((new_rf11 t tv W' (hT W' hb)).mono fun e w' h => show (∃ g, e = .returned (.tuple #[.pointer (some ⟨g, 0, none⟩), .int .i64 0])) ∧ Below W'.heap.size W' w' from ⟨by rw [if_pos his] at h; exact h.1, h.2⟩)
  obtain ⟨Ad, cd, rfl, d1, d2, d3, d4⟩ := hd.at_
  obtain ⟨At, ct, rfl, -⟩ := ht.at_
  have hNd := fun (k : Nat) (hk : k < m) (wr : World) (hb : Below W.heap.size W wr) => Lib.hid (n10_yes t (.slice At t.ns.length ct) rv (k : Nat) (dl.getD k 0) l wr (hT wr hb) ((hr.below hb).more hb.size) (hmay k hk))
  have hNo := fun (wr : World) (hb : Below W.heap.size W wr) => Lib.hid (n10_no t (.slice At t.ns.length ct) rv (m : Nat) (dl.getD m 0) l wr (hT wr hb) ((hr.below hb).more hb.size) hno)
  unfold N10 N10no at hNo
  unfold N10 N10ok at hNd
  unfold tabV at hI hS hNd hNo ⊢
  rw [hN] at d1 d3 d4 ⊢
  have q0 : (((t.ns.length : Nat) : Int) != ((t.ns.length : Nat) : Int)) = false := by simp
  have hdc : Hid (∀ (k : Nat) (wr : World), k < t.ns.length → Below W.heap.size W wr → ∃ b off, Ad = some ⟨b, off, none⟩ ∧ wr.cell? ⟨b, off + k, none⟩ = some (.int .i64 (dl.getD k 0))) := Lib.hid fun k wr hk hb => by
    obtain ⟨b, off, e, hlt, hc⟩ := d3 (by omega)
    exact ⟨b, off, e, (hb.cell (p := ⟨b, off + k, none⟩) hlt).trans (hc k hk)⟩
  clear d3 d4 ht hd hr hmay hno
  generalize hNe : t.ns.length = N at *
  go_enter Tryz.func14, Tryz.ntmps14
  have x0 := X.cell 0 (x := .slice At N ct) rfl
  have x1 := X.cell 1 (x := .int .i64 t.dr) rfl
  have x2 := X.cell 2 (x := .int .i64 t.wi) rfl
  have x3 := X.cell 3 (x := .int .i64 t.lm) rfl
  go_wp2_with fail
  refine hI.out.mono ?_
  rintro e w1 ⟨rfl, hb1⟩
  have X1 := X.below hb1 X.lt
  have hB1 := hbx.trans (hb1.mono (by simp))
  clear x0 x1 x2 x3 X hI hbx hb1
  have X2 := X1.alloc (.cells #[.slice none 0 0, .pointer none, .int .i64 0] 114)
  have hB2 := hB1.alloc hB1.size (.cells #[.slice none 0 0, .pointer none, .int .i64 0] 114)
  have Y2 := Blk.new w1 w1.heap.size rfl #[.slice none 0 0, .pointer none, .int .i64 0] 114
  have hXw : W.heap.size < w1.heap.size := X1.lt
  have x0 := X1.cell 0 (x := .slice At N ct) rfl
  have y0 := X2.cell 0 (x := .slice At N ct) rfl
  have y1 := X2.cell 1 (x := .int .i64 t.dr) rfl
  have y2 := X2.cell 2 (x := .int .i64 t.wi) rfl
  have y3 := X2.cell 3 (x := .int .i64 t.lm) rfl
  have hS2 := hS _ hB2
  clear hS
  go_wp2_with fail
  refine hS2.out.mono ?_
  rintro e w3 ⟨⟨gs, rfl⟩, hb3⟩
  have X3 := X2.below hb3 X2.lt
  have Y3 := Y2.below hb3 Y2.lt
  have hB3 := hB2.trans (hb3.mono hB2.size)
  have f3 := Y3.frozen 1
  have c3 := Y3.cell 1 (x := .pointer none) rfl
  have hMW : Hid (MW W.heap.size w1.heap.size 0 (.pointer (some ⟨gs, 0, none⟩)) (.slice none 0 0) [] #[.slice At N ct, .int .i64 t.dr, .int .i64 t.wi, .int .i64 t.lm] W (w3.setCell ⟨w1.heap.size, 1, none⟩ (.pointer (some ⟨gs, 0, none⟩)))) :=
    Lib.hid ⟨(Y3.set 1 _).eq (by simp), World.ownsRow_nil _ _ _ _, X3.other ⟨w1.heap.size, 1, none⟩ (by show W.heap.size ≠ w1.heap.size; omega) _, hXw, hB3.setCell (p := ⟨w1.heap.size, 1, none⟩) (by show W.heap.size ≤ w1.heap.size; omega) _⟩
  clear x0 y0 y1 y2 y3 X1 X2 X3 Y2 Y3 hS2 hB1 hB2 hB3 hb3
  generalize w1.heap.size = x at *
  go_wp2_with fail
  generalize w3.setCell ⟨x, 1, none⟩ (.pointer (some ⟨gs, 0, none⟩)) = w4 at *
  generalize (Value.pointer (some ⟨gs, 0, none⟩)) = sp at *
  clear f3 c3
  go_loopw [9] (fun i wr => ∃ (k : Nat) (ps : List Value) (v : Value), k ≤ m ∧ i = .int .i64 (k : Nat) ∧ MW W.heap.size x k sp v ps #[.slice At N ct, .int .i64 t.dr, .int .i64 t.wi, .int .i64 t.lm] W wr) (fun i _ => m - (intOf i).toNat)
  case atStart => exact ⟨0, _, _, by omega, rfl, hMW.out⟩
  case round =>
    clear hMW
    obtain ⟨k, ps, v, hk, rfl, h⟩ := hrel
    by_cases hlt : k < m
    · have r1 : decide ((k : Int) < (N : Nat)) = true := by simp; omega
      obtain ⟨b, off, rfl, hdr⟩ := hdc.out k wr (by omega) h.bw
      have x0 := h.tab.cell 0 (x := .slice At N ct) rfl
      have x1 := h.tab.cell 1 (x := .int .i64 t.dr) rfl
      have x2 := h.tab.cell 2 (x := .int .i64 t.wi) rfl
      have x3 := h.tab.cell 3 (x := .int .i64 t.lm) rfl
      have hN4 := hNd k hlt wr.drew h.bw.drew
      have hD := Lib.hid (h.below (Below.refl _ wr).drew)
      have HS : ∀ W', Below wr.heap.size wr W' → W'.cell? ⟨W.heap.size, 0, none⟩ = some (.slice At N ct) ∧ W'.cell? ⟨W.heap.size, 1, none⟩ = some (.int .i64 t.dr) ∧ W'.cell? ⟨W.heap.size, 2, none⟩ = some (.int .i64 t.wi) ∧ W'.cell? ⟨W.heap.size, 3, none⟩ = some (.int .i64 t.lm) ∧ W'.cell? ⟨b, off + k, none⟩ = some (.int .i64 (dl.getD k 0)) := fun W' hW => by
        have h' := h.tab.below hW h.tab.lt
        obtain ⟨b', off', e', hc'⟩ := hdc.out k W' (by omega) (h.bw.trans (hW.mono h.bw.size))
        cases e'
        exact ⟨h'.cell 0 rfl, h'.cell 1 rfl, h'.cell 2 rfl, h'.cell 3 rfl, hc'⟩
      have hbr := (Below.refl wr.heap.size wr).drew
      have S0 := Lib.hid (HS _ hbr)
      have HH := Lib.hid HS
      clear HS
      generalize dl.getD k 0 = y at *
      clear h
      go_wp2_with fail
      clear x0 x1 x2 x3 hdr
      go_region_held3 (fun W' => W'.cell? ⟨W.heap.size, 0, none⟩ = some (.slice At N ct) ∧ W'.cell? ⟨W.heap.size, 1, none⟩ = some (.int .i64 t.dr) ∧ W'.cell? ⟨W.heap.size, 2, none⟩ = some (.int .i64 t.wi) ∧ W'.cell? ⟨W.heap.size, 3, none⟩ = some (.int .i64 t.lm) ∧ W'.cell? ⟨b, off + k, none⟩ = some (.int .i64 y)) ((first | exact S0.out | exact S1.out))
        (first
          | (go_at_call 8; refine hN4.out.mono ?_; rintro e w5 ⟨⟨_, ⟨g, rfl⟩, rfl⟩, hb5⟩; (have h5 := hD.out.below hb5); (have S1 := Lib.hid (HH.out _ (hbr.trans (hb5.mono hbr.size)))))
          | fail)
      clear hN4 hb5 hD S0 S1 HH
      have hx5 := h5.blk.lt
      have hl5 := h5.lst
      have c0 := h5.blk.cell 0 (x := v) rfl
      have hvx : v.ownBlock ≠ some x := fun e => by have := (hl5.lt x e).1; omega
      have hsrc := src_p10 w5 33 w5.heap.size g rfl
      go_wp2_with (at_builtin; go_loud (refine wpList_pushC _ rfl (.tmp 56) (.tmp 58) 111 rfl (x + 1) 33 _ 1 8 info_n10 rfl (by omega) Tryz.underlying111 v k _ (hl5.alloc _) rfl _ 1 _ rfl hsrc (by simp; omega) (by simp [maxLen]; omega) (by omega) ?_))
      intro v6 w6 hl6 hx6
      obtain ⟨b6, e6, rfl⟩ : ∃ b6 e6, v6 = .slice (some ⟨b6, 0, none⟩) (k + 1) e6 := by
        rcases hl6.2 with ⟨-, e⟩ | ⟨g6, cap6, cur6, e, -⟩
        · omega
        · exact ⟨g6, cap6, e⟩
      have hE := ((Ext.refl w5 v).alloc (.cells #[.pointer (some ⟨g, 0, none⟩)] 33)).trans hx6
      have hX6 : Blk w6 x #[v, sp, .int .i64 0] 114 := (hE.grown.block x hx5 (fun e => hvx e.symm)).trans h5.blk
      have c6 := hX6.cell 0 (x := v) rfl
      have f6 := hX6.frozen 0
      have h7 := Lib.hid (h5.push hE hl6)
      clear h5 hE hl6 hx6 hX6 c0 hl5 hsrc
      go_wp2_with fail
      go_roundw
      case rel => exact ⟨k + 1, _, _, by omega, by go_num, h7.out⟩
      case measure => simp [intOf]; omega
    · obtain rfl : k = m := by omega
      have r1 : decide ((k : Int) < (N : Nat)) = true := by simp; omega
      obtain ⟨b, off, rfl, hdr⟩ := hdc.out k wr hm h.bw
      have x0 := h.tab.cell 0 (x := .slice At N ct) rfl
      have x1 := h.tab.cell 1 (x := .int .i64 t.dr) rfl
      have x2 := h.tab.cell 2 (x := .int .i64 t.wi) rfl
      have x3 := h.tab.cell 3 (x := .int .i64 t.lm) rfl
      have hN4 := hNo wr.drew h.bw.drew
      have HS : ∀ W', Below wr.heap.size wr W' → W'.cell? ⟨W.heap.size, 0, none⟩ = some (.slice At N ct) ∧ W'.cell? ⟨W.heap.size, 1, none⟩ = some (.int .i64 t.dr) ∧ W'.cell? ⟨W.heap.size, 2, none⟩ = some (.int .i64 t.wi) ∧ W'.cell? ⟨W.heap.size, 3, none⟩ = some (.int .i64 t.lm) ∧ W'.cell? ⟨b, off + k, none⟩ = some (.int .i64 (dl.getD k 0)) := fun W' hW => by
        have h' := h.tab.below hW h.tab.lt
        obtain ⟨b', off', e', hc'⟩ := hdc.out k W' (by omega) (h.bw.trans (hW.mono h.bw.size))
        cases e'
        exact ⟨h'.cell 0 rfl, h'.cell 1 rfl, h'.cell 2 rfl, h'.cell 3 rfl, hc'⟩
      have hbr := (Below.refl wr.heap.size wr).drew
      have S0 := Lib.hid (HS _ hbr)
      have HH := Lib.hid HS
      clear HS
      generalize dl.getD k 0 = y at *
      have hbw := Lib.hid h.bw.drew
      clear h hNd hNo
      go_wp2_with fail
      clear x0 x1 x2 x3 hdr
      go_region_held3 (fun W' => W'.cell? ⟨W.heap.size, 0, none⟩ = some (.slice At N ct) ∧ W'.cell? ⟨W.heap.size, 1, none⟩ = some (.int .i64 t.dr) ∧ W'.cell? ⟨W.heap.size, 2, none⟩ = some (.int .i64 t.wi) ∧ W'.cell? ⟨W.heap.size, 3, none⟩ = some (.int .i64 t.lm) ∧ W'.cell? ⟨b, off + k, none⟩ = some (.int .i64 y)) ((first | exact S0.out | exact S1.out))
        (first
          | (go_at_call 8; refine hN4.out.mono ?_; rintro e w5 ⟨⟨_, rfl, rfl⟩, hb5⟩; (have hB5 := Lib.hid (hbw.out.trans (hb5.mono hbw.out.size))); (have S1 := Lib.hid (HH.out _ (hbr.trans (hb5.mono hbr.size)))))
          | fail)
      clear S0 S1 HH
      go_wp2_with fail
      go_ret2
      exact ⟨⟨_, rfl, rfl⟩, hB5.out⟩
set_option maxRecDepth 100000 in
set_option maxHeartbeats 4000000 in
theorem n12_ok (t : Tb.T) (tv dv rv : Value) (dl : List Int) (l : List R4) (W : World) (ht : SeesT W W.heap.size tv t.ns) (hd : SeesI W W.heap.size dv dl) (hr : SeesRs W W.heap.size rv l) (his : t.is = true) (hN : dl.length = t.ns.length) (hmay : ∀ i, i < t.ns.length → NM.may t (i : Nat) (dl.getD i 0) l) : N12 t tv dv rv W N10ok := by
  unfold N12 N10ok
  have hn4 := (Tb.T.may his).n4
  have hn8 := (Tb.T.may his).n8
  have hbx := (Below.refl W.heap.size W).alloc (Nat.le_refl _) (.cells #[tv, .int .i64 t.dr, .int .i64 t.wi, .int .i64 t.lm] 29)
  have X := Blk.new W W.heap.size rfl #[tv, .int .i64 t.dr, .int .i64 t.wi, .int .i64 t.lm] 29
  have hT := fun W' (hb : Below W.heap.size W W') => (ht.below hb).more hb.size
  have hI := Lib.hid (is_rf t tv (W.alloc (.cells #[tv, .int .i64 t.dr, .int .i64 t.wi, .int .i64 t.lm] 29)) W.heap.size (by simp) (ht.below hbx))
  rw [his] at hI
  have hS := fun W' (hb : Below W.heap.size W W') => Lib.hid ((new_rf11 t tv W' (hT W' hb)).mono fun e w' h => show (∃ g, e = .returned (.tuple #[.pointer (some ⟨g, 0, none⟩), .int .i64 0])) ∧ Below W'.heap.size W' w' from ⟨by rw [if_pos his] at h; exact h.1, h.2⟩)
  obtain ⟨Ad, cd, rfl, d1, d2, d3, d4⟩ := hd.at_
  obtain ⟨At, ct, rfl, -⟩ := ht.at_
  have hNd := fun (k : Nat) (hk : k < t.ns.length) (wr : World) (hb : Below W.heap.size W wr) => Lib.hid (n10_yes t (.slice At t.ns.length ct) rv (k : Nat) (dl.getD k 0) l wr (hT wr hb) ((hr.below hb).more hb.size) (hmay k hk))
  unfold N10 N10ok at hNd
  unfold tabV at hI hS hNd ⊢
  rw [hN] at d1 d3 d4 ⊢
  have q0 : (((t.ns.length : Nat) : Int) != ((t.ns.length : Nat) : Int)) = false := by simp
  have hdc : Hid (∀ (k : Nat) (wr : World), k < t.ns.length → Below W.heap.size W wr → ∃ b off, Ad = some ⟨b, off, none⟩ ∧ wr.cell? ⟨b, off + k, none⟩ = some (.int .i64 (dl.getD k 0))) := Lib.hid fun k wr hk hb => by
    obtain ⟨b, off, e, hlt, hc⟩ := d3 (by omega)
    exact ⟨b, off, e, (hb.cell (p := ⟨b, off + k, none⟩) hlt).trans (hc k hk)⟩
  clear d3 d4 ht hd hr hmay
  generalize hNe : t.ns.length = N at *
  go_enter Tryz.func14, Tryz.ntmps14
  have x0 := X.cell 0 (x := .slice At N ct) rfl
  have x1 := X.cell 1 (x := .int .i64 t.dr) rfl
  have x2 := X.cell 2 (x := .int .i64 t.wi) rfl
  have x3 := X.cell 3 (x := .int .i64 t.lm) rfl
  go_wp2_with fail
  refine hI.out.mono ?_
  rintro e w1 ⟨rfl, hb1⟩
  have X1 := X.below hb1 X.lt
  have hB1 := hbx.trans (hb1.mono (by simp))
  clear x0 x1 x2 x3 X hI hbx hb1
  have X2 := X1.alloc (.cells #[.slice none 0 0, .pointer none, .int .i64 0] 114)
  have hB2 := hB1.alloc hB1.size (.cells #[.slice none 0 0, .pointer none, .int .i64 0] 114)
  have Y2 := Blk.new w1 w1.heap.size rfl #[.slice none 0 0, .pointer none, .int .i64 0] 114
  have hXw : W.heap.size < w1.heap.size := X1.lt
  have x0 := X1.cell 0 (x := .slice At N ct) rfl
  have y0 := X2.cell 0 (x := .slice At N ct) rfl
  have y1 := X2.cell 1 (x := .int .i64 t.dr) rfl
  have y2 := X2.cell 2 (x := .int .i64 t.wi) rfl
  have y3 := X2.cell 3 (x := .int .i64 t.lm) rfl
  have hS2 := hS _ hB2
  clear hS
  go_wp2_with fail
  refine hS2.out.mono ?_
  rintro e w3 ⟨⟨gs, rfl⟩, hb3⟩
  have X3 := X2.below hb3 X2.lt
  have Y3 := Y2.below hb3 Y2.lt
  have hB3 := hB2.trans (hb3.mono hB2.size)
  have f3 := Y3.frozen 1
  have c3 := Y3.cell 1 (x := .pointer none) rfl
  have hMW : Hid (MW W.heap.size w1.heap.size 0 (.pointer (some ⟨gs, 0, none⟩)) (.slice none 0 0) [] #[.slice At N ct, .int .i64 t.dr, .int .i64 t.wi, .int .i64 t.lm] W (w3.setCell ⟨w1.heap.size, 1, none⟩ (.pointer (some ⟨gs, 0, none⟩)))) :=
    Lib.hid ⟨(Y3.set 1 _).eq (by simp), World.ownsRow_nil _ _ _ _, X3.other ⟨w1.heap.size, 1, none⟩ (by show W.heap.size ≠ w1.heap.size; omega) _, hXw, hB3.setCell (p := ⟨w1.heap.size, 1, none⟩) (by show W.heap.size ≤ w1.heap.size; omega) _⟩
  clear x0 y0 y1 y2 y3 X1 X2 X3 Y2 Y3 hS2 hB1 hB2 hB3 hb3
  generalize w1.heap.size = x at *
  go_wp2_with fail
  generalize w3.setCell ⟨x, 1, none⟩ (.pointer (some ⟨gs, 0, none⟩)) = w4 at *
  generalize (Value.pointer (some ⟨gs, 0, none⟩)) = sp at *
  clear f3 c3
  go_loopw [9] (fun i wr => ∃ (k : Nat) (ps : List Value) (v : Value), k ≤ N ∧ i = .int .i64 (k : Nat) ∧ MW W.heap.size x k sp v ps #[.slice At N ct, .int .i64 t.dr, .int .i64 t.wi, .int .i64 t.lm] W wr) (fun i _ => N - (intOf i).toNat)
  case atStart => exact ⟨0, _, _, by omega, rfl, hMW.out⟩
  case round =>
    clear hMW
    obtain ⟨k, ps, v, hk, rfl, h⟩ := hrel
    by_cases hlt : k < N
    · have r1 : decide ((k : Int) < (N : Nat)) = true := by simp; omega
      obtain ⟨b, off, rfl, hdr⟩ := hdc.out k wr (by omega) h.bw
      have x0 := h.tab.cell 0 (x := .slice At N ct) rfl
      have x1 := h.tab.cell 1 (x := .int .i64 t.dr) rfl
      have x2 := h.tab.cell 2 (x := .int .i64 t.wi) rfl
      have x3 := h.tab.cell 3 (x := .int .i64 t.lm) rfl
      have hN4 := hNd k hlt wr.drew h.bw.drew
      have hD := Lib.hid (h.below (Below.refl _ wr).drew)
      have HS : ∀ W', Below wr.heap.size wr W' → W'.cell? ⟨W.heap.size, 0, none⟩ = some (.slice At N ct) ∧ W'.cell? ⟨W.heap.size, 1, none⟩ = some (.int .i64 t.dr) ∧ W'.cell? ⟨W.heap.size, 2, none⟩ = some (.int .i64 t.wi) ∧ W'.cell? ⟨W.heap.size, 3, none⟩ = some (.int .i64 t.lm) ∧ W'.cell? ⟨b, off + k, none⟩ = some (.int .i64 (dl.getD k 0)) := fun W' hW => by
        have h' := h.tab.below hW h.tab.lt
        obtain ⟨b', off', e', hc'⟩ := hdc.out k W' (by omega) (h.bw.trans (hW.mono h.bw.size))
        cases e'
        exact ⟨h'.cell 0 rfl, h'.cell 1 rfl, h'.cell 2 rfl, h'.cell 3 rfl, hc'⟩
      have hbr := (Below.refl wr.heap.size wr).drew
      have S0 := Lib.hid (HS _ hbr)
      have HH := Lib.hid HS
      clear HS
      generalize dl.getD k 0 = y at *
      clear h
      go_wp2_with fail
      clear x0 x1 x2 x3 hdr
      go_region_held3 (fun W' => W'.cell? ⟨W.heap.size, 0, none⟩ = some (.slice At N ct) ∧ W'.cell? ⟨W.heap.size, 1, none⟩ = some (.int .i64 t.dr) ∧ W'.cell? ⟨W.heap.size, 2, none⟩ = some (.int .i64 t.wi) ∧ W'.cell? ⟨W.heap.size, 3, none⟩ = some (.int .i64 t.lm) ∧ W'.cell? ⟨b, off + k, none⟩ = some (.int .i64 y)) ((first | exact S0.out | exact S1.out))
        (first
          | (go_at_call 8; refine hN4.out.mono ?_; rintro e w5 ⟨⟨_, ⟨g, rfl⟩, rfl⟩, hb5⟩; (have h5 := hD.out.below hb5); (have S1 := Lib.hid (HH.out _ (hbr.trans (hb5.mono hbr.size)))))
          | fail)
      clear hN4 hb5 hD S0 S1 HH
      have hx5 := h5.blk.lt
      have hl5 := h5.lst
      have c0 := h5.blk.cell 0 (x := v) rfl
      have hvx : v.ownBlock ≠ some x := fun e => by have := (hl5.lt x e).1; omega
      have hsrc := src_p10 w5 33 w5.heap.size g rfl
      go_wp2_with (at_builtin; go_loud (refine wpList_pushC _ rfl (.tmp 56) (.tmp 58) 111 rfl (x + 1) 33 _ 1 8 info_n10 rfl (by omega) Tryz.underlying111 v k _ (hl5.alloc _) rfl _ 1 _ rfl hsrc (by simp; omega) (by simp [maxLen]; omega) (by omega) ?_))
      intro v6 w6 hl6 hx6
      obtain ⟨b6, e6, rfl⟩ : ∃ b6 e6, v6 = .slice (some ⟨b6, 0, none⟩) (k + 1) e6 := by
        rcases hl6.2 with ⟨-, e⟩ | ⟨g6, cap6, cur6, e, -⟩
        · omega
        · exact ⟨g6, cap6, e⟩
      have hE := ((Ext.refl w5 v).alloc (.cells #[.pointer (some ⟨g, 0, none⟩)] 33)).trans hx6
      have hX6 : Blk w6 x #[v, sp, .int .i64 0] 114 := (hE.grown.block x hx5 (fun e => hvx e.symm)).trans h5.blk
      have c6 := hX6.cell 0 (x := v) rfl
      have f6 := hX6.frozen 0
      have h7 := Lib.hid (h5.push hE hl6)
      clear h5 hE hl6 hx6 hX6 c0 hl5 hsrc
      go_wp2_with fail
      go_roundw
      case rel => exact ⟨k + 1, _, _, by omega, by go_num, h7.out⟩
      case measure => simp [intOf]; omega
    · obtain rfl : k = N := by omega
      have r1 : decide ((k : Int) < (k : Nat)) = false := by simp
      have hbw := Lib.hid h.bw
      clear h
      go_wp2_with fail
      go_ret2
      exact ⟨⟨_, ⟨_, rfl⟩, rfl⟩, hbw.out⟩
theorem n12_no (t : Tb.T) (tv dv rv : Value) (dl : List Int) (l : List R4) (W : World) (ht : SeesT W W.heap.size tv t.ns) (hd : SeesI W W.heap.size dv dl) (hr : SeesRs W W.heap.size rv l) (h : ¬ mayW t dl l) : N12 t tv dv rv W N10no := by
  by_cases h1 : t.is = true
  case neg => exact n12_1 t tv dv rv dl W ht hd (by simpa using h1)
  by_cases h2 : dl.length = t.ns.length
  case neg => exact n12_2 t tv dv rv dl W ht hd h1 h2
  obtain ⟨m, hm, hmay, hno⟩ := first_no h1 h2 h
  exact n12_3 m t tv dv rv dl l W ht hd hr h1 h2 hm hmay hno
end Go.Proofs.YtpdenmcacaajkaaGreat

namespace Go.Proofs.YtpdenmcacaajkaaGreat
open Go.ChangeShapes Go.WideShapes Go.ChangeAt Go.RowKit
/-- ward.New refuses what may not be. -/
theorem wnew_no (t : Tb.T) (tv dv rv : Value) (dl : List Int) (l : List R4) (W : World) (ht : SeesT W W.heap.size tv t.ns) (hd : SeesI W W.heap.size dv dl) (hr : SeesRs W W.heap.size rv l) (h : ¬ mayW t dl l) :
    Calls Tryz.prog 13 #[tabV t tv, dv, rv] W fun e w' => e = .returned (.tuple #[.pointer none, .int .i64 1]) ∧ Below W.heap.size W w' := by
  by_cases h1 : t.is = true
  case neg => exact wnew_no1 t tv dv rv dl W ht hd (by simpa using h1)
  by_cases h2 : dl.length = t.ns.length
  case neg => exact wnew_no2 t tv dv rv dl W ht hd h1 h2
  obtain ⟨m, hm, hmay, hno⟩ := first_no h1 h2 h
  exact wnew_no3 m t tv dv rv dl l W ht hd hr h1 h2 hm hmay hno
set_option maxRecDepth 100000 in
set_option maxHeartbeats 4000000 in
theorem walk_wardNew (t : Tb.T) (v : Value) (dl : List Int) (d : Value) (l : List R4) (u : Value) (w : World) (ht : InTable w t v) (hd0 : InInts w d dl) (hu : SeesRs w w.heap.size u l) :
    Calls Tryz.prog 4 #[tabV t v, d, u] w fun e w' => e = .returned (.bool true) ∧ Below w.heap.size w w' := by
  have hv := ht.sees
  have hd := hd0.sees
  have hb0 := fun o => (Below.refl w.heap.size w).alloc (Nat.le_refl _) o
  have hXA := fun A c => Blk.new w w.heap.size rfl #[.slice A t.ns.length c, .int .i64 t.dr, .int .i64 t.wi, .int .i64 t.lm] 29
  have hY : ∀ W, mayW t dl l → Below w.heap.size w W → Hid (Calls Tryz.prog 13 #[tabV t v, d, u] W fun e w' => ∃ g, e = .returned (.tuple #[.pointer (some ⟨g, 0, none⟩), .int .i64 0]) ∧ Below W.heap.size W w') := fun W h hW =>
    Lib.hid ((wnew t v d u dl l W ((hv.below hW).more hW.size) ((hd.below hW).more hW.size) ((hu.below hW).more hW.size) h.1 h.2.1 h.2.2).mono fun _ _ ⟨g, h1, _, h2⟩ => ⟨g, h1, h2⟩)
  have hN : ∀ W, ¬ mayW t dl l → Below w.heap.size w W → Hid (Calls Tryz.prog 13 #[tabV t v, d, u] W fun e w' => e = .returned (.tuple #[.pointer none, .int .i64 1]) ∧ Below W.heap.size W w') := fun W h hW =>
    Lib.hid (wnew_no t v d u dl l W ((hv.below hW).more hW.size) ((hd.below hW).more hW.size) ((hu.below hW).more hW.size) h)
  have gY : ∀ W, mayW t dl l → Below w.heap.size w W → Hid (N12 t v d u W N10ok) := fun W h hW =>
    Lib.hid (n12_ok t v d u dl l W ((hv.below hW).more hW.size) ((hd.below hW).more hW.size) ((hu.below hW).more hW.size) h.1 h.2.1 h.2.2)
  have gN : ∀ W, ¬ mayW t dl l → Below w.heap.size w W → Hid (N12 t v d u W N10no) := fun W h hW =>
    Lib.hid (n12_no t v d u dl l W ((hv.below hW).more hW.size) ((hd.below hW).more hW.size) ((hu.below hW).more hW.size) h)
  obtain ⟨A, c, rfl, n1, n2, -, -⟩ := hv.at_
  obtain ⟨Ad, cd, rfl, m1, m2, -, -⟩ := hd.at_
  obtain ⟨Ar, cr, rfl, r1, r2, -, -⟩ := hu.at_
  have hX := hXA A c
  clear hXA hv hu ht hd hd0
  unfold maxLen at n2 r2 m2
  unfold N12 N10ok at gY
  unfold N12 N10no at gN
  unfold tabV at *
  by_cases h1 : 20 < t.ns.length
  · have d1 : decide ((20 : Int) < ((t.ns.length : Nat) : Int)) = true := decide_eq_true (by omega)
    clear hY hN gY gN hX
    go_enter Tryz.func4, Tryz.ntmps4
    go_wp2
    go_ret
    exact ⟨rfl, hb0 _⟩
  have d1 : decide ((20 : Int) < ((t.ns.length : Nat) : Int)) = false := decide_eq_false (by omega)
  by_cases h2 : 20 < dl.length
  · have d2 : decide ((20 : Int) < ((dl.length : Nat) : Int)) = true := decide_eq_true (by omega)
    clear hY hN gY gN hX
    go_enter Tryz.func4, Tryz.ntmps4
    go_wp2
    go_ret
    exact ⟨rfl, hb0 _⟩
  have d2 : decide ((20 : Int) < ((dl.length : Nat) : Int)) = false := decide_eq_false (by omega)
  by_cases h3 : 20 < l.length
  · have d3 : decide ((20 : Int) < ((l.length : Nat) : Int)) = true := decide_eq_true (by omega)
    clear hY hN gY gN hX
    go_enter Tryz.func4, Tryz.ntmps4
    go_wp2
    go_ret
    exact ⟨rfl, hb0 _⟩
  have d3 : decide ((20 : Int) < ((l.length : Nat) : Int)) = false := decide_eq_false (by omega)
  by_cases hm : mayW t dl l
  · have q1 := fun W hW => hY W hm hW
    have q2 := fun W hW => gY W hm hW
    clear hY hN gY gN hm
    go_enter Tryz.func4, Tryz.ntmps4
    go_wp2_with fail
    refine (q1 _ (hb0 _)).out.mono ?_
    rintro _ w2 ⟨ga, rfl, b2⟩
    have hX2 := hX.below b2 (by simp)
    have b2 := (hb0 _).trans (b2.mono (hb0 _).size)
    have x0 := hX2.cell 0 (x := .slice A t.ns.length c) rfl
    have x1 := hX2.cell 1 (x := .int .i64 t.dr) rfl
    have x2 := hX2.cell 2 (x := .int .i64 t.wi) rfl
    have x3 := hX2.cell 3 (x := .int .i64 t.lm) rfl
    clear hX
    go_wp2_with fail
    refine (q2 _ b2).out.mono ?_
    rintro _ w3 ⟨⟨_, ⟨g, rfl⟩, rfl⟩, b3⟩
    have b3 := b2.trans (b3.mono b2.size)
    clear x0 x1 x2 x3 hX2
    go_wp2_with fail
    refine (known_wd _).mono ?_
    rintro _ wk ⟨rfl, bk⟩
    replace bk := b3.trans (bk.mono b3.size)
    go_wp2
    go_ret
    exact ⟨rfl, bk⟩
  · have q1 := fun W hW => hN W hm hW
    have q2 := fun W hW => gN W hm hW
    clear hY hN gY gN hm
    go_enter Tryz.func4, Tryz.ntmps4
    go_wp2_with fail
    refine (q1 _ (hb0 _)).out.mono ?_
    rintro _ w2 ⟨rfl, b2⟩
    have hX2 := hX.below b2 (by simp)
    have b2 := (hb0 _).trans (b2.mono (hb0 _).size)
    have x0 := hX2.cell 0 (x := .slice A t.ns.length c) rfl
    have x1 := hX2.cell 1 (x := .int .i64 t.dr) rfl
    have x2 := hX2.cell 2 (x := .int .i64 t.wi) rfl
    have x3 := hX2.cell 3 (x := .int .i64 t.lm) rfl
    clear hX
    go_wp2_with fail
    refine (q2 _ b2).out.mono ?_
    rintro _ w3 ⟨⟨_, rfl, rfl⟩, b3⟩
    have b3 := b2.trans (b3.mono b2.size)
    clear x0 x1 x2 x3 hX2
    go_wp2_with fail
    refine (known_wd _).mono ?_
    rintro _ wk ⟨rfl, bk⟩
    replace bk := b3.trans (bk.mono b3.size)
    go_wp2
    go_ret
    exact ⟨rfl, bk⟩

/-! ### THE ROW's STEP around the walk. -/
theorem own_wardNew : ownKnob Tryz.prog.godebug = none := by kernel_rfl
theorem laidOut_wardNew : laidOutB Tryz.prog = true := by kernel_rfl
set_option maxRecDepth 100000 in
theorem lifted_wardNew (os : Os) (started : os.Started) (H : Type) (enc : TypeId × Value → H) :
    ReturnsInHanded {} Tryz.checked os 4 .any (Rows.wardNewSpec.pre6 enc Tryz.prog Tryz.f4 Rows.wardNewRow.domain false) (Rows.wardNewSpec.post enc Tryz.prog Tryz.f4 false true false false) := by
  refine returnsInHanded_of_change (C := Tryz.checked) own_wardNew started (by kernel_rfl) Tryz.func4
    (ChangeSpec.witness6 (enc := enc) (C := Tryz.checked) false ⟨#[], #[.agg #[.slice none 0 0, .int .i64 0, .int .i64 0, .int .i64 0], .slice none 0 0, .slice none 0 0], []⟩ 8 (by kernel_rfl) (by kernel_rfl) (by kernel_rfl) (by kernel_rfl)) ?_
  intro W base args ds gs before hval0 hW hcnd _
  have hval : ∀ (j : Nat) t v, Tryz.f4.params[j]? = some t → args[j]? = some v → Value.okWide Tryz.prog W .any base t v := hval0
  have hW' := hW
  obtain ⟨p, q, hA0, hV, rfl, hfz, hnd⟩ := hW
  have hA : DataW.TrodAll enc Tryz.prog W 0 (fun _ => true) true Tryz.f4.params.toList args.toList ds p := hA0
  rw [Tryz.params4] at hA hval
  obtain ⟨v0, vs0, d0, ds0, p0, q0, hargs, rfl, rfl, h0, r0⟩ := trodAll_cons hA
  obtain ⟨v1, vs1, d1, ds1, p1, q1, rfl, rfl, rfl, h1, r1⟩ := trodAll_cons r0
  obtain ⟨v2, vs2, d2, ds2, p2, q2, rfl, rfl, rfl, h2, r2⟩ := trodAll_cons r1
  obtain ⟨rfl, rfl, rfl⟩ := trodAll_nil r2
  obtain rfl : args = #[v0, v1, v2] := by cases args; simp_all
  obtain ⟨rfl, rfl⟩ := trodVars_none hV
  obtain ⟨y0, x0, rfl, s0⟩ := sees_table Tryz.underlying29 (by kernel_rfl) ⟨rfl, rfl⟩ ⟨rfl, rfl⟩ ⟨rfl, rfl⟩ ⟨rfl, rfl⟩ Tryz.underlying27 (by kernel_rfl) Tryz.underlying60 (by kernel_rfl) ⟨rfl, rfl⟩ ⟨rfl, rfl⟩ ⟨rfl, rfl⟩ ⟨rfl, rfl⟩ Tryz.underlying3 Tryz.underlying4 (by kernel_rfl) (by kernel_rfl) (hval 0 29 v0 rfl rfl) h0
  have k0 := h0
  have lt0 : ∀ x ∈ p0, x.block < W.heap.size := by obtain ⟨m, hm⟩ := k0; exact DataW.trod_lt m _ _ _ hm
  obtain ⟨A1, n1, c1, rfl⟩ := okWide_slice Tryz.underlying46 (hval 1 46 v1 rfl rfl)
  have k1 := h1
  have lt1 : ∀ x ∈ p1, x.block < W.heap.size := by obtain ⟨m, hm⟩ := k1; exact DataW.trod_lt m _ _ _ hm
  obtain ⟨l1, s1⟩ := sees_ints Tryz.underlying46 Tryz.underlying3 (by kernel_rfl) h1
  obtain ⟨A2, n2, c2, rfl⟩ := okWide_slice Tryz.underlying31 (hval 2 31 v2 rfl rfl)
  obtain ⟨l2, s2⟩ := sees_rules Tryz.underlying31 Tryz.underlying80 (by kernel_rfl) ⟨rfl, rfl⟩ ⟨rfl, rfl⟩ ⟨rfl, rfl⟩ ⟨rfl, rfl⟩ Tryz.underlying3 (by kernel_rfl) h2
  have k2 := h2
  have lt2 : ∀ x ∈ p2, x.block < W.heap.size := by obtain ⟨m, hm⟩ := k2; exact DataW.trod_lt m _ _ _ hm
  clear hA0 hval0
  refine (walk_wardNew y0 x0 l1 _ l2 _ W s0 s1 s2).mono fun e W' ⟨he, bel⟩ => ?_
  subst he
  exact ⟨_, rfl, _, _, _, [], _, [], hW', trodAll_mk1 (shut_bool Tryz.underlying4 _), (trodAll_cons_mk (Below.trod laidOut_wardNew (by kernel_rfl) (of_decide_eq_true (by kernel_rfl)) k0 bel lt0) (trodAll_cons_mk (Below.trod laidOut_wardNew (by kernel_rfl) (of_decide_eq_true (by kernel_rfl)) k1 bel lt1) (trodAll_cons_mk (Below.trod laidOut_wardNew (by kernel_rfl) (of_decide_eq_true (by kernel_rfl)) k2 bel lt2) trodAll_mk0))), rfl, bel.frame _, fun h => by cases h⟩

theorem over_wardNew : Rows.wardNewRow.holds Tryz.pinned (OpenSpec.ofChange Rows.wardNewSpec) :=
  OpenClaim.holds_of_wide 4 Tryz.f4 rfl rfl rfl rfl rfl rfl rfl ⟨rfl, rfl, rfl, rfl, rfl⟩ rfl rfl rfl rfl rfl (by kernel_rfl) Tryz.func4 (by kernel_rfl)
    (of_decide_eq_true (by kernel_rfl)) (by unfold Func.isWrapper; first | (rw [if_pos (by decide +kernel)]; kernel_rfl) | (rw [if_neg (by decide +kernel)]; exact ⟨rfl, rfl⟩))
    (fun os started H enc _ => lifted_wardNew os started H enc)

theorem proved_wardNew : Rows.WardNewSaid := over_wardNew
end Go.Proofs.YtpdenmcacaajkaaGreat
