/- Texts SrI in one. For what each says in front of its theorems. -/
import Derived.Deep.MidRow
import Derived.Test.YtpdenmcacaajkaaGreatXB34
/-! ### SrI -/
namespace Go.Proofs.YtpdenmcacaajkaaGreat
open Go.RowKit

/-- What one hears. -/
structure Hd where
  A : Int
  B : Int
  X : Value
  Y : Value
  o : Int
def hdz : Hd := ⟨0, 0, .slice none 0 0, .slice none 0 0, 0⟩
def hdC (f : Nat → Hd) : Array Value := #[.int .i64 (f 0).A, .int .i64 (f 0).B, (f 0).X, (f 0).Y, .int .i64 (f 0).o, .int .i64 (f 1).A, .int .i64 (f 1).B, (f 1).X, (f 1).Y, .int .i64 (f 1).o, .int .i64 (f 2).A, .int .i64 (f 2).B, (f 2).X, (f 2).Y, .int .i64 (f 2).o, .int .i64 (f 3).A, .int .i64 (f 3).B, (f 3).X, (f 3).Y, .int .i64 (f 3).o, .int .i64 (f 4).A, .int .i64 (f 4).B, (f 4).X, (f 4).Y, .int .i64 (f 4).o, .int .i64 (f 5).A, .int .i64 (f 5).B, (f 5).X, (f 5).Y, .int .i64 (f 5).o, .int .i64 (f 6).A, .int .i64 (f 6).B, (f 6).X, (f 6).Y, .int .i64 (f 6).o, .int .i64 (f 7).A, .int .i64 (f 7).B, (f 7).X, (f 7).Y, .int .i64 (f 7).o]
def upH (f : Nat → Hd) (k : Nat) (h : Hd) (i : Nat) : Hd := if i = k then h else f i
theorem hdC_get (f : Nat → Hd) (k : Nat) (hk : k < 8) : (hdC f)[k * 5]? = some (.int .i64 (f k).A) ∧ (hdC f)[k * 5 + 1]? = some (.int .i64 (f k).B) ∧ (hdC f)[k * 5 + 2]? = some (f k).X ∧ (hdC f)[k * 5 + 3]? = some (f k).Y ∧ (hdC f)[k * 5 + 4]? = some (.int .i64 (f k).o) := by
  rcases (by omega : k = 0 ∨ k = 1 ∨ k = 2 ∨ k = 3 ∨ k = 4 ∨ k = 5 ∨ k = 6 ∨ k = 7) with rfl | rfl | rfl | rfl | rfl | rfl | rfl | rfl <;> exact ⟨rfl, rfl, rfl, rfl, rfl⟩
theorem hdC_set4 (f : Nat → Hd) (k : Nat) (hk : k < 8) (A B : Int) (X Y : Value) : ((((hdC f).setIfInBounds (k * 5) (.int .i64 A)).setIfInBounds (k * 5 + 2) X).setIfInBounds (k * 5 + 1) (.int .i64 B)).setIfInBounds (k * 5 + 3) Y = hdC (upH f k { f k with A := A, B := B, X := X, Y := Y }) := by
  rcases (by omega : k = 0 ∨ k = 1 ∨ k = 2 ∨ k = 3 ∨ k = 4 ∨ k = 5 ∨ k = 6 ∨ k = 7) with rfl | rfl | rfl | rfl | rfl | rfl | rfl | rfl <;> simp [hdC, upH]
theorem hdC_setO (f : Nat → Hd) (k : Nat) (hk : k < 8) (o : Int) : (hdC f).setIfInBounds (k * 5 + 4) (.int .i64 o) = hdC (upH f k { f k with o := o }) := by
  rcases (by omega : k = 0 ∨ k = 1 ∨ k = 2 ∨ k = 3 ∨ k = 4 ∨ k = 5 ∨ k = 6 ∨ k = 7) with rfl | rfl | rfl | rfl | rfl | rfl | rfl | rfl <;> simp [hdC, upH]
/-- What of a row one hears: nothing, if he is none, or deaf. -/
structure Hears (W : World) (Bs : Nat) (m : List Sd) (n : Nat) (qa qb : Nat → Int) (p : Int) (a : Nat → Int) (i : Nat) (h : Hd) : Prop where
  A : h.A = if i < m.length ∧ (m[i]?.map Sd.df) ≠ some true then tk n qa else 0
  B : h.B = if i < m.length ∧ (m[i]?.map Sd.df) ≠ some true then tk n qb else 0
  X : OwnsL W Bs h.X (if i < m.length ∧ (m[i]?.map Sd.df) ≠ some true then tl n qa else [])
  Y : OwnsL W Bs h.Y (if i < m.length ∧ (m[i]?.map Sd.df) ≠ some true then tl n qb else [])
  o : h.o = if i < m.length ∧ 0 ≤ p then whenV m p - a i else 0
theorem Hears.below {W W' : World} {Bs B' : Nat} {m : List Sd} {n : Nat} {qa qb : Nat → Int} {p : Int} {a : Nat → Int} {i : Nat} {h : Hd} (H : Hears W Bs m n qa qb p a i h) (hb : Below B' W W') (hB : W.heap.size ≤ B') : Hears W' Bs m n qa qb p a i h := ⟨H.A, H.B, H.X.below hb hB, H.Y.below hb hB, H.o⟩
theorem Hears.base {W : World} {Bs B' : Nat} {m : List Sd} {n : Nat} {qa qb : Nat → Int} {p : Int} {a : Nat → Int} {i : Nat} {h : Hd} (H : Hears W Bs m n qa qb p a i h) (hB : B' ≤ Bs) : Hears W B' m n qa qb p a i h := ⟨H.A, H.B, H.X.base hB, H.Y.base hB, H.o⟩
theorem Hears.only {W W' : World} {Bs g : Nat} {m : List Sd} {n : Nat} {qa qb : Nat → Int} {p : Int} {a : Nat → Int} {i : Nat} {h : Hd} (H : Hears W Bs m n qa qb p a i h) (hb : Only g W W') (hB : g < Bs) : Hears W' Bs m n qa qb p a i h := ⟨H.A, H.B, H.X.only hb hB, H.Y.only hb hB, H.o⟩
theorem Only.setCells {g : Nat} {w : World} : ∀ (vs : List Value) (o : Nat) {w1 : World}, Only g w w1 → Only g w (w1.setCells g o vs)
  | [], _, _, h => h
  | v :: r, o, _, h => by
    rw [World.setCells]
    exact Only.setCells r (o + 1) (h.set o v)
theorem infoHeard8 : (Tryz.prog.info? 189).map (fun i => i.size) = some 40 := by kernel_rfl
theorem hdC_one (f : Nat → Hd) (h : ∀ i, i < 8 → ∃ A n c, (f i).X = .slice A n c) (h' : ∀ i, i < 8 → ∃ A n c, (f i).Y = .slice A n c) : (hdC f).all (·.oneCell') = true := by
  have e : ∀ i, i < 8 → (f i).X.oneCell' = true ∧ (f i).Y.oneCell' = true := fun i hi => by
    obtain ⟨A, n, c, e⟩ := h i hi
    obtain ⟨A', n', c', e'⟩ := h' i hi
    rw [e, e']; exact ⟨rfl, rfl⟩
  have i0 : ∀ a : Int, (Value.int .i64 a).oneCell' = true := fun a => rfl
  simp only [hdC, List.all_toArray, List.all_cons, List.all_nil, i0, e 0 (by omega), e 1 (by omega), e 2 (by omega), e 3 (by omega), e 4 (by omega), e 5 (by omega), e 6 (by omega), e 7 (by omega), Bool.and_self]
set_option maxRecDepth 100000 in
set_option maxHeartbeats 8000000 in
theorem heard_sr (x b : Nat) (l : List (Value × Sd)) (c d : Ch) (p : Int) (P : List Nat) (v : Value) (n : Nat) (qa qb : Nat → Int) (a : Nat → Int) (w : World) (h : XAt w P x b l c d) (hl : l.length ≤ 8) (hr : Row w P v n qa qb) (hc : c.fr = p) (hd : d.fr = p)
    (hpl : p = -1 ∨ ∃ j : Nat, p = j ∧ j < l.length) (ha : ∀ i, wide (a i)) (hw : wide (whenV (l.map Prod.snd) p)) :
    Calls Tryz.prog 161 #[.pointer (some ⟨x, 0, none⟩), v, ints8 a] w fun e w' => ∃ f, e = .returned (.agg (hdC f)) ∧ (∀ i, i < 8 → Hears w' w.heap.size (l.map Prod.snd) n qa qb p a i (f i)) ∧ Below w.heap.size w w' := by
  obtain ⟨bc, kc, vc, pc⟩ := c
  obtain ⟨bd, kd, vd, pd⟩ := d
  simp only at hc hd
  subst hc hd
  have X0 := (Blk.new w w.heap.size rfl (i8 a) 66).alloc (.cells (hdC fun _ => hdz) 189)
  have X1 := Blk.new (w.alloc (.cells (i8 a) 66)) (w.heap.size + 1) (by simp) (hdC fun _ => hdz) 189
  have hb := ((Below.refl w.heap.size w).alloc (Nat.le_refl _) (.cells (i8 a) 66)).alloc (by simp) (.cells (hdC fun _ => hdz) 189)
  have H := h.below hb
  have y0 := H.blk.cell 0 (x := .slice (some ⟨b, 0, none⟩) l.length l.length) rfl
  have y4 := H.blk.cell 4 (x := .int .i64 pd) rfl
  have y8 := H.blk.cell 8 (x := .int .i64 pd) rfl
  have hxl := h.blk.lt
  have hbl := h.sd.lt
  have HX : Hid (∀ W, Below w.heap.size w W → XAt W P x b l ⟨bc, kc, vc, pd⟩ ⟨bd, kd, vd, pd⟩ ∧ Row W P v n qa qb) := Lib.hid fun W hW => ⟨h.below hW, hr.kp (Kw.ofBelow P hW)⟩
  have hRd := fun W (hW : Below w.heap.size w W) => Lib.hid (read_sr v n qa qb P W (HX.out W hW).2)
  have hWn := fun W (hW : Below w.heap.size w W) => Lib.hid (when_sr x b l _ _ P pd W (HX.out W hW).1 hpl)
  have hz : ((w.alloc (.cells (i8 a) 66)).alloc (.cells (hdC fun _ => hdz) 189)).heap.size = w.heap.size + 1 + 1 := by simp
  obtain ⟨Av, cv, rfl, -⟩ := hr.sees
  clear H h hr
  unfold i8 hdC hdz at X0 X1 hb y0 y4 y8 hz
  unfold ints8
  simp only at *
  have HT := Lib.hid (show ∀ k, IntKind.i64.wrap (whenV (l.map Prod.snd) pd - a k) = whenV (l.map Prod.snd) pd - a k from fun k => IntWalk.i64_in _ (by have := ha k; unfold wide at this hw; omega))
  have HC := fun f k hk => Lib.hid (hdC_get f k hk)
  have HS4 := fun f k hk A B X Y => Lib.hid (hdC_set4 f k hk A B X Y)
  have HSO := fun f k hk o => Lib.hid (hdC_setO f k hk o)
  clear ha hw
  rcases hpl with rfl | ⟨j, rfl, hj⟩
  · go_enter Tryz.func161, Tryz.ntmps161
    go_wp2_with fail
    generalize ((w.alloc (.cells #[.int .i64 (a 0), .int .i64 (a 1), .int .i64 (a 2), .int .i64 (a 3), .int .i64 (a 4), .int .i64 (a 5), .int .i64 (a 6), .int .i64 (a 7)] 66)).alloc (.cells #[.int .i64 0, .int .i64 0, .slice none 0 0, .slice none 0 0, .int .i64 0, .int .i64 0, .int .i64 0, .slice none 0 0, .slice none 0 0, .int .i64 0, .int .i64 0, .int .i64 0, .slice none 0 0, .slice none 0 0, .int .i64 0, .int .i64 0, .int .i64 0, .slice none 0 0, .slice none 0 0, .int .i64 0, .int .i64 0, .int .i64 0, .slice none 0 0, .slice none 0 0, .int .i64 0, .int .i64 0, .int .i64 0, .slice none 0 0, .slice none 0 0, .int .i64 0, .int .i64 0, .int .i64 0, .slice none 0 0, .slice none 0 0, .int .i64 0, .int .i64 0, .int .i64 0, .slice none 0 0, .slice none 0 0, .int .i64 0] 189)) = w2 at *
    go_loopw [30] (fun i wr => ∃ k : Nat, ∃ f : Nat → Hd, k ≤ l.length ∧ i = .int .i64 k ∧ Blk wr (w.heap.size + 1) (hdC f) 189 ∧ Hid (∀ i, i < k → Hears wr (w.heap.size + 1 + 1) (l.map Prod.snd) n qa qb (-1) a i (f i)) ∧ Hid (∀ i, k ≤ i → f i = hdz) ∧ Blk wr w.heap.size (i8 a) 66 ∧ Below w.heap.size w wr ∧ w.heap.size + 1 + 1 ≤ wr.heap.size) (fun i _ => l.length - (intOf i).toNat)
    case atStart => exact ⟨0, fun _ => hdz, by omega, rfl, by simpa [hdC, hdz] using X1, Lib.hid (fun i hi => by omega), Lib.hid (fun i hi => rfl), by simpa [i8] using X0, hb, by omega⟩
    case round =>
      obtain ⟨k, f, hk, rfl, hR, hH, hZ, hA, hB, hS⟩ := hrel
      clear X0 X1
      by_cases hlt : k < l.length
      · have r1 : decide ((k : Int) < (l.length : Nat)) = true := by simp; omega
        have i8' : (k : Int) < 8 := by omega
        obtain ⟨⟨v0, s0⟩, hk0⟩ : ∃ y, l[k]? = some y := ⟨_, List.getElem?_eq_getElem hlt⟩
        have hXr := (HX.out wr hB).1
        obtain ⟨e0, e1, e2⟩ := hXr.sd.cells hk0
        obtain ⟨A0, c0, rfl, -⟩ := (show Row wr P v0 s0.n s0.q s0.q from hXr.sd.row _ (List.mem_of_getElem? hk0)).sees
        have hm : ((l.map Prod.snd)[k]?.map Sd.df) = some s0.df := by simp [hk0]
        have hml : k < (l.map Prod.snd).length := by simpa using hlt
        have hbx : Below wr.heap.size wr (wr.alloc (.cells #[.slice A0 s0.n c0, .int .i64 s0.at_, .bool s0.df] 229)) := (Below.refl _ _).alloc (Nat.le_refl _) _
        have hzx : (wr.alloc (.cells #[.slice A0 s0.n c0, .int .i64 s0.at_, .bool s0.df] 229)).heap.size = wr.heap.size + 1 := by simp
        have hN := Blk.new wr wr.heap.size rfl #[.slice A0 s0.n c0, .int .i64 s0.at_, .bool s0.df] 229
        have n2 := hN.cell 2 (x := .bool s0.df) rfl
        have hRx := hR.alloc (.cells #[.slice A0 s0.n c0, .int .i64 s0.at_, .bool s0.df] 229)
        have hAx := hA.alloc (.cells #[.slice A0 s0.n c0, .int .i64 s0.at_, .bool s0.df] 229)
        have hHx : Hid (∀ i, i < k → Hears (wr.alloc (.cells #[.slice A0 s0.n c0, .int .i64 s0.at_, .bool s0.df] 229)) (w.heap.size + 1 + 1) (l.map Prod.snd) n qa qb (-1) a i (f i)) := Lib.hid fun i hi => (hH.out i hi).below hbx (Nat.le_refl _)
        have hBx := hB.trans (hbx.mono hB.size)
        have hZk := Lib.hid (hZ.out k (Nat.le_refl _))
        have hZ' : Hid (∀ i, k + 1 ≤ i → f i = hdz) := Lib.hid fun i hi => hZ.out i (by omega)
        clear hXr hR hA hH hN hB hbx hZ
        cases hdf : s0.df
        · rw [hdf] at n2 hm
          simp only [hdf] at *
          have hRdx := hRd _ hBx
          go_wp2_with fail
          generalize wr.alloc (.cells #[.slice A0 s0.n c0, .int .i64 s0.at_, .bool false] 229) = wx at *
          refine hRdx.out.mono ?_
          rintro e w3 ⟨X, Y, rfl, oX, oY, hb3⟩
          have hR3 := hRx.below hb3 hRx.lt
          have hA3 := hAx.below hb3 hAx.lt
          have hB3 := hBx.trans (hb3.mono (by omega))
          have oX := oX.base (B := w.heap.size + 1 + 1) (by omega)
          have oY := oY.base (B := w.heap.size + 1 + 1) (by omega)
          have hH3 : Hid (∀ i, i < k → Hears w3 (w.heap.size + 1 + 1) (l.map Prod.snd) n qa qb (-1) a i (f i)) := Lib.hid fun i hi => (hHx.out i hi).below hb3 (Nat.le_refl _)
          have hS3 : w.heap.size + 1 + 1 ≤ w3.heap.size := by have := hb3.size; omega
          obtain ⟨AX, cX, rfl, -⟩ := oX.sees.at_
          obtain ⟨AY, cY, rfl, -⟩ := oY.sees.at_
          obtain ⟨g0, g1, g2, g3, g4⟩ := (HC f k (by omega)).out
          have z0 := hR3.cell (k * 5) g0
          have z1 := hR3.cell (k * 5 + 1) g1
          have z2 := hR3.cell (k * 5 + 2) g2
          have z3 := hR3.cell (k * 5 + 3) g3
          have f0 := hR3.frozen (k * 5)
          have f1 := hR3.frozen (k * 5 + 1)
          have f2 := hR3.frozen (k * 5 + 2)
          have f3 := hR3.frozen (k * 5 + 3)
          have R4 := Lib.hid (((((hR3.set (k * 5) (.int .i64 (tk n qa))).set (k * 5 + 2) (.slice AX (tl n qa).length cX)).set (k * 5 + 1) (.int .i64 (tk n qb))).set (k * 5 + 3) (.slice AY (tl n qb).length cY)).eq (HS4 f k (by omega) (tk n qa) (tk n qb) (.slice AX (tl n qa).length cX) (.slice AY (tl n qb).length cY)).out)
          have O4 := Lib.hid (((((Only.refl (w.heap.size + 1) w3).set (k * 5) (.int .i64 (tk n qa))).set (k * 5 + 2) (.slice AX (tl n qa).length cX)).set (k * 5 + 1) (.int .i64 (tk n qb))).set (k * 5 + 3) (.slice AY (tl n qb).length cY))
          have oX := Lib.hid oX
          have oY := Lib.hid oY
          clear g0 g1 g2 g3 g4 hRdx hRx hAx hHx hBx hb3 hRd
          go_wp2_with fail
          generalize (((w3.setCell ⟨w.heap.size + 1, k * 5, none⟩ (.int .i64 (tk n qa))).setCell ⟨w.heap.size + 1, k * 5 + 2, none⟩ (.slice AX (tl n qa).length cX)).setCell ⟨w.heap.size + 1, k * 5 + 1, none⟩ (.int .i64 (tk n qb))).setCell ⟨w.heap.size + 1, k * 5 + 3, none⟩ (.slice AY (tl n qb).length cY) = w4 at *
          have oX4 := Lib.hid (oX.out.only O4.out (by omega))
          have oY4 := Lib.hid (oY.out.only O4.out (by omega))
          have hA4 := hA3.only O4.out (by omega)
          have hB4 := hB3.trans (O4.out.below (by omega) (by omega))
          have hH4 : Hid (∀ i, i < k → Hears w4 (w.heap.size + 1 + 1) (l.map Prod.snd) n qa qb (-1) a i (f i)) := Lib.hid fun i hi => (hH3.out i hi).only O4.out (by omega)
          have hS4 : w.heap.size + 1 + 1 ≤ w4.heap.size := by have := O4.out.size; omega
          clear z0 z1 z2 z3 f0 f1 f2 f3 hR3 hA3 hB3 hH3 hS3 oX oY O4
          have HF : Hid (∀ i, i < k + 1 → Hears w4 (w.heap.size + 1 + 1) (l.map Prod.snd) n qa qb (-1) a i ((upH f k { f k with A := tk n qa, B := tk n qb, X := .slice AX (tl n qa).length cX, Y := .slice AY (tl n qb).length cY }) i)) := Lib.hid fun i hi => by
            by_cases e : i = k
            · rw [e]
              have h1 : k < (l.map Prod.snd).length ∧ ((l.map Prod.snd)[k]?.map Sd.df) ≠ some true := ⟨hml, by rw [hm]; simp⟩
              simp only [upH, if_true]
              exact ⟨by rw [if_pos h1], by rw [if_pos h1], by rw [if_pos h1]; exact oX4.out, by rw [if_pos h1]; exact oY4.out, by simp only; rw [hZk.out]; simp [hdz]⟩
            · simp only [upH, if_neg e]
              exact hH4.out i (by omega)
          have HZ2 : Hid (∀ i, k + 1 ≤ i → (upH f k { f k with A := tk n qa, B := tk n qb, X := .slice AX (tl n qa).length cX, Y := .slice AY (tl n qb).length cY }) i = hdz) := Lib.hid fun i hi => by unfold upH; rw [if_neg (by omega)]; exact hZ'.out i hi
          have HB4 := Lib.hid hB4
          (try go_wp2_with fail)
          go_roundw
          case rel => exact ⟨k + 1, _, by omega, by go_num, R4.out, HF, HZ2, hA4, HB4.out, hS4⟩
          case measure => simp [intOf]; omega
        · rw [hdf] at n2 hm
          simp only [hdf] at *
          go_wp2_with fail
          generalize wr.alloc (.cells #[.slice A0 s0.n c0, .int .i64 s0.at_, .bool true] 229) = w4 at *
          have hA4 := hAx
          have hB4 := hBx
          have hS4 : w.heap.size + 1 + 1 ≤ w4.heap.size := by omega
          have R4 := Lib.hid hRx
          clear hRx hAx hBx
          have HF : Hid (∀ i, i < k + 1 → Hears w4 (w.heap.size + 1 + 1) (l.map Prod.snd) n qa qb (-1) a i (f i)) := Lib.hid fun i hi => by
            by_cases e : i = k
            · rw [e]
              have h1 : ¬ (k < (l.map Prod.snd).length ∧ ((l.map Prod.snd)[k]?.map Sd.df) ≠ some true) := fun h => h.2 hm
              rw [hZk.out]
              exact ⟨by rw [if_neg h1]; rfl, by rw [if_neg h1]; rfl, by rw [if_neg h1]; exact OwnsL.nil, by rw [if_neg h1]; exact OwnsL.nil, by simp [hdz]⟩
            · exact hHx.out i (by omega)
          have HZ2 : Hid (∀ i, k + 1 ≤ i → f i = hdz) := hZ'
          have HB4 := Lib.hid hB4
          (try go_wp2_with fail)
          go_roundw
          case rel => exact ⟨k + 1, _, by omega, by go_num, R4.out, HF, HZ2, hA4, HB4.out, hS4⟩
          case measure => simp [intOf]; omega
      · obtain rfl : k = l.length := by omega
        have r1 : decide ((l.length : Int) < (l.length : Nat)) = false := by simp
        have hF : Hid (∀ i, i < 8 → Hears wr (w.heap.size + 1 + 1) (l.map Prod.snd) n qa qb (-1) a i (f i)) := Lib.hid fun i hi => by
          by_cases h : i < l.length
          · exact hH.out i h
          · have h' : ¬ i < (l.map Prod.snd).length := by simpa using h
            rw [hZ.out i (by omega)]
            exact ⟨by simp [hdz, h], by simp [hdz, h], by simp [hdz, h]; exact OwnsL.nil, by simp [hdz, h]; exact OwnsL.nil, by simp [hdz, h]⟩
        have HRb := Lib.hid hR
        have hcs : wr.rangeAt (w.heap.size + 1) 0 (hdC f).toList := fun q v hv => by rw [Nat.zero_add]; exact HRb.out.cell q (by simpa using hv)
        have hth : wr.there (w.heap.size + 1) 0 (hdC f).size := fun q hq => ⟨by rw [Nat.zero_add, HRb.out.cell q (Array.getElem?_eq_getElem hq)]; rfl, HRb.out.frozen _⟩
        have hin := infoHeard8
        have hun := Tryz.underlying189
        have hone := Lib.hid (hdC_one f (fun i hi => by obtain ⟨A, c, h, -⟩ := (hF.out i hi).X.sees.at_; exact ⟨A, _, c, h⟩) (fun i hi => by obtain ⟨A, c, h, -⟩ := (hF.out i hi).Y.sees.at_; exact ⟨A, _, c, h⟩))
        have HB := Lib.hid hB
        have HSz := Lib.hid hS
        clear hR hA hH hZ HX hWn hRd hB HC HS4 HSO hlt hk HT
        go_wp2_with (first
          | (refine wpList_load_mid rfl _ _ rfl _ _ rfl _ _ hcs hun rfl hin ?_)
          | (refine wpList_store_mid rfl _ _ _ rfl _ _ (hdC f) rfl rfl hth hin hone.out ?_))
        refine bodyPost_ret (v := .agg (hdC f)) ?_ rfl ⟨f, rfl, ?_, ?_⟩
        · rw [results_cell rfl]
          have hld := run_loadVar_mid (P := Tryz.prog) (wr.setCells (w.heap.size + 1) 0 (hdC f).toList) (w.heap.size + 1) 0 189 (hdC f).toList _ (World.rangeAt_setCells_same _ _ _ _ (by simpa using hth)) hun rfl hin
          simp only [Array.toArray_toList] at hld
          show ((asAddr (.pointer (some ⟨w.heap.size + 1, 0, none⟩))).run Tryz.prog _).andThen _ = _
          simp only [asAddr, Sem.run_pure, Result.andThen_ok]
          exact hld
        · intro i hi
          exact Hears.base (Hears.only (g := w.heap.size + 1) (hF.out i hi) (Only.setCells _ _ (Only.refl _ _)) (by omega)) (by omega)
        · exact HB.out.trans (Only.below (g := w.heap.size + 1) (Only.setCells _ _ (Only.refl _ _)) (by omega) (by have := HSz.out; omega))
  · go_enter Tryz.func161, Tryz.ntmps161
    have q0 : ((j : Int) == -1) = false := by rw [beq_eq_false_iff_ne]; omega
    have q1 : ((j : Int) != -1) = true := by rw [bne_iff_ne]; omega
    go_wp2_with fail
    generalize ((w.alloc (.cells #[.int .i64 (a 0), .int .i64 (a 1), .int .i64 (a 2), .int .i64 (a 3), .int .i64 (a 4), .int .i64 (a 5), .int .i64 (a 6), .int .i64 (a 7)] 66)).alloc (.cells #[.int .i64 0, .int .i64 0, .slice none 0 0, .slice none 0 0, .int .i64 0, .int .i64 0, .int .i64 0, .slice none 0 0, .slice none 0 0, .int .i64 0, .int .i64 0, .int .i64 0, .slice none 0 0, .slice none 0 0, .int .i64 0, .int .i64 0, .int .i64 0, .slice none 0 0, .slice none 0 0, .int .i64 0, .int .i64 0, .int .i64 0, .slice none 0 0, .slice none 0 0, .int .i64 0, .int .i64 0, .int .i64 0, .slice none 0 0, .slice none 0 0, .int .i64 0, .int .i64 0, .int .i64 0, .slice none 0 0, .slice none 0 0, .int .i64 0, .int .i64 0, .int .i64 0, .slice none 0 0, .slice none 0 0, .int .i64 0] 189)) = w2 at *
    go_loopw [30] (fun i wr => ∃ k : Nat, ∃ f : Nat → Hd, k ≤ l.length ∧ i = .int .i64 k ∧ Blk wr (w.heap.size + 1) (hdC f) 189 ∧ Hid (∀ i, i < k → Hears wr (w.heap.size + 1 + 1) (l.map Prod.snd) n qa qb j a i (f i)) ∧ Hid (∀ i, k ≤ i → f i = hdz) ∧ Blk wr w.heap.size (i8 a) 66 ∧ Below w.heap.size w wr ∧ w.heap.size + 1 + 1 ≤ wr.heap.size) (fun i _ => l.length - (intOf i).toNat)
    case atStart => exact ⟨0, fun _ => hdz, by omega, rfl, by simpa [hdC, hdz] using X1, Lib.hid (fun i hi => by omega), Lib.hid (fun i hi => rfl), by simpa [i8] using X0, hb, by omega⟩
    case round =>
      obtain ⟨k, f, hk, rfl, hR, hH, hZ, hA, hB, hS⟩ := hrel
      clear X0 X1
      by_cases hlt : k < l.length
      · have r1 : decide ((k : Int) < (l.length : Nat)) = true := by simp; omega
        have i8' : (k : Int) < 8 := by omega
        obtain ⟨⟨v0, s0⟩, hk0⟩ : ∃ y, l[k]? = some y := ⟨_, List.getElem?_eq_getElem hlt⟩
        have hXr := (HX.out wr hB).1
        obtain ⟨e0, e1, e2⟩ := hXr.sd.cells hk0
        obtain ⟨A0, c0, rfl, -⟩ := (show Row wr P v0 s0.n s0.q s0.q from hXr.sd.row _ (List.mem_of_getElem? hk0)).sees
        have hm : ((l.map Prod.snd)[k]?.map Sd.df) = some s0.df := by simp [hk0]
        have hml : k < (l.map Prod.snd).length := by simpa using hlt
        have hbx : Below wr.heap.size wr (wr.alloc (.cells #[.slice A0 s0.n c0, .int .i64 s0.at_, .bool s0.df] 229)) := (Below.refl _ _).alloc (Nat.le_refl _) _
        have hzx : (wr.alloc (.cells #[.slice A0 s0.n c0, .int .i64 s0.at_, .bool s0.df] 229)).heap.size = wr.heap.size + 1 := by simp
        have hN := Blk.new wr wr.heap.size rfl #[.slice A0 s0.n c0, .int .i64 s0.at_, .bool s0.df] 229
        have n2 := hN.cell 2 (x := .bool s0.df) rfl
        have hRx := hR.alloc (.cells #[.slice A0 s0.n c0, .int .i64 s0.at_, .bool s0.df] 229)
        have hAx := hA.alloc (.cells #[.slice A0 s0.n c0, .int .i64 s0.at_, .bool s0.df] 229)
        have hHx : Hid (∀ i, i < k → Hears (wr.alloc (.cells #[.slice A0 s0.n c0, .int .i64 s0.at_, .bool s0.df] 229)) (w.heap.size + 1 + 1) (l.map Prod.snd) n qa qb j a i (f i)) := Lib.hid fun i hi => (hH.out i hi).below hbx (Nat.le_refl _)
        have hBx := hB.trans (hbx.mono hB.size)
        have hZk := Lib.hid (hZ.out k (Nat.le_refl _))
        have hZ' : Hid (∀ i, k + 1 ≤ i → f i = hdz) := Lib.hid fun i hi => hZ.out i (by omega)
        clear hXr hR hA hH hN hB hbx hZ
        cases hdf : s0.df
        · rw [hdf] at n2 hm
          simp only [hdf] at *
          have hRdx := hRd _ hBx
          go_wp2_with fail
          generalize wr.alloc (.cells #[.slice A0 s0.n c0, .int .i64 s0.at_, .bool false] 229) = wx at *
          refine hRdx.out.mono ?_
          rintro e w3 ⟨X, Y, rfl, oX, oY, hb3⟩
          have hR3 := hRx.below hb3 hRx.lt
          have hA3 := hAx.below hb3 hAx.lt
          have hB3 := hBx.trans (hb3.mono (by omega))
          have oX := oX.base (B := w.heap.size + 1 + 1) (by omega)
          have oY := oY.base (B := w.heap.size + 1 + 1) (by omega)
          have hH3 : Hid (∀ i, i < k → Hears w3 (w.heap.size + 1 + 1) (l.map Prod.snd) n qa qb j a i (f i)) := Lib.hid fun i hi => (hHx.out i hi).below hb3 (Nat.le_refl _)
          have hS3 : w.heap.size + 1 + 1 ≤ w3.heap.size := by have := hb3.size; omega
          obtain ⟨AX, cX, rfl, -⟩ := oX.sees.at_
          obtain ⟨AY, cY, rfl, -⟩ := oY.sees.at_
          obtain ⟨g0, g1, g2, g3, g4⟩ := (HC f k (by omega)).out
          have z0 := hR3.cell (k * 5) g0
          have z1 := hR3.cell (k * 5 + 1) g1
          have z2 := hR3.cell (k * 5 + 2) g2
          have z3 := hR3.cell (k * 5 + 3) g3
          have f0 := hR3.frozen (k * 5)
          have f1 := hR3.frozen (k * 5 + 1)
          have f2 := hR3.frozen (k * 5 + 2)
          have f3 := hR3.frozen (k * 5 + 3)
          have R4 := Lib.hid (((((hR3.set (k * 5) (.int .i64 (tk n qa))).set (k * 5 + 2) (.slice AX (tl n qa).length cX)).set (k * 5 + 1) (.int .i64 (tk n qb))).set (k * 5 + 3) (.slice AY (tl n qb).length cY)).eq (HS4 f k (by omega) (tk n qa) (tk n qb) (.slice AX (tl n qa).length cX) (.slice AY (tl n qb).length cY)).out)
          have O4 := Lib.hid (((((Only.refl (w.heap.size + 1) w3).set (k * 5) (.int .i64 (tk n qa))).set (k * 5 + 2) (.slice AX (tl n qa).length cX)).set (k * 5 + 1) (.int .i64 (tk n qb))).set (k * 5 + 3) (.slice AY (tl n qb).length cY))
          have oX := Lib.hid oX
          have oY := Lib.hid oY
          clear g0 g1 g2 g3 g4 hRdx hRx hAx hHx hBx hb3 hRd
          go_wp2_with fail
          generalize (((w3.setCell ⟨w.heap.size + 1, k * 5, none⟩ (.int .i64 (tk n qa))).setCell ⟨w.heap.size + 1, k * 5 + 2, none⟩ (.slice AX (tl n qa).length cX)).setCell ⟨w.heap.size + 1, k * 5 + 1, none⟩ (.int .i64 (tk n qb))).setCell ⟨w.heap.size + 1, k * 5 + 3, none⟩ (.slice AY (tl n qb).length cY) = w4 at *
          have oX4 := Lib.hid (oX.out.only O4.out (by omega))
          have oY4 := Lib.hid (oY.out.only O4.out (by omega))
          have hA4 := hA3.only O4.out (by omega)
          have hB4 := hB3.trans (O4.out.below (by omega) (by omega))
          have hH4 : Hid (∀ i, i < k → Hears w4 (w.heap.size + 1 + 1) (l.map Prod.snd) n qa qb j a i (f i)) := Lib.hid fun i hi => (hH3.out i hi).only O4.out (by omega)
          have hS4 : w.heap.size + 1 + 1 ≤ w4.heap.size := by have := O4.out.size; omega
          clear z0 z1 z2 z3 f0 f1 f2 f3 hR3 hA3 hB3 hH3 hS3 oX oY O4
          obtain ⟨-, -, -, -, g4⟩ := (HC (upH f k { f k with A := tk n qa, B := tk n qb, X := .slice AX (tl n qa).length cX, Y := .slice AY (tl n qb).length cY }) k (by omega)).out
          have z4 := R4.out.cell (k * 5 + 4) g4
          have f4 := R4.out.frozen (k * 5 + 4)
          have zA := hA4.cell k (i8_get a k (by omega))
          have tt := HT.out k
          have hWx := hWn w4.drew hB4.drew
          have R5 := Lib.hid (((R4.out.drew).set (k * 5 + 4) (.int .i64 (whenV (l.map Prod.snd) j - a k))).eq (HSO (upH f k { f k with A := tk n qa, B := tk n qb, X := .slice AX (tl n qa).length cX, Y := .slice AY (tl n qb).length cY }) k (by omega) (whenV (l.map Prod.snd) j - a k)).out)
          have O5 := Lib.hid ((Only.refl (w.heap.size + 1) w4).drew.set (k * 5 + 4) (.int .i64 (whenV (l.map Prod.snd) j - a k)))
          have H5 : Hid (∀ i, i < k → Hears (w4.drew.setCell ⟨w.heap.size + 1, k * 5 + 4, none⟩ (.int .i64 (whenV (l.map Prod.snd) j - a k))) (w.heap.size + 1 + 1) (l.map Prod.snd) n qa qb j a i (f i)) := Lib.hid fun i hi => (hH4.out i hi).only O5.out (by omega)
          have oX5 := Lib.hid (oX4.out.only O5.out (by omega))
          have oY5 := Lib.hid (oY4.out.only O5.out (by omega))
          have hA5 := Lib.hid (hA4.only O5.out (by omega))
          have hB5 := Lib.hid (hB4.trans (O5.out.below (by omega) (by omega)))
          have hS5 := Lib.hid (Nat.le_trans hS4 O5.out.size)
          have HF : Hid (∀ i, i < k + 1 → Hears (w4.drew.setCell ⟨w.heap.size + 1, k * 5 + 4, none⟩ (.int .i64 (whenV (l.map Prod.snd) j - a k))) (w.heap.size + 1 + 1) (l.map Prod.snd) n qa qb j a i ((upH (upH f k { f k with A := tk n qa, B := tk n qb, X := .slice AX (tl n qa).length cX, Y := .slice AY (tl n qb).length cY }) k { (upH f k { f k with A := tk n qa, B := tk n qb, X := .slice AX (tl n qa).length cX, Y := .slice AY (tl n qb).length cY }) k with o := whenV (l.map Prod.snd) j - a k }) i)) := Lib.hid fun i hi => by
            by_cases e : i = k
            · rw [e]
              have h1 : k < (l.map Prod.snd).length ∧ ((l.map Prod.snd)[k]?.map Sd.df) ≠ some true := ⟨hml, by rw [hm]; simp⟩
              simp only [upH, if_true]
              exact ⟨by rw [if_pos h1], by rw [if_pos h1], by rw [if_pos h1]; exact oX5.out, by rw [if_pos h1]; exact oY5.out, by rw [if_pos ⟨hml, by omega⟩]⟩
            · simp only [upH, if_neg e]
              exact H5.out i (by omega)
          have HZ2 : Hid (∀ i, k + 1 ≤ i → (upH (upH f k { f k with A := tk n qa, B := tk n qb, X := .slice AX (tl n qa).length cX, Y := .slice AY (tl n qb).length cY }) k { (upH f k { f k with A := tk n qa, B := tk n qb, X := .slice AX (tl n qa).length cX, Y := .slice AY (tl n qb).length cY }) k with o := whenV (l.map Prod.snd) j - a k }) i = hdz) := Lib.hid fun i hi => by unfold upH; (repeat rw [if_neg (by omega)]); exact hZ'.out i hi
          clear R4 hA4 hB4 g4 hS4 O5
          (try go_wp2_with fail)
          go_region_with (first
            | (go_at_call 183; refine hWx.out.mono ?_; rintro e w5 ⟨rfl, rfl⟩)
            | fail)
          all_goals
            go_wp2_with fail
            go_roundw
            case rel => exact ⟨k + 1, _, by omega, by go_num, R5.out, HF, HZ2, hA5.out, hB5.out, hS5.out⟩
            case measure => simp [intOf]; omega
        · rw [hdf] at n2 hm
          simp only [hdf] at *
          go_wp2_with fail
          generalize wr.alloc (.cells #[.slice A0 s0.n c0, .int .i64 s0.at_, .bool true] 229) = w4 at *
          have hA4 := hAx
          have hB4 := hBx
          have hS4 : w.heap.size + 1 + 1 ≤ w4.heap.size := by omega
          have R4 := Lib.hid hRx
          clear hRx hAx hBx
          obtain ⟨-, -, -, -, g4⟩ := (HC f k (by omega)).out
          have z4 := R4.out.cell (k * 5 + 4) g4
          have f4 := R4.out.frozen (k * 5 + 4)
          have zA := hA4.cell k (i8_get a k (by omega))
          have tt := HT.out k
          have hWx := hWn w4.drew hB4.drew
          have R5 := Lib.hid (((R4.out.drew).set (k * 5 + 4) (.int .i64 (whenV (l.map Prod.snd) j - a k))).eq (HSO f k (by omega) (whenV (l.map Prod.snd) j - a k)).out)
          have O5 := Lib.hid ((Only.refl (w.heap.size + 1) w4).drew.set (k * 5 + 4) (.int .i64 (whenV (l.map Prod.snd) j - a k)))
          have H5 : Hid (∀ i, i < k → Hears (w4.drew.setCell ⟨w.heap.size + 1, k * 5 + 4, none⟩ (.int .i64 (whenV (l.map Prod.snd) j - a k))) (w.heap.size + 1 + 1) (l.map Prod.snd) n qa qb j a i (f i)) := Lib.hid fun i hi => (hHx.out i hi).only O5.out (by omega)
          have hA5 := Lib.hid (hA4.only O5.out (by omega))
          have hB5 := Lib.hid (hB4.trans (O5.out.below (by omega) (by omega)))
          have hS5 := Lib.hid (Nat.le_trans hS4 O5.out.size)
          have HF : Hid (∀ i, i < k + 1 → Hears (w4.drew.setCell ⟨w.heap.size + 1, k * 5 + 4, none⟩ (.int .i64 (whenV (l.map Prod.snd) j - a k))) (w.heap.size + 1 + 1) (l.map Prod.snd) n qa qb j a i ((upH f k { f k with o := whenV (l.map Prod.snd) j - a k }) i)) := Lib.hid fun i hi => by
            by_cases e : i = k
            · rw [e]
              have h1 : ¬ (k < (l.map Prod.snd).length ∧ ((l.map Prod.snd)[k]?.map Sd.df) ≠ some true) := fun h => h.2 hm
              simp only [upH, if_true]
              rw [hZk.out]
              exact ⟨by rw [if_neg h1]; rfl, by rw [if_neg h1]; rfl, by rw [if_neg h1]; exact OwnsL.nil, by rw [if_neg h1]; exact OwnsL.nil, by rw [if_pos ⟨hml, by omega⟩]⟩
            · simp only [upH, if_neg e]
              exact H5.out i (by omega)
          have HZ2 : Hid (∀ i, k + 1 ≤ i → (upH f k { f k with o := whenV (l.map Prod.snd) j - a k }) i = hdz) := Lib.hid fun i hi => by unfold upH; (repeat rw [if_neg (by omega)]); exact hZ'.out i hi
          clear R4 hA4 hB4 g4 hS4 O5
          (try go_wp2_with fail)
          go_region_with (first
            | (go_at_call 183; refine hWx.out.mono ?_; rintro e w5 ⟨rfl, rfl⟩)
            | fail)
          all_goals
            go_wp2_with fail
            go_roundw
            case rel => exact ⟨k + 1, _, by omega, by go_num, R5.out, HF, HZ2, hA5.out, hB5.out, hS5.out⟩
            case measure => simp [intOf]; omega
      · obtain rfl : k = l.length := by omega
        have r1 : decide ((l.length : Int) < (l.length : Nat)) = false := by simp
        have hF : Hid (∀ i, i < 8 → Hears wr (w.heap.size + 1 + 1) (l.map Prod.snd) n qa qb j a i (f i)) := Lib.hid fun i hi => by
          by_cases h : i < l.length
          · exact hH.out i h
          · have h' : ¬ i < (l.map Prod.snd).length := by simpa using h
            rw [hZ.out i (by omega)]
            exact ⟨by simp [hdz, h], by simp [hdz, h], by simp [hdz, h]; exact OwnsL.nil, by simp [hdz, h]; exact OwnsL.nil, by simp [hdz, h]⟩
        have HRb := Lib.hid hR
        have hcs : wr.rangeAt (w.heap.size + 1) 0 (hdC f).toList := fun q v hv => by rw [Nat.zero_add]; exact HRb.out.cell q (by simpa using hv)
        have hth : wr.there (w.heap.size + 1) 0 (hdC f).size := fun q hq => ⟨by rw [Nat.zero_add, HRb.out.cell q (Array.getElem?_eq_getElem hq)]; rfl, HRb.out.frozen _⟩
        have hin := infoHeard8
        have hun := Tryz.underlying189
        have hone := Lib.hid (hdC_one f (fun i hi => by obtain ⟨A, c, h, -⟩ := (hF.out i hi).X.sees.at_; exact ⟨A, _, c, h⟩) (fun i hi => by obtain ⟨A, c, h, -⟩ := (hF.out i hi).Y.sees.at_; exact ⟨A, _, c, h⟩))
        have HB := Lib.hid hB
        have HSz := Lib.hid hS
        clear hR hA hH hZ HX hWn hRd hB HC HS4 HSO hlt hk HT
        go_wp2_with (first
          | (refine wpList_load_mid rfl _ _ rfl _ _ rfl _ _ hcs hun rfl hin ?_)
          | (refine wpList_store_mid rfl _ _ _ rfl _ _ (hdC f) rfl rfl hth hin hone.out ?_))
        refine bodyPost_ret (v := .agg (hdC f)) ?_ rfl ⟨f, rfl, ?_, ?_⟩
        · rw [results_cell rfl]
          have hld := run_loadVar_mid (P := Tryz.prog) (wr.setCells (w.heap.size + 1) 0 (hdC f).toList) (w.heap.size + 1) 0 189 (hdC f).toList _ (World.rangeAt_setCells_same _ _ _ _ (by simpa using hth)) hun rfl hin
          simp only [Array.toArray_toList] at hld
          show ((asAddr (.pointer (some ⟨w.heap.size + 1, 0, none⟩))).run Tryz.prog _).andThen _ = _
          simp only [asAddr, Sem.run_pure, Result.andThen_ok]
          exact hld
        · intro i hi
          exact Hears.base (Hears.only (g := w.heap.size + 1) (hF.out i hi) (Only.setCells _ _ (Only.refl _ _)) (by omega)) (by omega)
        · exact HB.out.trans (Only.below (g := w.heap.size + 1) (Only.setCells _ _ (Only.refl _ _)) (by omega) (by have := HSz.out; omega))
end Go.Proofs.YtpdenmcacaajkaaGreat
