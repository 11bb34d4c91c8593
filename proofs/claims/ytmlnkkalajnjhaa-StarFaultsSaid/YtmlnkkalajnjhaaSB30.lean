/- Texts SrN, SrQ, SrS in one. For what each says in front of its theorems. -/
import Derived.Test.YtmlnkkalajnjhaaSB29
/-! ### SrN -/
namespace Go.Proofs.Ytmlnkkalajnjhaa
open Go.RowKit
open Tb (D T)

theorem rq_loud (l : List Int) (h : 0 < l.length) : allZ (rq l) (rn l) = false := lv_loud _ _ (by unfold rn; omega)
theorem tl_rq (l : List Int) (hl : bytesL l) (h : l.length ≤ 50) : tl (rn l) (rq l) = l := by
  have hr : rn l = 8 * l.length := by unfold rn; omega
  by_cases h0 : l.length = 0
  · have : l = [] := List.length_eq_zero_iff.1 h0
    subst this
    rfl
  · unfold tl
    rw [if_pos ⟨rq_loud l (by omega), by omega, lv_units _ _⟩, hr, Nat.mul_div_cancel_left _ (by omega)]
    refine Eq.trans (List.map_congr_left fun j hj => ?_) (lst_self l)
    exact packed_lv (fun k => l.getD k 0) j (hl.getD j)
theorem tk_rq (l : List Int) (h0 : 0 < l.length) : tk (rn l) (rq l) = 2 := by
  unfold tk
  rw [if_neg (by rw [rq_loud l h0]; simp), if_pos ⟨by unfold rn; omega, lv_units _ _⟩]
theorem tk_none (q : Nat → Int) : tk 0 q = 0 := rfl
theorem tl_none (q : Nat → Int) : tl 0 q = [] := rfl
/-- Senders as they begin. -/
def m0 (n : Nat) (bs : Nat → List Int) (a : Nat → Int) : List Sd := (List.range n).map (sd0 bs a)
theorem m0_length (n : Nat) (bs : Nat → List Int) (a : Nat → Int) : (m0 n bs a).length = n := by simp [m0]
theorem m0_get (n : Nat) (bs : Nat → List Int) (a : Nat → Int) (i : Nat) (h : i < n) : (m0 n bs a)[i]? = some (sd0 bs a i) := by simp [m0, h]
theorem sF_m0 (n : Nat) (bs : Nat → List Int) (a : Nat → Int) (i : Nat) (h : i < n) : sF (m0 n bs a) i = decide (0 < (bs i).length) := by
  unfold sF
  rw [m0_get n bs a i h]
  show decide (0 < rn (bs i)) = _
  rw [decide_eq_decide]
  unfold rn
  omega
theorem sA_m0 (n : Nat) (bs : Nat → List Int) (a : Nat → Int) (i : Nat) (h : i < n) : sA (m0 n bs a) i = a i := by
  unfold sA
  rw [m0_get n bs a i h]
  rfl
theorem hn_m0 (n : Nat) (bs : Nat → List Int) (a : Nat → Int) (i : Nat) (h : i < n) : hn (m0 n bs a) (i : Nat) = rn (bs i) := by
  unfold hn
  rw [if_neg (by omega), Int.toNat_natCast, m0_get n bs a i h]
  rfl
theorem hq_m0 (n : Nat) (bs : Nat → List Int) (a : Nat → Int) (i : Nat) (h : i < n) : hq (m0 n bs a) (i : Nat) = rq (bs i) := by
  unfold hq
  rw [Int.toNat_natCast, m0_get n bs a i h]
  rfl
theorem whenV_m0 (n : Nat) (bs : Nat → List Int) (a : Nat → Int) (i : Nat) (h : i < n) : whenV (m0 n bs a) (i : Nat) = a i := by
  unfold whenV
  rw [if_neg (by omega), Int.toNat_natCast, sA_m0 n bs a i h]
/-- One at place k, the others nothing. -/
def at1 {α : Type} (k : Nat) (x y : α) (i : Nat) : α := if i = k then x else y
/-- What a cold frame of node 0 is. -/
def cold0 : List Int := (lawF 3 0).bytes
theorem cold0_len : cold0.length ≤ 50 ∧ 0 < cold0.length := by decide +kernel
/-- The guardians behind it. -/
def S1 (n : Nat) : G := (newG (someT n 1)).told 0 0
set_option maxRecDepth 100000 in
set_option maxHeartbeats 4000000 in
theorem begun_sr (n : Nat) (h4 : 4 ≤ n) (h8 : n ≤ 8) (w : World) :
    Calls Try.prog 14 #[.int .i64 (n : Nat)] w fun e w' => ∃ g, e = .returned (.pointer (some ⟨g, 0, none⟩)) ∧ w.heap.size ≤ g ∧ GsAt w' g n (S1 n) (S1 n) ∧ Below w.heap.size w w' := by
  have hs := fun W => Lib.hid (show Calls Try.prog 17 #[.int .i64 (n : Nat), .int .i64 1] W fun e w' => ∃ v, e = .returned (.agg #[v, .int .i64 1, .int .i64 10, .int .i64 13]) ∧ OwnsD w' W.heap.size v (someL n) ∧ Below W.heap.size W w' from some_sr n 1 h8 (by omega) W)
  have hN := fun v W B (h : OwnsD W B v (someL n)) => Lib.hid (show Calls Try.prog 21 #[.agg #[v, .int .i64 1, .int .i64 10, .int .i64 13]] W fun e w' => ∃ g, e = .returned (.tuple #[.pointer (some ⟨g, 0, none⟩), .int .i64 0]) ∧ W.heap.size ≤ g ∧ GsAt w' g n (newG (someT n 1)) (newG (someT n 1)) ∧ Below W.heap.size W w' from by
    have := new_sr (someT n 1) v W h.sees (some_is n 1 h4 h8 (by omega))
    rw [show (someT n 1).ns.length = n from someL_length n] at this
    exact this)
  have hE := fun W => Lib.hid (enc_law (k := 3) (s := 0) (by omega) (by omega) W)
  have hS := fun (g : Nat) (Av : Option Addr) (cv : Nat) (W : World) (hG : GsAt W g n (newG (someT n 1)) (newG (someT n 1))) (hv : SeesL W W.heap.size (.slice Av cold0.length cv) cold0) =>
    slot_sr g n (newG (someT n 1)) (at1 0 Av none) (at1 0 cv 0) (at1 0 cold0 []) (fun _ => 0) (.slice none 0 0) [] false (m0 n (at1 0 cold0 []) fun _ => 0) ((0 : Nat) : Int) W hG h8
      (fun i _ => by
        by_cases e : i = 0
        · subst e; exact ⟨hv, lawF_ok (by omega) (by omega)⟩
        · simp only [at1, if_neg e]; exact ⟨SeesL.nil, fun x hx => by cases hx⟩) (fun i => by simp) SeesF.nil rfl (fun f hf => by cases hf) rfl rfl rfl
      (by
        unfold G.pass
        rw [show (newG (someT n 1)).kn = false from rfl]
        simp only [Bool.false_eq_true, if_false]
        refine fst_hit (k := 0) (by show 0 < (someL n).length; rw [someL_length]; omega) ?_ (fun j hj => by omega)
        rw [sF_m0 n _ _ 0 (by omega)]
        exact decide_eq_true cold0_len.2)
      (.inr ⟨0, rfl, by omega⟩) (by show (someL n).length ≤ 8; rw [someL_length]; exact h8) (by show 0 < 8; omega) (by unfold time newG; simp) (by show 0 ≤ (4 : Int) * 1 + 6 ∧ (4 : Int) * 1 + 6 ≤ _; omega)
      (by rw [show prV false ((0 : Nat) : Int) = ((0 : Nat) : Int) from rfl, whenV_m0 n _ _ 0 (by omega)]; exact newG_ok n 1 h4 h8 (by omega) 0 (by omega))
  have hS : ∀ (g : Nat) (Av : Option Addr) (cv : Nat) (W : World), GsAt W g n (newG (someT n 1)) (newG (someT n 1)) → SeesL W W.heap.size (.slice Av cold0.length cv) cold0 → Hid (Calls Try.prog 15 #[.pointer (some ⟨g, 0, none⟩), .agg #[.slice Av cold0.length cv, .slice none 0 0, .slice none 0 0, .slice none 0 0, .slice none 0 0, .slice none 0 0, .slice none 0 0, .slice none 0 0], .agg #[.int .i64 0, .int .i64 0, .int .i64 0, .int .i64 0, .int .i64 0, .int .i64 0, .int .i64 0, .int .i64 0], .slice none 0 0] W fun e w' => ∃ f, e = .returned (.tuple #[.agg (hdC f), .int .i64 0]) ∧ GsAt w' g n (S1 n) (S1 n) ∧ Only g W w') := fun g Av cv W hG hv => Lib.hid ((hS g Av cv W hG hv).mono fun e w' ⟨f, h1, h2, h3, h4'⟩ => ⟨f, h1, by
    rw [show prV false ((0 : Nat) : Int) = ((0 : Nat) : Int) from rfl, hn_m0 n _ _ 0 (by omega), hq_m0 n _ _ 0 (by omega), whenV_m0 n _ _ 0 (by omega), show at1 0 cold0 [] 0 = cold0 from rfl, tl_rq cold0 (lawF_ok (by omega) (by omega)) cold0_len.1] at h3
    have e := ended_told (newG (someT n 1)) rfl (k := 3) (by omega) 0 (by show 0 < (someL n).length; rw [someL_length]; omega) (by show (someL n).length ≤ 8; rw [someL_length]; exact h8) 0
    rw [show (newG (someT n 1)).ended cold0 ((fun _ => (0 : Int)) 0) = S1 n from e] at h3
    exact h3, h4'⟩)
  change ∀ W, Hid (Calls _ _ _ _ (fun e w' => ∃ v, e = .returned (.tuple #[v, .int .i64 0]) ∧ OwnsL w' W.heap.size v cold0 ∧ Below W.heap.size W w')) at hE
  generalize S1 n = s1 at *
  generalize newG (someT n 1) = s at *
  generalize someL n = ls at *
  generalize cold0 = cl at *
  go_enter Try.func14, Try.ntmps14
  go_wp2_with fail
  refine (hs w).out.mono ?_
  rintro e w1 ⟨v1, rfl, ho1, hb1⟩
  go_wp2_with fail
  refine (hN v1 w1 _ ho1).out.mono ?_
  rintro e w2 ⟨g, rfl, hg, hG, hb⟩
  have hb2 := hb1.trans (hb.mono hb1.size)
  have hz2 := hb1.size
  clear hb hb1 ho1
  go_wp2_with fail
  have X := Blk.new w2 w2.heap.size rfl #[.slice none 0 0, .slice none 0 0, .slice none 0 0, .slice none 0 0, .slice none 0 0, .slice none 0 0, .slice none 0 0, .slice none 0 0] 31
  have bx := (Below.refl w2.heap.size w2).alloc (Nat.le_refl _) (.cells #[.slice none 0 0, .slice none 0 0, .slice none 0 0, .slice none 0 0, .slice none 0 0, .slice none 0 0, .slice none 0 0, .slice none 0 0] 31)
  have hzx : (w2.alloc (.cells #[.slice none 0 0, .slice none 0 0, .slice none 0 0, .slice none 0 0, .slice none 0 0, .slice none 0 0, .slice none 0 0, .slice none 0 0] 31)).heap.size = w2.heap.size + 1 := by simp
  have hG3 := hG.below bx hG.lt
  have hgl := hG.lt
  have hb3 := hb2.trans (bx.mono hb2.size)
  clear hG hb2 bx
  generalize w2.alloc (.cells #[.slice none 0 0, .slice none 0 0, .slice none 0 0, .slice none 0 0, .slice none 0 0, .slice none 0 0, .slice none 0 0, .slice none 0 0] 31) = w3 at *
  refine (hE w3).out.mono ?_
  rintro e w4 ⟨v, rfl, ho, hb⟩
  have X4 := X.below hb X.lt
  have hG4 := hG3.below hb hG3.lt
  have hb4 := hb3.trans (hb.mono hb3.size)
  have hsv := ho.sees
  obtain ⟨Av, cv, rfl, -⟩ := hsv.at_
  have hne : Av ≠ none → True := fun _ => trivial
  have y0 := X4.cell 0 (x := .slice none 0 0) rfl
  have f0 := X4.frozen 0
  have hO5 : Only w2.heap.size w4 (w4.setCell ⟨w2.heap.size, 0, none⟩ (.slice Av cl.length cv)) := (Only.refl _ _).set 0 _
  have ho5 := ho.only hO5 (by omega)
  have X5 : Blk (w4.setCell ⟨w2.heap.size, 0, none⟩ (.slice Av cl.length cv)) w2.heap.size #[.slice Av cl.length cv, .slice none 0 0, .slice none 0 0, .slice none 0 0, .slice none 0 0, .slice none 0 0, .slice none 0 0, .slice none 0 0] 31 := (X4.set 0 _).eq (by simp)
  have hG5 : GsAt (w4.setCell ⟨w2.heap.size, 0, none⟩ (.slice Av cl.length cv)) g n s s := ⟨hG4.1.only hO5 (by omega), hG4.2⟩
  have hb5 : Below w.heap.size w (w4.setCell ⟨w2.heap.size, 0, none⟩ (.slice Av cl.length cv)) := hb4.setCell (by show w.heap.size ≤ w2.heap.size; omega) _
  have hSl := hS g Av cv _ hG5 ho5.sees
  have z0 := X5.cell 0 (x := .slice Av cl.length cv) rfl
  have z1 := X5.cell 1 (x := .slice none 0 0) rfl
  have z2 := X5.cell 2 (x := .slice none 0 0) rfl
  have z3 := X5.cell 3 (x := .slice none 0 0) rfl
  have z4 := X5.cell 4 (x := .slice none 0 0) rfl
  have z5 := X5.cell 5 (x := .slice none 0 0) rfl
  have z6 := X5.cell 6 (x := .slice none 0 0) rfl
  have z7 := X5.cell 7 (x := .slice none 0 0) rfl
  clear X X4 hG3 hb3 hG4 hb4 ho hsv hb X5 ho5 hO5 hs hN hE hS
  go_wp2_with fail
  refine hSl.out.mono ?_
  rintro e w6 ⟨f, rfl, hG6, hO6⟩
  have hb6 := Lib.hid (hb5.trans (hO6.below (by omega) hG5.lt))
  have hG6 := Lib.hid hG6
  clear hO6 hG5 hSl
  go_wp2_with fail
  go_ret
  exact ⟨g, rfl, by omega, hG6.out, hb6.out⟩
end Go.Proofs.Ytmlnkkalajnjhaa

/-! ### SrQ -/
namespace Go.Proofs.Ytmlnkkalajnjhaa
open Go.RowKit
open Tb (D T)

/-- What is heard, where it lies. -/
def HAt (W : World) (b : Nat) (f : Nat → Hd) : Prop := W.rangeAt b 0 (hdC f).toList
theorem HAt.get {W : World} {b : Nat} {f : Nat → Hd} (h : HAt W b f) (k : Nat) (hk : k < 8) : W.cell? ⟨b, k * 5, none⟩ = some (.int .i64 (f k).A) ∧ W.cell? ⟨b, k * 5 + 1, none⟩ = some (.int .i64 (f k).B) ∧ W.cell? ⟨b, k * 5 + 2, none⟩ = some (f k).X ∧ W.cell? ⟨b, k * 5 + 3, none⟩ = some (f k).Y ∧ W.cell? ⟨b, k * 5 + 4, none⟩ = some (.int .i64 (f k).o) := by
  obtain ⟨g0, g1, g2, g3, g4⟩ := hdC_get f k hk
  have key : ∀ j v, (hdC f)[j]? = some v → W.cell? ⟨b, j, none⟩ = some v := fun j v hj => by
    have := h j v (by rw [Array.getElem?_toList]; exact hj)
    rwa [Nat.zero_add] at this
  exact ⟨key _ _ g0, key _ _ g1, key _ _ g2, key _ _ g3, key _ _ g4⟩
theorem HAt.below {W W' : World} {B b : Nat} {f : Nat → Hd} (h : HAt W b f) (hb : Below B W W') (hB : b < B) : HAt W' b f := fun j v hj => (hb.cell (p := ⟨b, 0 + j, none⟩) hB).trans (h j v hj)
theorem hdz_there (W : World) (b : Nat) (hb : b = W.heap.size) (t : TypeId) : (W.alloc (.cells (hdC fun _ => hdz) t)).there b 0 40 := fun j hj => by
  have X := Blk.new W b hb (hdC fun _ => hdz) t
  refine ⟨?_, X.frozen _⟩
  rw [Nat.zero_add, X.cell j (Array.getElem?_eq_getElem (by show j < 40; omega))]
  rfl
theorem hdz_lit : hdC (fun _ => hdz) = #[.int .i64 0, .int .i64 0, .slice none 0 0, .slice none 0 0, .int .i64 0, .int .i64 0, .int .i64 0, .slice none 0 0, .slice none 0 0, .int .i64 0, .int .i64 0, .int .i64 0, .slice none 0 0, .slice none 0 0, .int .i64 0, .int .i64 0, .int .i64 0, .slice none 0 0, .slice none 0 0, .int .i64 0, .int .i64 0, .int .i64 0, .slice none 0 0, .slice none 0 0, .int .i64 0, .int .i64 0, .int .i64 0, .slice none 0 0, .slice none 0 0, .int .i64 0, .int .i64 0, .int .i64 0, .slice none 0 0, .slice none 0 0, .int .i64 0, .int .i64 0, .int .i64 0, .slice none 0 0, .slice none 0 0, .int .i64 0] := rfl
/-- A slot's answers are laid down. -/
theorem hear_lies (W : World) (b : Nat) (hb : b = W.heap.size) (f : Nat → Hd) (t : TypeId) : HAt ((W.alloc (.cells (hdC fun _ => hdz) t)).setCells b 0 (hdC f).toList) b f ∧ Below W.heap.size W ((W.alloc (.cells (hdC fun _ => hdz) t)).setCells b 0 (hdC f).toList) := by
  subst hb
  refine ⟨World.rangeAt_setCells_same _ _ _ _ (hdz_there W _ rfl t), ?_⟩
  have h1 : Below W.heap.size W (W.alloc (.cells (hdC fun _ => hdz) t)) := (Below.refl _ _).alloc (Nat.le_refl _) _
  exact h1.trans ((Only.setCells (hdC f).toList 0 (Only.refl W.heap.size _)).below (Nat.le_refl _) (by simp))
theorem Hears.is {W : World} {Bs : Nat} {n : Nat} {bs : Nat → List Int} {c : Nat → Int} {r : Nat} {qa qb : Nat → Int} {p : Int} {a : Nat → Int} {i : Nat} {h : Hd} (H : Hears W Bs (m0 n bs c) r qa qb p a i h) (hi : i < n) : h.A = tk r qa ∧ h.B = tk r qb ∧ OwnsL W Bs h.X (tl r qa) ∧ OwnsL W Bs h.Y (tl r qb) := by
  have e : i < (m0 n bs c).length ∧ ((m0 n bs c)[i]?.map Sd.df) ≠ some true := ⟨by rw [m0_length]; exact hi, by rw [m0_get n bs c i hi]; simp [sd0]⟩
  obtain ⟨h1, h2, h3, h4, -⟩ := H
  rw [if_pos e] at h1 h2 h3 h4
  exact ⟨h1, h2, h3, h4⟩
theorem Hears.non {W : World} {Bs : Nat} {m : List Sd} {r : Nat} {qa qb : Nat → Int} {p : Int} {a : Nat → Int} {i : Nat} {h : Hd} (H : Hears W Bs m r qa qb p a i h) (hi : m.length ≤ i) : h.A = 0 ∧ h.B = 0 ∧ OwnsL W Bs h.X [] ∧ OwnsL W Bs h.Y [] ∧ h.o = 0 := by
  have e : ¬ (i < m.length ∧ (m[i]?.map Sd.df) ≠ some true) := fun h => by omega
  obtain ⟨h1, h2, h3, h4, h5⟩ := H
  rw [if_neg e] at h1 h2 h3 h4
  rw [if_neg (fun h => by omega)] at h5
  exact ⟨h1, h2, h3, h4, h5⟩
/-- A slot of a new star of n nodes in which node k alone sends. -/
theorem slot_new (n k : Nat) (l : List Int) (hk : k < n) (h4 : 4 ≤ n) (h8 : n ≤ 8) (hl : bytesL l) (h0 : 0 < l.length) (g : Nat) (A : Nat → Option Addr) (c : Nat → Nat) (W : World) (hG : GsAt W g n (newG (someT n 1)) (newG (someT n 1)))
    (hv : ∀ i, SeesL W W.heap.size (.slice (A i) (at1 k l [] i).length (c i)) (at1 k l [] i)) :
    Calls Try.prog 15 #[.pointer (some ⟨g, 0, none⟩), s8 fun i => .slice (A i) (at1 k l [] i).length (c i), ints8 fun _ => 0, .slice none 0 0] W fun e w' => ∃ f, e = .returned (.tuple #[.agg (hdC f), .int .i64 0]) ∧
      (∀ i, i < 8 → Hears w' W.heap.size (m0 n (at1 k l []) fun _ => 0) (rn l) (rq l) (rq l) (k : Nat) (fun _ => 0) i (f i)) ∧ GsAt w' g n ((newG (someT n 1)).ended (tl (rn l) (rq l)) 0) ((newG (someT n 1)).ended (tl (rn l) (rq l)) 0) ∧ Only g W w' := by
  have hS := slot_sr g n (newG (someT n 1)) A c (at1 k l []) (fun _ => 0) (.slice none 0 0) [] false (m0 n (at1 k l []) fun _ => 0) (k : Nat) W hG h8
      (fun i _ => ⟨hv i, by
        by_cases e : i = k
        · subst e; simp only [at1, if_true]; exact hl
        · simp only [at1, if_neg e]; exact fun x hx => by cases hx⟩) (fun i => by simp) SeesF.nil rfl (fun f hf => by cases hf) rfl rfl rfl
      (by
        unfold G.pass
        rw [show (newG (someT n 1)).kn = false from rfl]
        simp only [Bool.false_eq_true, if_false]
        refine fst_hit (k := k) (by show k < (someL n).length; rw [someL_length]; omega) ?_ (fun j hj => ?_)
        · rw [sF_m0 n _ _ k hk]
          simp only [at1, if_true]
          exact decide_eq_true h0
        · rw [sF_m0 n _ _ j (by omega)]
          simp only [at1, if_neg (show ¬ j = k by omega)]
          rfl)
      (.inr ⟨k, rfl, hk⟩) (by show (someL n).length ≤ 8; rw [someL_length]; exact h8) (by show 0 < 8; omega) (by unfold time newG; simp) (by show 0 ≤ (4 : Int) * 1 + 6 ∧ (4 : Int) * 1 + 6 ≤ _; omega)
      (by rw [show prV false (k : Int) = (k : Int) from rfl, whenV_m0 n _ _ k hk]; exact newG_ok n 1 h4 h8 (by omega) 0 (by omega))
  rw [show prV false (k : Int) = (k : Int) from rfl, hn_m0 n _ _ k hk, hq_m0 n _ _ k hk, whenV_m0 n _ _ k hk, show at1 k l [] k = l from if_pos rfl] at hS
  exact hS
theorem b12 : bytesL [1, 2] := fun x hx => by simp at hx; omega
theorem textL12 : textL [1, 2] = ⟨#[1, 2]⟩ := rfl
set_option maxRecDepth 100000 in
set_option maxHeartbeats 4000000 in
theorem known_sr (w : World) : Calls Try.prog 16 #[] w fun e w' => e = .returned (.bool true) ∧ Below w.heap.size w w' := by
  have hs := fun W => Lib.hid (show Calls Try.prog 17 #[.int .i64 4, .int .i64 1] W fun e w' => ∃ v, e = .returned (.agg #[v, .int .i64 1, .int .i64 10, .int .i64 13]) ∧ OwnsD w' W.heap.size v (someL 4) ∧ Below W.heap.size W w' from some_sr 4 1 (by omega) (by omega) W)
  have hN := fun v W B (h : OwnsD W B v (someL 4)) => Lib.hid (show Calls Try.prog 21 #[.agg #[v, .int .i64 1, .int .i64 10, .int .i64 13]] W fun e w' => ∃ g, e = .returned (.tuple #[.pointer (some ⟨g, 0, none⟩), .int .i64 0]) ∧ W.heap.size ≤ g ∧ GsAt w' g 4 (newG (someT 4 1)) (newG (someT 4 1)) ∧ Below W.heap.size W w' from new_sr (someT 4 1) v W h.sees (some_is 4 1 (by omega) (by omega) (by omega)))
  have hS : ∀ (g b : Nat) (W : World), GsAt W g 4 (newG (someT 4 1)) (newG (someT 4 1)) → SeesL W W.heap.size (.slice (some ⟨b, 0, none⟩) 2 2) [1, 2] → Hid (Calls Try.prog 15 #[.pointer (some ⟨g, 0, none⟩), .agg #[.slice none 0 0, .slice (some ⟨b, 0, none⟩) 2 2, .slice none 0 0, .slice none 0 0, .slice none 0 0, .slice none 0 0, .slice none 0 0, .slice none 0 0], .agg #[.int .i64 0, .int .i64 0, .int .i64 0, .int .i64 0, .int .i64 0, .int .i64 0, .int .i64 0, .int .i64 0], .slice none 0 0] W fun e w' => ∃ f, e = .returned (.tuple #[.agg (hdC f), .int .i64 0]) ∧
      ((f 0).A = 2 ∧ (f 3).B = 2 ∧ OwnsL w' W.heap.size (f 2).X [1, 2] ∧ (f 5).A = 0) ∧ (∀ i, i < 8 → (∃ A n c, (f i).X = .slice A n c) ∧ ∃ A n c, (f i).Y = .slice A n c) ∧ Only g W w') := fun g b W hG hv => Lib.hid (by
    refine (slot_new 4 1 [1, 2] (by omega) (by omega) (by omega) b12 (by decide) g (at1 1 (some ⟨b, 0, none⟩) none) (at1 1 2 0) W hG (fun i => by
      by_cases e : i = 1
      · subst e; exact hv
      · simp only [at1, if_neg e]; exact SeesL.nil)).mono ?_
    rintro e w' ⟨f, rfl, hH, -, hO⟩
    obtain ⟨a1, -, -, -⟩ := (hH 0 (by omega)).is (by omega)
    obtain ⟨-, b3, -, -⟩ := (hH 3 (by omega)).is (by omega)
    obtain ⟨-, -, x2, -⟩ := (hH 2 (by omega)).is (by omega)
    obtain ⟨a5, -⟩ := (hH 5 (by omega)).non (by rw [m0_length]; omega)
    rw [tk_rq _ (by decide)] at a1 b3
    rw [tl_rq _ b12 (by decide)] at x2
    refine ⟨f, rfl, ⟨a1, b3, x2, a5⟩, fun i hi => ⟨?_, ?_⟩, hO⟩
    · obtain ⟨A, c, h, -⟩ := (hH i hi).X.sees.at_; exact ⟨A, _, c, h⟩
    · obtain ⟨A, c, h, -⟩ := (hH i hi).Y.sees.at_; exact ⟨A, _, c, h⟩)
  generalize newG (someT 4 1) = s at *
  generalize someL 4 = ls at *
  have hin := infoHeard8
  go_enter Try.func16, Try.ntmps16
  go_wp2_with fail
  refine (hs w).out.mono ?_
  rintro e w1 ⟨v1, rfl, ho1, hb1⟩
  go_wp2_with fail
  refine (hN v1 w1 _ ho1).out.mono ?_
  rintro e w2 ⟨g, rfl, hg, hG, hb⟩
  have hb2 := hb1.trans (hb.mono hb1.size)
  have hz2 := hb1.size
  have hB2 := (Below.refl w2.heap.size w2).alloc (Nat.le_refl _) (.cells #[.int .u8 1, .int .u8 2] 5)
  have hsl := hS g w2.heap.size _ (hG.below hB2 hG.lt) (sees_lit w2 5 _ [1, 2] rfl _ (by simp) (by simp [maxLen]) w2.heap.size 2 2 rfl rfl rfl)
  have hG3 := hG.below hB2 hG.lt
  have hb3 := hb2.trans (hB2.mono hb2.size)
  clear hG hb hb1 hb2 ho1 hs hN hS
  go_wp2_with fail
  refine hsl.out.mono ?_
  rintro e w4 ⟨f, rfl, ⟨a0, b3, x2, a5⟩, hxy, hO⟩
  have hb4 := hb3.trans (hO.below (by omega) hG3.lt)
  have hl := hear_lies w4 w4.heap.size rfl f 27
  have hth := hdz_there w4 w4.heap.size rfl 27
  have h40 : 40 = (hdC f).size := rfl
  rw [hdz_lit] at hl hth
  rw [h40] at hth
  clear h40
  obtain ⟨hH, hB5⟩ := hl
  have hone := Lib.hid (hdC_one f (fun i hi => (hxy i hi).1) (fun i hi => (hxy i hi).2))
  have HF : Hid (∀ W, HAt W w4.heap.size f → Below w4.heap.size w4 W → W.cell? ⟨w4.heap.size, 0, none⟩ = some (.int .i64 2) ∧ W.cell? ⟨w4.heap.size, 16, none⟩ = some (.int .i64 2) ∧ (∃ A c, W.cell? ⟨w4.heap.size, 12, none⟩ = some (.slice A 2 c) ∧ (convert 22 9 (.slice A 2 c)).run Try.prog W = .ok (.string ⟨#[1, 2]⟩) W) ∧ W.cell? ⟨w4.heap.size, 25, none⟩ = some (.int .i64 0)) := Lib.hid fun W h hb => by
    have e0 := (h.get 0 (by omega)).1
    have e3 := (h.get 3 (by omega)).2.1
    have e2 := (h.get 2 (by omega)).2.2.1
    have e5 := (h.get 5 (by omega)).1
    rw [a0] at e0
    rw [b3] at e3
    rw [a5] at e5
    have hx := (x2.below hb (Nat.le_refl _)).sees
    obtain ⟨A, c, hx2, -⟩ := hx.at_
    rw [hx2] at e2 hx
    refine ⟨e0, e3, ⟨A, c, e2, ?_⟩, e5⟩
    have := run_textL hx
    rwa [textL12] at this
  have HB : Hid (∀ W, Below w4.heap.size w4 W → Below w.heap.size w W) := Lib.hid fun W h => hb4.trans (h.mono hb4.size)
  clear a0 b3 x2 a5 hxy hO hb4 hb3 hG3 hsl hB2
  go_wp2_with (refine wpList_store_mid rfl _ _ _ rfl _ _ (hdC f) rfl rfl hth hin hone.out ?_; clear hth; generalize World.setCells _ _ _ _ = w5 at hH hB5 ⊢; obtain ⟨e0, e3, ⟨A2, c2, e2, t2⟩, e5⟩ := HF.out w5 hH hB5)
  go_ret
  exact ⟨rfl, HB.out _ hB5⟩
end Go.Proofs.Ytmlnkkalajnjhaa

/-! ### SrS -/
namespace Go.Proofs.Ytmlnkkalajnjhaa
open Go.RowKit
open Tb (D T)

theorem S1_slot (n : Nat) (h4 : 4 ≤ n) : (S1 n).slot = 1 := by
  show (0 + 1) % (someL n).length = 1
  rw [someL_length]
  exact Nat.mod_eq_of_lt (by omega)
theorem S1_ok (n : Nat) (h4 : 4 ≤ n) (h8 : n ≤ 8) (t : Int) (h : -1000000 ≤ t ∧ t ≤ 1000000) : (S1 n).Ok t := by
  have hl : (S1 n).n = n := someL_length n
  refine ⟨by omega, by rw [S1_slot n h4, hl]; omega, (fun x hx => by cases hx), ?_, ?_, ?_, ?_⟩
  · show 0 ≤ (4 : Int) * 1 + 9 ∧ (4 : Int) * 1 + 9 ≤ 1099511627776; omega
  · show _ ≤ (0 : Int) ∧ (0 : Int) ≤ _; omega
  · show _ ≤ t - 0 ∧ t - 0 ≤ _; omega
  · show 0 ≤ 1000; omega
/-- Is the slot's node heard? -/
def on1 (s : Sd) : Bool := decide (0 < s.n) && nearB s.at_ 0 10
theorem pass_s1 (n : Nat) (h4 : 4 ≤ n) (m : List Sd) (s : Sd) (h : m[1]? = some s) : (S1 n).pass (sF m) (sA m) = if on1 s then ((1 : Nat) : Int) else -1 := by
  unfold G.pass
  rw [show (S1 n).kn = true from rfl, S1_slot n h4]
  have e1 : sF m 1 = decide (0 < s.n) := by unfold sF; rw [h]
  have e2 : sA m 1 = s.at_ := by unfold sA; rw [h]
  rw [e1, e2]
  rfl
section
variable {n g : Nat} {A : Nat → Option Addr} {c : Nat → Nat} {bs : Nat → List Int} {a : Nat → Int} {v : Value} {fl : List Ft} {m : List Sd} {s : Sd} {W : World}
/-- The slot's node is heard. -/
theorem slot_heard (h4 : 4 ≤ n) (h8 : n ≤ 8) (hG : GsAt W g n (S1 n) (S1 n)) (hv : ∀ i, i < 8 → SeesL W W.heap.size (.slice (A i) (bs i).length (c i)) (bs i) ∧ bytesL (bs i)) (ha : ∀ i, -1000000 ≤ a i ∧ a i ≤ 1000000) (hf : SeesF W W.heap.size v fl) (his : ftIs fl = true) (h7 : ∀ f ∈ fl, f.k ≠ 7)
    (hb0 : fl.any (blocks · 0) = false) (hb1 : fl.any (blocks · 1) = false) (hm : strikes fl (m0 n bs a) = m) (h1 : m[1]? = some s) (hs : -1000000 ≤ s.at_ ∧ s.at_ ≤ 1000000) (hq : on1 s = true) :
    Calls Try.prog 15 #[.pointer (some ⟨g, 0, none⟩), s8 fun i => .slice (A i) (bs i).length (c i), ints8 a, v] W fun e w' => ∃ f, e = .returned (.tuple #[.agg (hdC f), .int .i64 0]) ∧
      (∀ i, i < 8 → Hears w' W.heap.size m s.n s.q s.q ((1 : Nat) : Int) a i (f i)) ∧ GsAt w' g n ((S1 n).ended (tl s.n s.q) s.at_) ((S1 n).ended (tl s.n s.q) s.at_) ∧ Only g W w' := by
  have e1 : hn m (prV false ((1 : Nat) : Int)) = s.n := by
    show hn m ((1 : Nat) : Int) = s.n
    unfold hn; rw [if_neg (by omega), Int.toNat_natCast, h1]
  have e2 : Go.Proofs.Ytmlnkkalajnjhaa.hq m ((1 : Nat) : Int) = s.q := by unfold Go.Proofs.Ytmlnkkalajnjhaa.hq; rw [Int.toNat_natCast, h1]
  have e3 : whenV m (prV false ((1 : Nat) : Int)) = s.at_ := by
    show whenV m ((1 : Nat) : Int) = s.at_
    unfold whenV sA; rw [if_neg (by omega), Int.toNat_natCast, h1]
  have hS := slot_sr g n (S1 n) A c bs a v fl false m ((1 : Nat) : Int) W hG h8 hv ha hf his h7 hb0 hb1 hm (by rw [pass_s1 n h4 m s h1, hq]; rfl) (.inr ⟨1, rfl, by omega⟩)
    (by show (someL n).length ≤ 8; rw [someL_length]; exact h8) (by rw [S1_slot n h4]; omega) (by unfold time; show _ ≤ (0 : Int) ∧ (0 : Int) ≤ _; omega) (by show 0 ≤ (4 : Int) * 1 + 6 ∧ (4 : Int) * 1 + 6 ≤ _; omega)
    (by rw [e3]; exact S1_ok n h4 h8 _ hs)
  rw [e1, e2, e3] at hS
  exact hS
/-- Nobody is heard. -/
theorem slot_quiet (bl : Bool) (h4 : 4 ≤ n) (h8 : n ≤ 8) (hG : GsAt W g n (S1 n) (S1 n)) (hv : ∀ i, i < 8 → SeesL W W.heap.size (.slice (A i) (bs i).length (c i)) (bs i) ∧ bytesL (bs i)) (ha : ∀ i, -1000000 ≤ a i ∧ a i ≤ 1000000) (hf : SeesF W W.heap.size v fl) (his : ftIs fl = true) (h7 : ∀ f ∈ fl, f.k ≠ 7)
    (hb0 : fl.any (blocks · 0) = bl) (hb1 : fl.any (blocks · 1) = bl) (hm : strikes fl (m0 n bs a) = m) (h1 : m[1]? = some s) (hq : bl = true ∨ on1 s = false) :
    Calls Try.prog 15 #[.pointer (some ⟨g, 0, none⟩), s8 fun i => .slice (A i) (bs i).length (c i), ints8 a, v] W fun e w' => ∃ f r, e = .returned (.tuple #[.agg (hdC f), .int .i64 0]) ∧
      (∀ i, i < 8 → Hears w' W.heap.size m 0 r r (-1) a i (f i)) ∧ GsAt w' g n ((S1 n).ended [] 0) ((S1 n).ended [] 0) ∧ Only g W w' := by
  have ep : prV bl (if on1 s then ((1 : Nat) : Int) else -1) = -1 := by
    rcases hq with rfl | h
    · rfl
    · rw [h]; cases bl <;> rfl
  have hS := slot_sr g n (S1 n) A c bs a v fl bl m (if on1 s then ((1 : Nat) : Int) else -1) W hG h8 hv ha hf his h7 hb0 hb1 hm (pass_s1 n h4 m s h1) (by
      by_cases h : on1 s = true
      · rw [h]; exact .inr ⟨1, rfl, by omega⟩
      · rw [if_neg h]; exact .inl rfl)
    (by show (someL n).length ≤ 8; rw [someL_length]; exact h8) (by rw [S1_slot n h4]; omega) (by unfold time; show _ ≤ (0 : Int) ∧ (0 : Int) ≤ _; omega) (by show 0 ≤ (4 : Int) * 1 + 6 ∧ (4 : Int) * 1 + 6 ≤ _; omega)
    (by rw [ep]; exact S1_ok n h4 h8 _ (by show _ ≤ (0 : Int) ∧ (0 : Int) ≤ _; omega))
  rw [ep] at hS
  refine hS.mono ?_
  rintro e w' ⟨f, rfl, hH, hG', hO⟩
  exact ⟨f, _, rfl, hH, hG', hO⟩
end
/-- One fault in memory. -/
theorem SeesF.one (W : World) (b : Nat) (hb : b = W.heap.size) (t : TypeId) (f : Ft) (u : Value) (hu : SeesL W W.heap.size u f.d) (hy : bytesL f.d) :
    SeesF (W.alloc (.cells #[.int .i64 f.k, .int .i64 f.n, .int .i64 f.a, u] t)) (W.heap.size + 1) (.slice (some ⟨b, 0, none⟩) 1 1) [f] := by
  subst hb
  have X := Blk.new W _ rfl #[.int .i64 f.k, .int .i64 f.n, .int .i64 f.a, u] t
  refine ⟨⟨_, 1, rfl, Nat.le_refl _, by simp [maxLen], fun _ => ⟨W.heap.size, 0, rfl, Nat.lt_succ_self _, fun i hi => ?_⟩⟩, fun g hg => by rw [List.mem_singleton.1 hg]; exact hy⟩
  obtain rfl : i = 0 := by simpa using hi
  exact ⟨X.cell 0 rfl, X.cell 1 rfl, X.cell 2 rfl, u, X.cell 3 rfl, (hu.below ((Below.refl _ _).alloc (Nat.le_refl _) _)).more (by omega)⟩
/-- Two faults in memory. -/
theorem SeesF.two (W : World) (b : Nat) (hb : b = W.heap.size) (t : TypeId) (f f' : Ft) (u u' : Value) (hu : SeesL W W.heap.size u f.d) (hy : bytesL f.d) (hu' : SeesL W W.heap.size u' f'.d) (hy' : bytesL f'.d) :
    SeesF (W.alloc (.cells #[.int .i64 f.k, .int .i64 f.n, .int .i64 f.a, u, .int .i64 f'.k, .int .i64 f'.n, .int .i64 f'.a, u'] t)) (W.heap.size + 1) (.slice (some ⟨b, 0, none⟩) 2 2) [f, f'] := by
  subst hb
  have X := Blk.new W _ rfl #[.int .i64 f.k, .int .i64 f.n, .int .i64 f.a, u, .int .i64 f'.k, .int .i64 f'.n, .int .i64 f'.a, u'] t
  have hb := (Below.refl W.heap.size W).alloc (Nat.le_refl _) (.cells #[.int .i64 f.k, .int .i64 f.n, .int .i64 f.a, u, .int .i64 f'.k, .int .i64 f'.n, .int .i64 f'.a, u'] t)
  refine ⟨⟨_, 2, rfl, Nat.le_refl _, by simp [maxLen], fun _ => ⟨W.heap.size, 0, rfl, Nat.lt_succ_self _, fun i hi => ?_⟩⟩, fun g hg => by
    rcases List.mem_cons.1 hg with rfl | hg
    · exact hy
    · rw [List.mem_singleton.1 hg]; exact hy'⟩
  rcases (by simp at hi; omega : i = 0 ∨ i = 1) with rfl | rfl
  · exact ⟨X.cell 0 rfl, X.cell 1 rfl, X.cell 2 rfl, u, X.cell 3 rfl, (hu.below hb).more (by omega)⟩
  · exact ⟨X.cell 4 rfl, X.cell 5 rfl, X.cell 6 rfl, u', X.cell 7 rfl, (hu'.below hb).more (by omega)⟩
end Go.Proofs.Ytmlnkkalajnjhaa
