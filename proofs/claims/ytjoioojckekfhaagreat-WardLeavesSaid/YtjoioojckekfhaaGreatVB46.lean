/- Texts GdL, SrN, SrQ, SrS, SrT, SrW in one. For what each says in front of its theorems. -/
import Derived.Test.YtjoioojckekfhaaGreatVB44
import Derived.Test.YtjoioojckekfhaaGreatVB45
/-! ### GdL -/
namespace Go.Proofs.YtjoioojckekfhaaGreat
open Go.RowKit
open Clk (avg)
open Fr (St F)

/-- A law's frame. -/
def lawF (k s : Int) : F := ⟨k, ⟨0, s, 0⟩, []⟩
theorem lawF_is {k s : Int} (hk : 1 ≤ k ∧ k ≤ 3) (hs : 0 ≤ s ∧ s < 8) : (lawF k s).is = true := by
  rw [Fr.F.is_iff]
  refine ⟨hk, ?_, by simp [lawF]⟩
  rw [Fr.St.may_iff]
  simp only [lawF]
  omega
theorem lawF_ok {k s : Int} (hk : 1 ≤ k ∧ k ≤ 3) (hs : 0 ≤ s ∧ s < 8) : bytesL (lawF k s).bytes := Fr.F.bytes_ok (lawF_is hk hs) (fun x hx => by cases hx)
theorem z0_may : z0.may = true := by decide
theorem tells_law {k s : Int} (hk : 2 ≤ k ∧ k ≤ 3) (hs : 0 ≤ s ∧ s < 8) (n : Nat) : tells (lawF k s).bytes n = decide (s < (n : Int)) ∧ (Fr.res (lawF k s).bytes z0).st.s = s := by
  obtain ⟨h1, h2, h3⟩ := Fr.back (lawF_is ⟨by omega, hk.2⟩ hs) z0 z0_may
  have h4 : Fr.sumB (lawF k s).bytes z0 = true := h3.2 (fun h => by have : k = 1 := h; omega)
  have hr : Fr.res (lawF k s).bytes z0 = lawF k s := by
    unfold Fr.res
    rw [h1, h4, h2]
    simp only [Bool.and_self, if_true]
    rw [if_neg (show ¬ (lawF k s).k = 1 from fun h => by have : k = 1 := h; omega)]
  have he : Fr.err (lawF k s).bytes z0 = 0 := by simp [Fr.err, h1, h4]
  unfold tells
  rw [hr, he]
  refine ⟨?_, rfl⟩
  have e1 : decide ((lawF k s).k = 1) = false := decide_eq_false (show ¬ k = 1 by omega)
  rw [e1]
  simp only [decide_true, Bool.not_false, Bool.and_self, Bool.true_and]
  rfl
theorem tells_kd {l : List Int} (h : Fr.kd l = 1) (n : Nat) : tells l n = false := by
  unfold tells
  by_cases he : Fr.err l z0 = 0
  · have hr : (Fr.res l z0).k = 1 := by
      unfold Fr.err at he
      unfold Fr.res
      cases h1 : Fr.formB l z0
      · rw [h1] at he; simp at he
      · cases h2 : Fr.sumB l z0
        · rw [h1, h2] at he; simp at he
        · simpa [Fr.rd] using h
    simp [hr]
  · simp [he]
theorem tells_one (s : Int) (n : Nat) : tells (lawF 1 s).bytes n = false := tells_kd (by simp [Fr.kd, lawF, Fr.F.bytes, Fr.F.body, Fr.F.head]) n
theorem tells_short {l : List Int} (h : l.length < 4) (n : Nat) : tells l n = false := by
  have hf : Fr.formB l z0 = false := by
    rw [Bool.eq_false_iff]; intro e; simp only [Fr.formB, Bool.and_eq_true, decide_eq_true_eq] at e; omega
  unfold tells
  simp [Fr.err, hf]
theorem termV_nil (m : Int) : termV m [] = 0 := by
  unfold termV
  rw [show avg [] = 0 from rfl]
  split <;> rfl
/-- It was told the slot. -/
def G.told (s : G) (k : Nat) (at_ : Int) : G := { s with kn := true, slot := (k + 1) % s.n, now := at_, si := 0, l := [] }
theorem ended_told (s : G) (hkn : s.kn = false) {k : Int} (hk : 2 ≤ k ∧ k ≤ 3) (sl : Nat) (hsl : sl < s.n) (hn : s.n ≤ 8) (at_ : Int) : s.ended (lawF k sl).bytes at_ = s.told sl at_ := by
  obtain ⟨h1, h2⟩ := tells_law hk (s := (sl : Int)) ⟨by omega, by omega⟩ s.n
  unfold G.ended
  rw [hkn]
  simp only [Bool.false_eq_true, if_false]
  unfold G.learnt
  rw [h1, h2, if_pos (by simp; omega)]
  unfold G.on G.told
  simp only [Int.toNat_natCast]
  by_cases e : sl + 1 = s.n
  · rw [if_pos e, e, termV_nil, Int.add_zero, Nat.mod_self]
  · rw [if_neg e, Nat.mod_eq_of_lt (by omega)]
theorem ended_not (s : G) (hkn : s.kn = false) {l : List Int} (h : tells l s.n = false) (at_ : Int) : s.ended l at_ = s := by
  unfold G.ended G.learnt
  rw [hkn, h]
  rfl
/-- A new one of some(n, drift) may be told. -/
theorem newG_ok (n : Nat) (dr : Int) (h4 : 4 ≤ n) (h8 : n ≤ 8) (hd : 0 ≤ dr ∧ dr ≤ 200) (at_ : Int) (ha : -1000000 ≤ at_ ∧ at_ ≤ 1000000) : (newG (gsmT n dr)).Ok at_ := by
  have hn : (newG (gsmT n dr)).n = n := gsmL_length n
  have hl : (newG (gsmT n dr)).lm = 4 * dr + 9 := rfl
  refine ⟨by omega, by rw [hn]; show 0 < n; omega, (fun x hx => by cases hx), by rw [hl]; omega, ?_, ?_, ?_⟩
  · show _ ≤ (0 : Int) ∧ (0 : Int) ≤ _; omega
  · show _ ≤ at_ - 0 ∧ at_ - 0 ≤ _; omega
  · show 0 ≤ 1000; omega
end Go.Proofs.YtjoioojckekfhaaGreat

/-! ### SrN -/
namespace Go.Proofs.YtjoioojckekfhaaGreat
open Go.RowKit
open Tb (D T)

theorem rq_loud (l : List Int) (h : 0 < l.length) : allZ (rq l) (rn l) = false := lv_loud _ _ (by unfold rn; omega)
theorem tl_rq (l : List Int) (hl : bytesL l) (h : l.length ≤ 50) : tl (rn l) (rq l) = l := by
  have hr : rn l = 8 * l.length := by unfold rn; omega
  by_cases h0 : l.length = 0
  · have : l = [] := List.length_eq_zero_iff.1 h0
    subst this
    rfl
  · unfold tl
    rw [if_pos ⟨rq_loud l (by omega), by omega, lv_units _ _⟩, hr, Nat.mul_div_cancel_left _ (by omega)]
    refine Eq.trans (List.map_congr_left fun j hj => ?_) (lst_self l)
    exact packed_lv (fun k => l.getD k 0) j (hl.getD j)
theorem tk_rq (l : List Int) (h0 : 0 < l.length) : tk (rn l) (rq l) = 2 := by
  unfold tk
  rw [if_neg (by rw [rq_loud l h0]; simp), if_pos ⟨by unfold rn; omega, lv_units _ _⟩]
theorem tk_none (q : Nat → Int) : tk 0 q = 0 := rfl
theorem tl_none (q : Nat → Int) : tl 0 q = [] := rfl
/-- Senders as they begin. -/
def m0 (n : Nat) (bs : Nat → List Int) (a : Nat → Int) : List Sd := (List.range n).map (sd0 bs a)
theorem m0_length (n : Nat) (bs : Nat → List Int) (a : Nat → Int) : (m0 n bs a).length = n := by simp [m0]
theorem m0_get (n : Nat) (bs : Nat → List Int) (a : Nat → Int) (i : Nat) (h : i < n) : (m0 n bs a)[i]? = some (sd0 bs a i) := by simp [m0, h]
theorem sF_m0 (n : Nat) (bs : Nat → List Int) (a : Nat → Int) (i : Nat) (h : i < n) : sF (m0 n bs a) i = decide (0 < (bs i).length) := by
  unfold sF
  rw [m0_get n bs a i h]
  show decide (0 < rn (bs i)) = _
  rw [decide_eq_decide]
  unfold rn
  omega
theorem sA_m0 (n : Nat) (bs : Nat → List Int) (a : Nat → Int) (i : Nat) (h : i < n) : sA (m0 n bs a) i = a i := by
  unfold sA
  rw [m0_get n bs a i h]
  rfl
theorem hn_m0 (n : Nat) (bs : Nat → List Int) (a : Nat → Int) (i : Nat) (h : i < n) : hn (m0 n bs a) (i : Nat) = rn (bs i) := by
  unfold hn
  rw [if_neg (by omega), Int.toNat_natCast, m0_get n bs a i h]
  rfl
theorem hq_m0 (n : Nat) (bs : Nat → List Int) (a : Nat → Int) (i : Nat) (h : i < n) : hq (m0 n bs a) (i : Nat) = rq (bs i) := by
  unfold hq
  rw [Int.toNat_natCast, m0_get n bs a i h]
  rfl
theorem whenV_m0 (n : Nat) (bs : Nat → List Int) (a : Nat → Int) (i : Nat) (h : i < n) : whenV (m0 n bs a) (i : Nat) = a i := by
  unfold whenV
  rw [if_neg (by omega), Int.toNat_natCast, sA_m0 n bs a i h]
/-- One at place k, the others nothing. -/
def at1 {α : Type} (k : Nat) (x y : α) (i : Nat) : α := if i = k then x else y
/-- What a cold frame of node 0 is. -/
def cold0 : List Int := (lawF 3 0).bytes
theorem cold0_len : cold0.length ≤ 50 ∧ 0 < cold0.length := by decide +kernel
/-- The guardians behind it. -/
def S1 (n : Nat) : G := (newG (gsmT n 1)).told 0 0
end Go.Proofs.YtjoioojckekfhaaGreat

/-! ### SrQ -/
namespace Go.Proofs.YtjoioojckekfhaaGreat
open Go.RowKit
open Tb (D T)

/-- What is heard, where it lies. -/
def HAt (W : World) (b : Nat) (f : Nat → Hd) : Prop := W.rangeAt b 0 (hdC f).toList
theorem HAt.get {W : World} {b : Nat} {f : Nat → Hd} (h : HAt W b f) (k : Nat) (hk : k < 8) : W.cell? ⟨b, k * 5, none⟩ = some (.int .i64 (f k).A) ∧ W.cell? ⟨b, k * 5 + 1, none⟩ = some (.int .i64 (f k).B) ∧ W.cell? ⟨b, k * 5 + 2, none⟩ = some (f k).X ∧ W.cell? ⟨b, k * 5 + 3, none⟩ = some (f k).Y ∧ W.cell? ⟨b, k * 5 + 4, none⟩ = some (.int .i64 (f k).o) := by
  obtain ⟨g0, g1, g2, g3, g4⟩ := hdC_get f k hk
  have key : ∀ j v, (hdC f)[j]? = some v → W.cell? ⟨b, j, none⟩ = some v := fun j v hj => by
    have := h j v (by rw [Array.getElem?_toList]; exact hj)
    rwa [Nat.zero_add] at this
  exact ⟨key _ _ g0, key _ _ g1, key _ _ g2, key _ _ g3, key _ _ g4⟩
theorem HAt.below {W W' : World} {B b : Nat} {f : Nat → Hd} (h : HAt W b f) (hb : Below B W W') (hB : b < B) : HAt W' b f := fun j v hj => (hb.cell (p := ⟨b, 0 + j, none⟩) hB).trans (h j v hj)
theorem hdz_there (W : World) (b : Nat) (hb : b = W.heap.size) (t : TypeId) : (W.alloc (.cells (hdC fun _ => hdz) t)).there b 0 40 := fun j hj => by
  have X := Blk.new W b hb (hdC fun _ => hdz) t
  refine ⟨?_, X.frozen _⟩
  rw [Nat.zero_add, X.cell j (Array.getElem?_eq_getElem (by show j < 40; omega))]
  rfl
theorem hdz_lit : hdC (fun _ => hdz) = #[.int .i64 0, .int .i64 0, .slice none 0 0, .slice none 0 0, .int .i64 0, .int .i64 0, .int .i64 0, .slice none 0 0, .slice none 0 0, .int .i64 0, .int .i64 0, .int .i64 0, .slice none 0 0, .slice none 0 0, .int .i64 0, .int .i64 0, .int .i64 0, .slice none 0 0, .slice none 0 0, .int .i64 0, .int .i64 0, .int .i64 0, .slice none 0 0, .slice none 0 0, .int .i64 0, .int .i64 0, .int .i64 0, .slice none 0 0, .slice none 0 0, .int .i64 0, .int .i64 0, .int .i64 0, .slice none 0 0, .slice none 0 0, .int .i64 0, .int .i64 0, .int .i64 0, .slice none 0 0, .slice none 0 0, .int .i64 0] := rfl
/-- A slot's answers are laid down. -/
theorem hear_lies (W : World) (b : Nat) (hb : b = W.heap.size) (f : Nat → Hd) (t : TypeId) : HAt ((W.alloc (.cells (hdC fun _ => hdz) t)).setCells b 0 (hdC f).toList) b f ∧ Below W.heap.size W ((W.alloc (.cells (hdC fun _ => hdz) t)).setCells b 0 (hdC f).toList) := by
  subst hb
  refine ⟨World.rangeAt_setCells_same _ _ _ _ (hdz_there W _ rfl t), ?_⟩
  have h1 : Below W.heap.size W (W.alloc (.cells (hdC fun _ => hdz) t)) := (Below.refl _ _).alloc (Nat.le_refl _) _
  exact h1.trans ((Only.setCells (hdC f).toList 0 (Only.refl W.heap.size _)).below (Nat.le_refl _) (by simp))
theorem Hears.is {W : World} {Bs : Nat} {n : Nat} {bs : Nat → List Int} {c : Nat → Int} {r : Nat} {qa qb : Nat → Int} {p : Int} {a : Nat → Int} {i : Nat} {h : Hd} (H : Hears W Bs (m0 n bs c) r qa qb p a i h) (hi : i < n) : h.A = tk r qa ∧ h.B = tk r qb ∧ OwnsL W Bs h.X (tl r qa) ∧ OwnsL W Bs h.Y (tl r qb) := by
  have e : i < (m0 n bs c).length ∧ ((m0 n bs c)[i]?.map Sd.df) ≠ some true := ⟨by rw [m0_length]; exact hi, by rw [m0_get n bs c i hi]; simp [sd0]⟩
  obtain ⟨h1, h2, h3, h4, -⟩ := H
  rw [if_pos e] at h1 h2 h3 h4
  exact ⟨h1, h2, h3, h4⟩
theorem Hears.non {W : World} {Bs : Nat} {m : List Sd} {r : Nat} {qa qb : Nat → Int} {p : Int} {a : Nat → Int} {i : Nat} {h : Hd} (H : Hears W Bs m r qa qb p a i h) (hi : m.length ≤ i) : h.A = 0 ∧ h.B = 0 ∧ OwnsL W Bs h.X [] ∧ OwnsL W Bs h.Y [] ∧ h.o = 0 := by
  have e : ¬ (i < m.length ∧ (m[i]?.map Sd.df) ≠ some true) := fun h => by omega
  obtain ⟨h1, h2, h3, h4, h5⟩ := H
  rw [if_neg e] at h1 h2 h3 h4
  rw [if_neg (fun h => by omega)] at h5
  exact ⟨h1, h2, h3, h4, h5⟩
/-- A slot of a new star of n nodes in which node k alone sends. -/
theorem slot_new (n k : Nat) (l : List Int) (hk : k < n) (h4 : 4 ≤ n) (h8 : n ≤ 8) (hl : bytesL l) (h0 : 0 < l.length) (g : Nat) (A : Nat → Option Addr) (c : Nat → Nat) (W : World) (hG : GsAt W g n (newG (gsmT n 1)) (newG (gsmT n 1)))
    (hv : ∀ i, SeesL W W.heap.size (.slice (A i) (at1 k l [] i).length (c i)) (at1 k l [] i)) :
    Calls Tryz.prog 58 #[.pointer (some ⟨g, 0, none⟩), s8 fun i => .slice (A i) (at1 k l [] i).length (c i), ints8 fun _ => 0, .slice none 0 0] W fun e w' => ∃ f, e = .returned (.tuple #[.agg (hdC f), .int .i64 0]) ∧
      (∀ i, i < 8 → Hears w' W.heap.size (m0 n (at1 k l []) fun _ => 0) (rn l) (rq l) (rq l) (k : Nat) (fun _ => 0) i (f i)) ∧ GsAt w' g n ((newG (gsmT n 1)).ended (tl (rn l) (rq l)) 0) ((newG (gsmT n 1)).ended (tl (rn l) (rq l)) 0) ∧ Only g W w' := by
  have hS := slot_sr g n (newG (gsmT n 1)) A c (at1 k l []) (fun _ => 0) (.slice none 0 0) [] false (m0 n (at1 k l []) fun _ => 0) (k : Nat) W hG h8
      (fun i _ => ⟨hv i, by
        by_cases e : i = k
        · subst e; simp only [at1, if_true]; exact hl
        · simp only [at1, if_neg e]; exact fun x hx => by cases hx⟩) (fun i => by simp) SeesF.nil rfl (fun f hf => by cases hf) rfl rfl rfl
      (by
        unfold G.pass
        rw [show (newG (gsmT n 1)).kn = false from rfl]
        simp only [Bool.false_eq_true, if_false]
        refine fst_hit (k := k) (by show k < (gsmL n).length; rw [gsmL_length]; omega) ?_ (fun j hj => ?_)
        · rw [sF_m0 n _ _ k hk]
          simp only [at1, if_true]
          exact decide_eq_true h0
        · rw [sF_m0 n _ _ j (by omega)]
          simp only [at1, if_neg (show ¬ j = k by omega)]
          rfl)
      (.inr ⟨k, rfl, hk⟩) (by show (gsmL n).length ≤ 8; rw [gsmL_length]; exact h8) (by show 0 < 8; omega) (by unfold time newG; simp) (by show 0 ≤ (4 : Int) * 1 + 6 ∧ (4 : Int) * 1 + 6 ≤ _; omega)
      (by rw [show prV false (k : Int) = (k : Int) from rfl, whenV_m0 n _ _ k hk]; exact newG_ok n 1 h4 h8 (by omega) 0 (by omega))
  rw [show prV false (k : Int) = (k : Int) from rfl, hn_m0 n _ _ k hk, hq_m0 n _ _ k hk, whenV_m0 n _ _ k hk, show at1 k l [] k = l from if_pos rfl] at hS
  exact hS
theorem b12 : bytesL [1, 2] := fun x hx => by simp at hx; omega
theorem textL12 : textL [1, 2] = ⟨#[1, 2]⟩ := rfl
end Go.Proofs.YtjoioojckekfhaaGreat

/-! ### SrS -/
namespace Go.Proofs.YtjoioojckekfhaaGreat
open Go.RowKit
open Tb (D T)

theorem S1_slot (n : Nat) (h4 : 4 ≤ n) : (S1 n).slot = 1 := by
  show (0 + 1) % (gsmL n).length = 1
  rw [gsmL_length]
  exact Nat.mod_eq_of_lt (by omega)
theorem S1_ok (n : Nat) (h4 : 4 ≤ n) (h8 : n ≤ 8) (t : Int) (h : -1000000 ≤ t ∧ t ≤ 1000000) : (S1 n).Ok t := by
  have hl : (S1 n).n = n := gsmL_length n
  refine ⟨by omega, by rw [S1_slot n h4, hl]; omega, (fun x hx => by cases hx), ?_, ?_, ?_, ?_⟩
  · show 0 ≤ (4 : Int) * 1 + 9 ∧ (4 : Int) * 1 + 9 ≤ 1099511627776; omega
  · show _ ≤ (0 : Int) ∧ (0 : Int) ≤ _; omega
  · show _ ≤ t - 0 ∧ t - 0 ≤ _; omega
  · show 0 ≤ 1000; omega
/-- Is the slot's node heard? -/
def on1 (s : Sd) : Bool := decide (0 < s.n) && nearB s.at_ 0 10
theorem pass_s1 (n : Nat) (h4 : 4 ≤ n) (m : List Sd) (s : Sd) (h : m[1]? = some s) : (S1 n).pass (sF m) (sA m) = if on1 s then ((1 : Nat) : Int) else -1 := by
  unfold G.pass
  rw [show (S1 n).kn = true from rfl, S1_slot n h4]
  have e1 : sF m 1 = decide (0 < s.n) := by unfold sF; rw [h]
  have e2 : sA m 1 = s.at_ := by unfold sA; rw [h]
  rw [e1, e2]
  rfl
section
variable {n g : Nat} {A : Nat → Option Addr} {c : Nat → Nat} {bs : Nat → List Int} {a : Nat → Int} {v : Value} {fl : List Ft} {m : List Sd} {s : Sd} {W : World}
/-- The slot's node is heard. -/
theorem slot_heard (h4 : 4 ≤ n) (h8 : n ≤ 8) (hG : GsAt W g n (S1 n) (S1 n)) (hv : ∀ i, i < 8 → SeesL W W.heap.size (.slice (A i) (bs i).length (c i)) (bs i) ∧ bytesL (bs i)) (ha : ∀ i, -1000000 ≤ a i ∧ a i ≤ 1000000) (hf : SeesF W W.heap.size v fl) (his : ftIs fl = true) (h7 : ∀ f ∈ fl, f.k ≠ 7)
    (hb0 : fl.any (blocks · 0) = false) (hb1 : fl.any (blocks · 1) = false) (hm : strikes fl (m0 n bs a) = m) (h1 : m[1]? = some s) (hs : -1000000 ≤ s.at_ ∧ s.at_ ≤ 1000000) (hq : on1 s = true) :
    Calls Tryz.prog 58 #[.pointer (some ⟨g, 0, none⟩), s8 fun i => .slice (A i) (bs i).length (c i), ints8 a, v] W fun e w' => ∃ f, e = .returned (.tuple #[.agg (hdC f), .int .i64 0]) ∧
      (∀ i, i < 8 → Hears w' W.heap.size m s.n s.q s.q ((1 : Nat) : Int) a i (f i)) ∧ GsAt w' g n ((S1 n).ended (tl s.n s.q) s.at_) ((S1 n).ended (tl s.n s.q) s.at_) ∧ Only g W w' := by
  have e1 : hn m (prV false ((1 : Nat) : Int)) = s.n := by
    show hn m ((1 : Nat) : Int) = s.n
    unfold hn; rw [if_neg (by omega), Int.toNat_natCast, h1]
  have e2 : Go.Proofs.YtjoioojckekfhaaGreat.hq m ((1 : Nat) : Int) = s.q := by unfold Go.Proofs.YtjoioojckekfhaaGreat.hq; rw [Int.toNat_natCast, h1]
  have e3 : whenV m (prV false ((1 : Nat) : Int)) = s.at_ := by
    show whenV m ((1 : Nat) : Int) = s.at_
    unfold whenV sA; rw [if_neg (by omega), Int.toNat_natCast, h1]
  have hS := slot_sr g n (S1 n) A c bs a v fl false m ((1 : Nat) : Int) W hG h8 hv ha hf his h7 hb0 hb1 hm (by rw [pass_s1 n h4 m s h1, hq]; rfl) (.inr ⟨1, rfl, by omega⟩)
    (by show (gsmL n).length ≤ 8; rw [gsmL_length]; exact h8) (by rw [S1_slot n h4]; omega) (by unfold time; show _ ≤ (0 : Int) ∧ (0 : Int) ≤ _; omega) (by show 0 ≤ (4 : Int) * 1 + 6 ∧ (4 : Int) * 1 + 6 ≤ _; omega)
    (by rw [e3]; exact S1_ok n h4 h8 _ hs)
  rw [e1, e2, e3] at hS
  exact hS
/-- Nobody is heard. -/
theorem slot_quiet (bl : Bool) (h4 : 4 ≤ n) (h8 : n ≤ 8) (hG : GsAt W g n (S1 n) (S1 n)) (hv : ∀ i, i < 8 → SeesL W W.heap.size (.slice (A i) (bs i).length (c i)) (bs i) ∧ bytesL (bs i)) (ha : ∀ i, -1000000 ≤ a i ∧ a i ≤ 1000000) (hf : SeesF W W.heap.size v fl) (his : ftIs fl = true) (h7 : ∀ f ∈ fl, f.k ≠ 7)
    (hb0 : fl.any (blocks · 0) = bl) (hb1 : fl.any (blocks · 1) = bl) (hm : strikes fl (m0 n bs a) = m) (h1 : m[1]? = some s) (hq : bl = true ∨ on1 s = false) :
    Calls Tryz.prog 58 #[.pointer (some ⟨g, 0, none⟩), s8 fun i => .slice (A i) (bs i).length (c i), ints8 a, v] W fun e w' => ∃ f r, e = .returned (.tuple #[.agg (hdC f), .int .i64 0]) ∧
      (∀ i, i < 8 → Hears w' W.heap.size m 0 r r (-1) a i (f i)) ∧ GsAt w' g n ((S1 n).ended [] 0) ((S1 n).ended [] 0) ∧ Only g W w' := by
  have ep : prV bl (if on1 s then ((1 : Nat) : Int) else -1) = -1 := by
    rcases hq with rfl | h
    · rfl
    · rw [h]; cases bl <;> rfl
  have hS := slot_sr g n (S1 n) A c bs a v fl bl m (if on1 s then ((1 : Nat) : Int) else -1) W hG h8 hv ha hf his h7 hb0 hb1 hm (pass_s1 n h4 m s h1) (by
      by_cases h : on1 s = true
      · rw [h]; exact .inr ⟨1, rfl, by omega⟩
      · rw [if_neg h]; exact .inl rfl)
    (by show (gsmL n).length ≤ 8; rw [gsmL_length]; exact h8) (by rw [S1_slot n h4]; omega) (by unfold time; show _ ≤ (0 : Int) ∧ (0 : Int) ≤ _; omega) (by show 0 ≤ (4 : Int) * 1 + 6 ∧ (4 : Int) * 1 + 6 ≤ _; omega)
    (by rw [ep]; exact S1_ok n h4 h8 _ (by show _ ≤ (0 : Int) ∧ (0 : Int) ≤ _; omega))
  rw [ep] at hS
  refine hS.mono ?_
  rintro e w' ⟨f, rfl, hH, hG', hO⟩
  exact ⟨f, _, rfl, hH, hG', hO⟩
end
/-- One fault in memory. -/
theorem SeesF.one (W : World) (b : Nat) (hb : b = W.heap.size) (t : TypeId) (f : Ft) (u : Value) (hu : SeesL W W.heap.size u f.d) (hy : bytesL f.d) :
    SeesF (W.alloc (.cells #[.int .i64 f.k, .int .i64 f.n, .int .i64 f.a, u] t)) (W.heap.size + 1) (.slice (some ⟨b, 0, none⟩) 1 1) [f] := by
  subst hb
  have X := Blk.new W _ rfl #[.int .i64 f.k, .int .i64 f.n, .int .i64 f.a, u] t
  refine ⟨⟨_, 1, rfl, Nat.le_refl _, by simp [maxLen], fun _ => ⟨W.heap.size, 0, rfl, Nat.lt_succ_self _, fun i hi => ?_⟩⟩, fun g hg => by rw [List.mem_singleton.1 hg]; exact hy⟩
  obtain rfl : i = 0 := by simpa using hi
  exact ⟨X.cell 0 rfl, X.cell 1 rfl, X.cell 2 rfl, u, X.cell 3 rfl, (hu.below ((Below.refl _ _).alloc (Nat.le_refl _) _)).more (by omega)⟩
/-- Two faults in memory. -/
theorem SeesF.two (W : World) (b : Nat) (hb : b = W.heap.size) (t : TypeId) (f f' : Ft) (u u' : Value) (hu : SeesL W W.heap.size u f.d) (hy : bytesL f.d) (hu' : SeesL W W.heap.size u' f'.d) (hy' : bytesL f'.d) :
    SeesF (W.alloc (.cells #[.int .i64 f.k, .int .i64 f.n, .int .i64 f.a, u, .int .i64 f'.k, .int .i64 f'.n, .int .i64 f'.a, u'] t)) (W.heap.size + 1) (.slice (some ⟨b, 0, none⟩) 2 2) [f, f'] := by
  subst hb
  have X := Blk.new W _ rfl #[.int .i64 f.k, .int .i64 f.n, .int .i64 f.a, u, .int .i64 f'.k, .int .i64 f'.n, .int .i64 f'.a, u'] t
  have hb := (Below.refl W.heap.size W).alloc (Nat.le_refl _) (.cells #[.int .i64 f.k, .int .i64 f.n, .int .i64 f.a, u, .int .i64 f'.k, .int .i64 f'.n, .int .i64 f'.a, u'] t)
  refine ⟨⟨_, 2, rfl, Nat.le_refl _, by simp [maxLen], fun _ => ⟨W.heap.size, 0, rfl, Nat.lt_succ_self _, fun i hi => ?_⟩⟩, fun g hg => by
    rcases List.mem_cons.1 hg with rfl | hg
    · exact hy
    · rw [List.mem_singleton.1 hg]; exact hy'⟩
  rcases (by simp at hi; omega : i = 0 ∨ i = 1) with rfl | rfl
  · exact ⟨X.cell 0 rfl, X.cell 1 rfl, X.cell 2 rfl, u, X.cell 3 rfl, (hu.below hb).more (by omega)⟩
  · exact ⟨X.cell 4 rfl, X.cell 5 rfl, X.cell 6 rfl, u', X.cell 7 rfl, (hu'.below hb).more (by omega)⟩
end Go.Proofs.YtjoioojckekfhaaGreat

/-! ### SrT -/
namespace Go.Proofs.YtjoioojckekfhaaGreat
open Go.RowKit

theorem strikeL_other (f : Ft) (m : List Sd) (i : Nat) (hi : f.n.toNat ≠ i) : (strikeL f m)[i]? = m[i]? := by
  unfold strikeL
  split
  · rfl
  · split
    · rw [List.getElem?_set_ne hi]
    · rfl
theorem Hears.quiet {W : World} {Bs : Nat} {m : List Sd} {r q : Nat → Int} {p : Int} {a : Nat → Int} {i : Nat} {h : Hd} (H : Hears W Bs m 0 r q p a i h) : h.A = 0 ∧ h.B = 0 := by
  refine ⟨?_, ?_⟩
  · rw [H.A]; split <;> rfl
  · rw [H.B]; split <;> rfl
theorem Hears.forms {W : World} {Bs : Nat} {m : List Sd} {n : Nat} {r q : Nat → Int} {p : Int} {a : Nat → Int} {i : Nat} {h : Hd} (H : Hears W Bs m n r q p a i h) : (∃ A n c, h.X = .slice A n c) ∧ ∃ A n c, h.Y = .slice A n c := by
  refine ⟨?_, ?_⟩
  · obtain ⟨A, c, h, -⟩ := H.X.sees.at_; exact ⟨A, _, c, h⟩
  · obtain ⟨A, c, h, -⟩ := H.Y.sees.at_; exact ⟨A, _, c, h⟩
theorem strikeL_same (f : Ft) (m : List Sd) (i : Nat) (s : Sd) (h4 : f.k ≠ 4) (hi : f.n.toNat = i) (h : m[i]? = some s) : (strikeL f m)[i]? = some (s.strike f) := by
  unfold strikeL
  rw [if_neg h4, hi, h]
  exact list_set_get m i _ s h
theorem Hears.quietX {W : World} {Bs : Nat} {m : List Sd} {r q : Nat → Int} {p : Int} {a : Nat → Int} {i : Nat} {h : Hd} (H : Hears W Bs m 0 r q p a i h) : OwnsL W Bs h.X [] ∧ OwnsL W Bs h.Y [] := by
  obtain ⟨-, -, h3, h4, -⟩ := H
  refine ⟨?_, ?_⟩
  · split at h3 <;> exact h3
  · split at h4 <;> exact h4
end Go.Proofs.YtjoioojckekfhaaGreat

/-! ### SrW -/
namespace Go.Proofs.YtjoioojckekfhaaGreat
open Go.RowKit
open Tb (D T)
open Fr (St F)

/-- A cold frame of node i. -/
def coldF (i : Nat) : F := ⟨3, ⟨0, (i : Nat), (2 ^ i : Nat)⟩, []⟩
theorem coldF_is {i : Nat} (hi : i < 8) : (coldF i).is = true := by
  rcases (by omega : i = 0 ∨ i = 1 ∨ i = 2 ∨ i = 3 ∨ i = 4 ∨ i = 5 ∨ i = 6 ∨ i = 7) with rfl | rfl | rfl | rfl | rfl | rfl | rfl | rfl <;> decide
theorem coldF_ok {i : Nat} (hi : i < 8) : bytesL (coldF i).bytes := Fr.F.bytes_ok (coldF_is hi) (fun x hx => by cases hx)
theorem coldF_len {i : Nat} (hi : i < 8) : (coldF i).bytes.length ≤ 50 ∧ 0 < (coldF i).bytes.length := by
  rcases (by omega : i = 0 ∨ i = 1 ∨ i = 2 ∨ i = 3 ∨ i = 4 ∨ i = 5 ∨ i = 6 ∨ i = 7) with rfl | rfl | rfl | rfl | rfl | rfl | rfl | rfl <;> decide +kernel
theorem tells_cold {i : Nat} (hi : i < 8) (n : Nat) : tells (coldF i).bytes n = decide (((i : Nat) : Int) < (n : Int)) ∧ (Fr.res (coldF i).bytes z0).st.s = (i : Nat) := by
  obtain ⟨h1, h2, h3⟩ := Fr.back (coldF_is hi) z0 z0_may
  have h4 : Fr.sumB (coldF i).bytes z0 = true := h3.2 (fun h => absurd h (by show ¬ (3 : Int) = 1; omega))
  have hr : Fr.res (coldF i).bytes z0 = coldF i := by
    unfold Fr.res
    rw [h1, h4, h2]
    simp only [Bool.and_self, if_true]
    rw [if_neg (show ¬ (coldF i).k = 1 by show ¬ (3 : Int) = 1; omega)]
  have he : Fr.err (coldF i).bytes z0 = 0 := by simp [Fr.err, h1, h4]
  unfold tells
  rw [hr, he]
  refine ⟨?_, rfl⟩
  have e1 : decide ((coldF i).k = 1) = false := decide_eq_false (show ¬ (3 : Int) = 1 by omega)
  rw [e1]
  simp only [decide_true, Bool.not_false, Bool.and_self, Bool.true_and]
  rfl
theorem ended_cold (s : G) (hkn : s.kn = false) (sl : Nat) (hsl : sl < s.n) (hn : s.n ≤ 8) (at_ : Int) : s.ended (coldF sl).bytes at_ = s.told sl at_ := by
  obtain ⟨h1, h2⟩ := tells_cold (i := sl) (by omega) s.n
  unfold G.ended
  rw [hkn]
  simp only [Bool.false_eq_true, if_false]
  unfold G.learnt
  rw [h1, h2, if_pos (by simp; omega)]
  unfold G.on G.told
  simp only [Int.toNat_natCast]
  by_cases e : sl + 1 = s.n
  · rw [if_pos e, e, termV_nil, Int.add_zero, Nat.mod_self]
  · rw [if_neg e, Nat.mod_eq_of_lt (by omega)]
/-- What of several that begin all hear: the first one's. -/
theorem slot_first (n k : Nat) (bs : Nat → List Int) (hk : k < n) (h4 : 4 ≤ n) (h8 : n ≤ 8) (hl : ∀ i, bytesL (bs i)) (h0 : 0 < (bs k).length) (hj : ∀ j, j < k → bs j = []) (g : Nat) (A : Nat → Option Addr) (c : Nat → Nat) (W : World) (hG : GsAt W g n (newG (gsmT n 1)) (newG (gsmT n 1)))
    (hv : ∀ i, i < 8 → SeesL W W.heap.size (.slice (A i) (bs i).length (c i)) (bs i)) :
    Calls Tryz.prog 58 #[.pointer (some ⟨g, 0, none⟩), s8 fun i => .slice (A i) (bs i).length (c i), ints8 fun _ => 0, .slice none 0 0] W fun e w' => ∃ f, e = .returned (.tuple #[.agg (hdC f), .int .i64 0]) ∧
      (∀ i, i < 8 → Hears w' W.heap.size (m0 n bs fun _ => 0) (rn (bs k)) (rq (bs k)) (rq (bs k)) (k : Nat) (fun _ => 0) i (f i)) ∧ GsAt w' g n ((newG (gsmT n 1)).ended (tl (rn (bs k)) (rq (bs k))) 0) ((newG (gsmT n 1)).ended (tl (rn (bs k)) (rq (bs k))) 0) ∧ Only g W w' := by
  have hS := slot_sr g n (newG (gsmT n 1)) A c bs (fun _ => 0) (.slice none 0 0) [] false (m0 n bs fun _ => 0) (k : Nat) W hG h8
      (fun i hi => ⟨hv i hi, hl i⟩) (fun i => by simp) SeesF.nil rfl (fun f hf => by cases hf) rfl rfl rfl
      (by
        unfold G.pass
        rw [show (newG (gsmT n 1)).kn = false from rfl]
        simp only [Bool.false_eq_true, if_false]
        refine fst_hit (k := k) (by show k < (gsmL n).length; rw [gsmL_length]; omega) ?_ (fun j hj' => ?_)
        · rw [sF_m0 n _ _ k hk]
          exact decide_eq_true h0
        · rw [sF_m0 n _ _ j (by omega), hj j hj']
          rfl)
      (.inr ⟨k, rfl, hk⟩) (by show (gsmL n).length ≤ 8; rw [gsmL_length]; exact h8) (by show 0 < 8; omega) (by unfold time newG; simp) (by show 0 ≤ (4 : Int) * 1 + 6 ∧ (4 : Int) * 1 + 6 ≤ _; omega)
      (by rw [show prV false (k : Int) = (k : Int) from rfl, whenV_m0 n _ _ k hk]; exact newG_ok n 1 h4 h8 (by omega) 0 (by omega))
  rw [show prV false (k : Int) = (k : Int) from rfl, hn_m0 n _ _ k hk, hq_m0 n _ _ k hk, whenV_m0 n _ _ k hk] at hS
  exact hS
/-- Nobody begins. -/
theorem slot_none (n : Nat) (bs : Nat → List Int) (h4 : 4 ≤ n) (h8 : n ≤ 8) (hl : ∀ i, bytesL (bs i)) (hj : ∀ j, j < n → bs j = []) (g : Nat) (A : Nat → Option Addr) (c : Nat → Nat) (W : World) (hG : GsAt W g n (newG (gsmT n 1)) (newG (gsmT n 1)))
    (hv : ∀ i, i < 8 → SeesL W W.heap.size (.slice (A i) (bs i).length (c i)) (bs i)) :
    Calls Tryz.prog 58 #[.pointer (some ⟨g, 0, none⟩), s8 fun i => .slice (A i) (bs i).length (c i), ints8 fun _ => 0, .slice none 0 0] W fun e w' => ∃ f r, e = .returned (.tuple #[.agg (hdC f), .int .i64 0]) ∧
      (∀ i, i < 8 → Hears w' W.heap.size (m0 n bs fun _ => 0) 0 r r (-1) (fun _ => 0) i (f i)) ∧ GsAt w' g n (newG (gsmT n 1)) (newG (gsmT n 1)) ∧ Only g W w' := by
  have hS := slot_sr g n (newG (gsmT n 1)) A c bs (fun _ => 0) (.slice none 0 0) [] false (m0 n bs fun _ => 0) (-1) W hG h8
      (fun i hi => ⟨hv i hi, hl i⟩) (fun i => by simp) SeesF.nil rfl (fun f hf => by cases hf) rfl rfl rfl
      (by
        unfold G.pass
        rw [show (newG (gsmT n 1)).kn = false from rfl]
        simp only [Bool.false_eq_true, if_false]
        refine fst_none (fun j hj' => ?_)
        have hj' : j < n := by rw [← gsmL_length n]; exact hj'
        rw [sF_m0 n _ _ j hj', hj j hj']
        rfl)
      (.inl rfl) (by show (gsmL n).length ≤ 8; rw [gsmL_length]; exact h8) (by show 0 < 8; omega) (by unfold time newG; simp) (by show 0 ≤ (4 : Int) * 1 + 6 ∧ (4 : Int) * 1 + 6 ≤ _; omega)
      (by rw [show prV false (-1 : Int) = (-1 : Int) from rfl, show whenV (m0 n bs fun _ => 0) (-1) = 0 from rfl]; exact newG_ok n 1 h4 h8 (by omega) 0 (by omega))
  rw [show prV false (-1 : Int) = (-1 : Int) from rfl, show hn (m0 n bs fun _ => 0) (-1) = 0 from rfl, show whenV (m0 n bs fun _ => 0) (-1) = 0 from rfl, tl_none, ended_not _ rfl (tells_short (by simp) _)] at hS
  refine hS.mono ?_
  rintro e w' ⟨f, rfl, hH, hG', hO⟩
  exact ⟨f, _, rfl, hH, hG', hO⟩
end Go.Proofs.YtjoioojckekfhaaGreat
