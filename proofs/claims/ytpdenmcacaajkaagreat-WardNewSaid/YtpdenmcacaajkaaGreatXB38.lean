/- Texts SrN, SrQ, SrS, SrT, SrW, WdA, WdN in one. For what each says in front of its theorems. -/
import Derived.Test.YtpdenmcacaajkaaGreatXB6
import Derived.Test.YtpdenmcacaajkaaGreatXB25
import Derived.Test.YtpdenmcacaajkaaGreatXB36
import Derived.Test.YtpdenmcacaajkaaGreatXB37
/-! ### SrN -/
namespace Go.Proofs.YtpdenmcacaajkaaGreat
open Go.RowKit
open Tb (D T)

theorem rq_loud (l : List Int) (h : 0 < l.length) : allZ (rq l) (rn l) = false := lv_loud _ _ (by unfold rn; omega)
theorem tl_rq (l : List Int) (hl : bytesL l) (h : l.length ≤ 50) : tl (rn l) (rq l) = l := by
  have hr : rn l = 8 * l.length := by unfold rn; omega
  by_cases h0 : l.length = 0
  · have : l = [] := List.length_eq_zero_iff.1 h0
    subst this
    rfl
  · unfold tl
    rw [if_pos ⟨rq_loud l (by omega), by omega, lv_units _ _⟩, hr, Nat.mul_div_cancel_left _ (by omega)]
    refine Eq.trans (List.map_congr_left fun j hj => ?_) (lst_self l)
    exact packed_lv (fun k => l.getD k 0) j (hl.getD j)
theorem tk_rq (l : List Int) (h0 : 0 < l.length) : tk (rn l) (rq l) = 2 := by
  unfold tk
  rw [if_neg (by rw [rq_loud l h0]; simp), if_pos ⟨by unfold rn; omega, lv_units _ _⟩]
theorem tk_none (q : Nat → Int) : tk 0 q = 0 := rfl
theorem tl_none (q : Nat → Int) : tl 0 q = [] := rfl
/-- Senders as they begin. -/
def m0 (n : Nat) (bs : Nat → List Int) (a : Nat → Int) : List Sd := (List.range n).map (sd0 bs a)
theorem m0_length (n : Nat) (bs : Nat → List Int) (a : Nat → Int) : (m0 n bs a).length = n := by simp [m0]
theorem m0_get (n : Nat) (bs : Nat → List Int) (a : Nat → Int) (i : Nat) (h : i < n) : (m0 n bs a)[i]? = some (sd0 bs a i) := by simp [m0, h]
theorem sF_m0 (n : Nat) (bs : Nat → List Int) (a : Nat → Int) (i : Nat) (h : i < n) : sF (m0 n bs a) i = decide (0 < (bs i).length) := by
  unfold sF
  rw [m0_get n bs a i h]
  show decide (0 < rn (bs i)) = _
  rw [decide_eq_decide]
  unfold rn
  omega
theorem sA_m0 (n : Nat) (bs : Nat → List Int) (a : Nat → Int) (i : Nat) (h : i < n) : sA (m0 n bs a) i = a i := by
  unfold sA
  rw [m0_get n bs a i h]
  rfl
theorem hn_m0 (n : Nat) (bs : Nat → List Int) (a : Nat → Int) (i : Nat) (h : i < n) : hn (m0 n bs a) (i : Nat) = rn (bs i) := by
  unfold hn
  rw [if_neg (by omega), Int.toNat_natCast, m0_get n bs a i h]
  rfl
theorem hq_m0 (n : Nat) (bs : Nat → List Int) (a : Nat → Int) (i : Nat) (h : i < n) : hq (m0 n bs a) (i : Nat) = rq (bs i) := by
  unfold hq
  rw [Int.toNat_natCast, m0_get n bs a i h]
  rfl
theorem whenV_m0 (n : Nat) (bs : Nat → List Int) (a : Nat → Int) (i : Nat) (h : i < n) : whenV (m0 n bs a) (i : Nat) = a i := by
  unfold whenV
  rw [if_neg (by omega), Int.toNat_natCast, sA_m0 n bs a i h]
/-- The guardians behind it. -/
def S1 (n : Nat) : G := (newG (gsmT n 1)).told 0 0
end Go.Proofs.YtpdenmcacaajkaaGreat

/-! ### SrQ -/
namespace Go.Proofs.YtpdenmcacaajkaaGreat
open Go.RowKit
open Tb (D T)

/-- What is heard, where it lies. -/
def HAt (W : World) (b : Nat) (f : Nat → Hd) : Prop := W.rangeAt b 0 (hdC f).toList
theorem HAt.get {W : World} {b : Nat} {f : Nat → Hd} (h : HAt W b f) (k : Nat) (hk : k < 8) : W.cell? ⟨b, k * 5, none⟩ = some (.int .i64 (f k).A) ∧ W.cell? ⟨b, k * 5 + 1, none⟩ = some (.int .i64 (f k).B) ∧ W.cell? ⟨b, k * 5 + 2, none⟩ = some (f k).X ∧ W.cell? ⟨b, k * 5 + 3, none⟩ = some (f k).Y ∧ W.cell? ⟨b, k * 5 + 4, none⟩ = some (.int .i64 (f k).o) := by
  obtain ⟨g0, g1, g2, g3, g4⟩ := hdC_get f k hk
  have key : ∀ j v, (hdC f)[j]? = some v → W.cell? ⟨b, j, none⟩ = some v := fun j v hj => by
    have := h j v (by rw [Array.getElem?_toList]; exact hj)
    rwa [Nat.zero_add] at this
  exact ⟨key _ _ g0, key _ _ g1, key _ _ g2, key _ _ g3, key _ _ g4⟩
theorem HAt.below {W W' : World} {B b : Nat} {f : Nat → Hd} (h : HAt W b f) (hb : Below B W W') (hB : b < B) : HAt W' b f := fun j v hj => (hb.cell (p := ⟨b, 0 + j, none⟩) hB).trans (h j v hj)
theorem hdz_there (W : World) (b : Nat) (hb : b = W.heap.size) (t : TypeId) : (W.alloc (.cells (hdC fun _ => hdz) t)).there b 0 40 := fun j hj => by
  have X := Blk.new W b hb (hdC fun _ => hdz) t
  refine ⟨?_, X.frozen _⟩
  rw [Nat.zero_add, X.cell j (Array.getElem?_eq_getElem (by show j < 40; omega))]
  rfl
theorem hdz_lit : hdC (fun _ => hdz) = #[.int .i64 0, .int .i64 0, .slice none 0 0, .slice none 0 0, .int .i64 0, .int .i64 0, .int .i64 0, .slice none 0 0, .slice none 0 0, .int .i64 0, .int .i64 0, .int .i64 0, .slice none 0 0, .slice none 0 0, .int .i64 0, .int .i64 0, .int .i64 0, .slice none 0 0, .slice none 0 0, .int .i64 0, .int .i64 0, .int .i64 0, .slice none 0 0, .slice none 0 0, .int .i64 0, .int .i64 0, .int .i64 0, .slice none 0 0, .slice none 0 0, .int .i64 0, .int .i64 0, .int .i64 0, .slice none 0 0, .slice none 0 0, .int .i64 0, .int .i64 0, .int .i64 0, .slice none 0 0, .slice none 0 0, .int .i64 0] := rfl
/-- A slot's answers are laid down. -/
theorem hear_lies (W : World) (b : Nat) (hb : b = W.heap.size) (f : Nat → Hd) (t : TypeId) : HAt ((W.alloc (.cells (hdC fun _ => hdz) t)).setCells b 0 (hdC f).toList) b f ∧ Below W.heap.size W ((W.alloc (.cells (hdC fun _ => hdz) t)).setCells b 0 (hdC f).toList) := by
  subst hb
  refine ⟨World.rangeAt_setCells_same _ _ _ _ (hdz_there W _ rfl t), ?_⟩
  have h1 : Below W.heap.size W (W.alloc (.cells (hdC fun _ => hdz) t)) := (Below.refl _ _).alloc (Nat.le_refl _) _
  exact h1.trans ((Only.setCells (hdC f).toList 0 (Only.refl W.heap.size _)).below (Nat.le_refl _) (by simp))
theorem Hears.is {W : World} {Bs : Nat} {n : Nat} {bs : Nat → List Int} {c : Nat → Int} {r : Nat} {qa qb : Nat → Int} {p : Int} {a : Nat → Int} {i : Nat} {h : Hd} (H : Hears W Bs (m0 n bs c) r qa qb p a i h) (hi : i < n) : h.A = tk r qa ∧ h.B = tk r qb ∧ OwnsL W Bs h.X (tl r qa) ∧ OwnsL W Bs h.Y (tl r qb) := by
  have e : i < (m0 n bs c).length ∧ ((m0 n bs c)[i]?.map Sd.df) ≠ some true := ⟨by rw [m0_length]; exact hi, by rw [m0_get n bs c i hi]; simp [sd0]⟩
  obtain ⟨h1, h2, h3, h4, -⟩ := H
  rw [if_pos e] at h1 h2 h3 h4
  exact ⟨h1, h2, h3, h4⟩
end Go.Proofs.YtpdenmcacaajkaaGreat

/-! ### SrS -/
namespace Go.Proofs.YtpdenmcacaajkaaGreat
open Go.RowKit
open Tb (D T)

section
variable {n g : Nat} {A : Nat → Option Addr} {c : Nat → Nat} {bs : Nat → List Int} {a : Nat → Int} {v : Value} {fl : List Ft} {m : List Sd} {s : Sd} {W : World}
end
/-- One fault in memory. -/
theorem SeesF.one (W : World) (b : Nat) (hb : b = W.heap.size) (t : TypeId) (f : Ft) (u : Value) (hu : SeesL W W.heap.size u f.d) (hy : bytesL f.d) :
    SeesF (W.alloc (.cells #[.int .i64 f.k, .int .i64 f.n, .int .i64 f.a, u] t)) (W.heap.size + 1) (.slice (some ⟨b, 0, none⟩) 1 1) [f] := by
  subst hb
  have X := Blk.new W _ rfl #[.int .i64 f.k, .int .i64 f.n, .int .i64 f.a, u] t
  refine ⟨⟨_, 1, rfl, Nat.le_refl _, by simp [maxLen], fun _ => ⟨W.heap.size, 0, rfl, Nat.lt_succ_self _, fun i hi => ?_⟩⟩, fun g hg => by rw [List.mem_singleton.1 hg]; exact hy⟩
  obtain rfl : i = 0 := by simpa using hi
  exact ⟨X.cell 0 rfl, X.cell 1 rfl, X.cell 2 rfl, u, X.cell 3 rfl, (hu.below ((Below.refl _ _).alloc (Nat.le_refl _) _)).more (by omega)⟩
/-- Two faults in memory. -/
theorem SeesF.two (W : World) (b : Nat) (hb : b = W.heap.size) (t : TypeId) (f f' : Ft) (u u' : Value) (hu : SeesL W W.heap.size u f.d) (hy : bytesL f.d) (hu' : SeesL W W.heap.size u' f'.d) (hy' : bytesL f'.d) :
    SeesF (W.alloc (.cells #[.int .i64 f.k, .int .i64 f.n, .int .i64 f.a, u, .int .i64 f'.k, .int .i64 f'.n, .int .i64 f'.a, u'] t)) (W.heap.size + 1) (.slice (some ⟨b, 0, none⟩) 2 2) [f, f'] := by
  subst hb
  have X := Blk.new W _ rfl #[.int .i64 f.k, .int .i64 f.n, .int .i64 f.a, u, .int .i64 f'.k, .int .i64 f'.n, .int .i64 f'.a, u'] t
  have hb := (Below.refl W.heap.size W).alloc (Nat.le_refl _) (.cells #[.int .i64 f.k, .int .i64 f.n, .int .i64 f.a, u, .int .i64 f'.k, .int .i64 f'.n, .int .i64 f'.a, u'] t)
  refine ⟨⟨_, 2, rfl, Nat.le_refl _, by simp [maxLen], fun _ => ⟨W.heap.size, 0, rfl, Nat.lt_succ_self _, fun i hi => ?_⟩⟩, fun g hg => by
    rcases List.mem_cons.1 hg with rfl | hg
    · exact hy
    · rw [List.mem_singleton.1 hg]; exact hy'⟩
  rcases (by simp at hi; omega : i = 0 ∨ i = 1) with rfl | rfl
  · exact ⟨X.cell 0 rfl, X.cell 1 rfl, X.cell 2 rfl, u, X.cell 3 rfl, (hu.below hb).more (by omega)⟩
  · exact ⟨X.cell 4 rfl, X.cell 5 rfl, X.cell 6 rfl, u', X.cell 7 rfl, (hu'.below hb).more (by omega)⟩
end Go.Proofs.YtpdenmcacaajkaaGreat

/-! ### SrT -/
namespace Go.Proofs.YtpdenmcacaajkaaGreat
open Go.RowKit

theorem Hears.forms {W : World} {Bs : Nat} {m : List Sd} {n : Nat} {r q : Nat → Int} {p : Int} {a : Nat → Int} {i : Nat} {h : Hd} (H : Hears W Bs m n r q p a i h) : (∃ A n c, h.X = .slice A n c) ∧ ∃ A n c, h.Y = .slice A n c := by
  refine ⟨?_, ?_⟩
  · obtain ⟨A, c, h, -⟩ := H.X.sees.at_; exact ⟨A, _, c, h⟩
  · obtain ⟨A, c, h, -⟩ := H.Y.sees.at_; exact ⟨A, _, c, h⟩
end Go.Proofs.YtpdenmcacaajkaaGreat

/-! ### SrW -/
namespace Go.Proofs.YtpdenmcacaajkaaGreat
open Go.RowKit
open Tb (D T)
open Fr (St F)

end Go.Proofs.YtpdenmcacaajkaaGreat

/-! ### WdA -/
namespace Go.Proofs.YtpdenmcacaajkaaGreat
open Go.RowKit

/-- A ward: nodes, a star whose guardians are alike, slots. -/
structure WM where
  ms : Nat → NM
  s : G
  sl : Nat
def upd' {α : Type} (f : Nat → α) (k : Nat) (x : α) (i : Nat) : α := if i = k then x else f i
theorem upd'_same {α : Type} (f : Nat → α) (k : Nat) (x : α) : upd' f k x k = x := if_pos rfl
theorem upd'_other {α : Type} (f : Nat → α) (k : Nat) (x : α) {i : Nat} (h : i ≠ k) : upd' f k x i = f i := if_neg h
/-- Where it lies. -/
structure WP where
  nb : Nat
  gs : Nat
  cap : Nat
  gp : Nat → Nat
  F : Nat → List Nat
/-- It lies there; the blocks of P are none of its. -/
structure WIn (B : Nat) (P : List Nat) (N : Nat) (q : WP) (W : World) (x : Nat) (u : WM) : Prop where
  blk : Blk W x #[.slice (some ⟨q.nb, 0, none⟩) N q.cap, .pointer (some ⟨q.gs, 0, none⟩), .int .i64 (u.sl : Nat)] 110
  nlt : q.nb < W.heap.size
  ptr : ∀ i, i < N → W.cell? ⟨q.nb, i, none⟩ = some (.pointer (some ⟨q.gp i, 0, none⟩))
  star : GsAt W q.gs N u.s u.s
  nd : ∀ i, i < N → NAt (q.F i) W (q.gp i) (u.ms i)
  own : ∀ i, i < N → ∀ p, p = x ∨ p = q.nb ∨ p = q.gs ∨ p ∈ P → p ∉ q.F i
  dis : ∀ i j, i < N → j < N → i ≠ j → ∀ f, f ∈ q.F i → f ∉ q.F j
  ne : x ≠ q.nb ∧ x ≠ q.gs ∧ q.nb ≠ q.gs
  out : ∀ p, p ∈ P → p < W.heap.size ∧ p ≠ x ∧ p ≠ q.nb ∧ p ≠ q.gs
  cap : N ≤ q.cap
  bas : B ≤ x ∧ B ≤ q.nb ∧ B ≤ q.gs ∧ ∀ i, i < N → ∀ f, f ∈ q.F i → B ≤ f
section
variable {B : Nat} {P : List Nat} {N : Nat} {q : WP} {W W' : World} {x : Nat} {u : WM}
theorem WIn.lt (h : WIn B P N q W x u) : x < W.heap.size ∧ q.nb < W.heap.size ∧ q.gs < W.heap.size := ⟨h.blk.lt, h.nlt, h.star.lt⟩
theorem cell_same {W W' : World} {b o : Nat} (h : W'.heap[b]? = W.heap[b]?) : W'.cell? ⟨b, o, none⟩ = W.cell? ⟨b, o, none⟩ := by simp only [World.cell?, h]
/-- All its blocks are as they were. -/
theorem WIn.keep (h : WIn B P N q W x u) (hs : W.heap.size ≤ W'.heap.size) (hb : ∀ b, b < W.heap.size → (b = x ∨ b = q.nb ∨ b = q.gs ∨ ∃ i, i < N ∧ b ∈ q.F i) → W'.heap[b]? = W.heap[b]?) : WIn B P N q W' x u := by
  obtain ⟨l1, l2, l3⟩ := h.lt
  refine ⟨(hb x l1 (.inl rfl)).trans h.blk, Nat.lt_of_lt_of_le h.nlt hs, fun i hi => (cell_same (hb _ l2 (.inr (.inl rfl)))).trans (h.ptr i hi), ⟨(hb _ l3 (.inr (.inr (.inl rfl)))).trans h.star.1, h.star.2⟩, fun i hi => (h.nd i hi).keep hs fun f hf => hb f ((h.nd i hi).lt f hf) (.inr (.inr (.inr ⟨i, hi, hf⟩))), h.own, h.dis, h.ne, fun p hp => ?_, h.cap, h.bas⟩
  obtain ⟨a, b⟩ := h.out p hp
  exact ⟨Nat.lt_of_lt_of_le a hs, b⟩
theorem WIn.below (h : WIn B P N q W x u) (b : Below W.heap.size W W') : WIn B P N q W' x u := h.keep b.size fun k hk _ => b.block k hk
/-- A foreign block turns, or a new one. -/
theorem WIn.only (h : WIn B P N q W x u) {p : Nat} (hp : p ∈ P ∨ W.heap.size ≤ p) (o : Only p W W') : WIn B P N q W' x u := by
  refine h.keep o.size fun k hk hw => o.block k hk fun e => ?_
  cases e
  rcases hp with hp | hp
  · obtain ⟨-, b1, b2, b3⟩ := h.out p hp
    rcases hw with e | e | e | ⟨i, hi, hm⟩
    · exact b1 e
    · exact b2 e
    · exact b3 e
    · exact h.own i hi p (.inr (.inr (.inr hp))) hm
  · omega
/-- A new block is foreign. -/
theorem WIn.box (h : WIn B P N q W x u) (o : Obj) : WIn B (W.heap.size :: P) N q (W.alloc o) x u := by
  obtain ⟨l1, l2, l3⟩ := h.lt
  have h' := h.below ((Below.refl W.heap.size W).alloc (Nat.le_refl _) o)
  refine ⟨h'.blk, h'.nlt, h'.ptr, h'.star, h'.nd, fun i hi p hp => ?_, h.dis, h.ne, fun p hp => ?_, h.cap, h.bas⟩
  · rcases hp with e | e | e | hp
    · exact h.own i hi p (.inl e)
    · exact h.own i hi p (.inr (.inl e))
    · exact h.own i hi p (.inr (.inr (.inl e)))
    · rcases List.mem_cons.1 hp with e | hp
      · subst e; exact fun hm => absurd ((h.nd i hi).lt _ hm) (Nat.lt_irrefl _)
      · exact h.own i hi p (.inr (.inr (.inr hp)))
  · rcases List.mem_cons.1 hp with e | hp
    · subst e; exact ⟨by simp, by omega, by omega, by omega⟩
    · exact h'.out p hp
/-- Fewer are foreign. -/
theorem WIn.less {P' : List Nat} (h : WIn B P N q W x u) (hP : ∀ p, p ∈ P' → p ∈ P) : WIn B P' N q W x u :=
  ⟨h.blk, h.nlt, h.ptr, h.star, h.nd, fun i hi p hp => h.own i hi p (by
    rcases hp with e | e | e | hp
    · exact .inl e
    · exact .inr (.inl e)
    · exact .inr (.inr (.inl e))
    · exact .inr (.inr (.inr (hP p hp)))), h.dis, h.ne, fun p hp => h.out p (hP p hp), h.cap, h.bas⟩
/-- A node did something. -/
theorem WIn.eff (h : WIn B P N q W x u) {i : Nat} (hi : i < N) {F' : List Nat} {m' : NM} (hn : NAt F' W' (q.gp i) m') (e : Eff (q.F i) F' W W') : WIn B P N { q with F := upd' q.F i F' } W' x { u with ms := upd' u.ms i m' } := by
  obtain ⟨l1, l2, l3⟩ := h.lt
  have hsz := e.1.size
  have old : ∀ b, b < W.heap.size → b ∉ q.F i → W'.heap[b]? = W.heap[b]? := fun b hb hn => e.1.block b hb hn
  have fresh : ∀ p, p < W.heap.size → p ∉ q.F i → p ∉ F' := fun p hp hn hm => by
    rcases e.2 p hm with h1 | h1
    · exact hn h1
    · omega
  refine ⟨(old x l1 (h.own i hi x (.inl rfl))).trans h.blk, Nat.lt_of_lt_of_le h.nlt hsz, fun j hj => (cell_same (old _ l2 (h.own i hi _ (.inr (.inl rfl))))).trans (h.ptr j hj), ⟨(old _ l3 (h.own i hi _ (.inr (.inr (.inl rfl))))).trans h.star.1, h.star.2⟩, fun j hj => ?_, fun j hj p hp => ?_, fun j k hj hk hne f hf => ?_, h.ne, fun p hp => ?_, h.cap, h.bas.1, h.bas.2.1, h.bas.2.2.1, fun j hj f hf => ?_⟩
  · by_cases ej : j = i
    · subst ej; simp only [upd'_same]; exact hn
    · simp only [upd'_other _ _ _ ej]
      exact (h.nd j hj).keep hsz fun f hf => old f ((h.nd j hj).lt f hf) (h.dis j i hj hi ej f hf)
  · by_cases ej : j = i
    · subst ej
      simp only [upd'_same]
      have hp' : p < W.heap.size := by
        rcases hp with e | e | e | hp
        · rw [e]; exact l1
        · rw [e]; exact l2
        · rw [e]; exact l3
        · exact (h.out p hp).1
      exact fresh p hp' (h.own j hj p hp)
    · simp only [upd'_other _ _ _ ej]; exact h.own j hj p hp
  · by_cases ej : j = i
    · subst ej
      simp only [upd'_same] at hf
      simp only [upd'_other _ _ _ (show k ≠ j from fun e => hne e.symm)]
      intro hk'
      rcases e.2 f hf with h1 | h1
      · exact h.dis j k hj hk hne f h1 hk'
      · have := (h.nd k hk).lt f hk'; omega
    · simp only [upd'_other _ _ _ ej] at hf
      by_cases ek : k = i
      · subst ek
        simp only [upd'_same]
        exact fresh f ((h.nd j hj).lt f hf) (h.dis j k hj hk hne f hf)
      · simp only [upd'_other _ _ _ ek]; exact h.dis j k hj hk hne f hf
  · obtain ⟨a, b⟩ := h.out p hp
    exact ⟨Nat.lt_of_lt_of_le a hsz, b⟩
  · by_cases ej : j = i
    · subst ej
      simp only [upd'_same] at hf
      rcases e.2 f hf with h1 | h1
      · exact h.bas.2.2.2 j hj f h1
      · have := h.bas.1; omega
    · simp only [upd'_other _ _ _ ej] at hf; exact h.bas.2.2.2 j hj f hf
/-- The star did something. -/
theorem WIn.star_ (h : WIn B P N q W x u) {s' : G} (o : Only q.gs W W') (hs : GsAt W' q.gs N s' s') : WIn B P N q W' x { u with s := s' } := by
  obtain ⟨l1, l2, l3⟩ := h.lt
  have old : ∀ b, b < W.heap.size → b ≠ q.gs → W'.heap[b]? = W.heap[b]? := fun b hb hn => o.block b hb (by intro e; cases e; exact hn rfl)
  refine ⟨(old x l1 h.ne.2.1).trans h.blk, Nat.lt_of_lt_of_le h.nlt o.size, fun j hj => (cell_same (old _ l2 h.ne.2.2)).trans (h.ptr j hj), hs, fun j hj => (h.nd j hj).keep o.size fun f hf => old f ((h.nd j hj).lt f hf) (fun e => h.own j hj _ (.inr (.inr (.inl rfl))) (e ▸ hf)), h.own, h.dis, h.ne, fun p hp => ?_, h.cap, h.bas⟩
  obtain ⟨a, b⟩ := h.out p hp
  exact ⟨Nat.lt_of_lt_of_le a o.size, b⟩
/-- Another number of slots. -/
theorem WIn.slots (h : WIn B P N q W x u) (k : Nat) : WIn B P N q (W.setCell ⟨x, 2, none⟩ (.int .i64 (k : Nat))) x { u with sl := k } := by
  have o : Only x W (W.setCell ⟨x, 2, none⟩ (.int .i64 (k : Nat))) := (Only.refl x W).set 2 _
  obtain ⟨l1, l2, l3⟩ := h.lt
  have old : ∀ b, b < W.heap.size → b ≠ x → (W.setCell ⟨x, 2, none⟩ (.int .i64 (k : Nat))).heap[b]? = W.heap[b]? := fun b hb hn => o.block b hb (by intro e; cases e; exact hn rfl)
  refine ⟨(h.blk.set 2 _).eq (by simp), Nat.lt_of_lt_of_le h.nlt o.size, fun j hj => (cell_same (old _ l2 h.ne.1.symm)).trans (h.ptr j hj), ⟨(old _ l3 h.ne.2.1.symm).trans h.star.1, h.star.2⟩, fun j hj => (h.nd j hj).keep o.size fun f hf => old f ((h.nd j hj).lt f hf) (fun e => h.own j hj _ (.inl rfl) (e ▸ hf)), h.own, h.dis, h.ne, fun p hp => ?_, h.cap, h.bas⟩
  obtain ⟨a, b⟩ := h.out p hp
  exact ⟨Nat.lt_of_lt_of_le a o.size, b⟩
end
/-- A ward of blocks from B on, none of them in P. -/
def WAt (B : Nat) (P : List Nat) (N : Nat) (W : World) (x : Nat) (u : WM) : Prop := ∃ q, WIn B P N q W x u
section
variable {B : Nat} {P : List Nat} {N : Nat} {W W' : World} {x : Nat} {u : WM}
theorem WAt.below (h : WAt B P N W x u) (b : Below W.heap.size W W') : WAt B P N W' x u := by obtain ⟨q, h⟩ := h; exact ⟨q, h.below b⟩
theorem WAt.only (h : WAt B P N W x u) {p : Nat} (hp : p ∈ P ∨ W.heap.size ≤ p) (o : Only p W W') : WAt B P N W' x u := by obtain ⟨q, h⟩ := h; exact ⟨q, h.only hp o⟩
theorem WAt.box (h : WAt B P N W x u) (o : Obj) : WAt B (W.heap.size :: P) N (W.alloc o) x u := by obtain ⟨q, h⟩ := h; exact ⟨q, h.box o⟩
theorem WAt.less {P' : List Nat} (h : WAt B P N W x u) (hP : ∀ p, p ∈ P' → p ∈ P) : WAt B P' N W x u := by obtain ⟨q, h⟩ := h; exact ⟨q, h.less hP⟩
end
/-- A list of bytes whose block is as it was. -/
theorem OwnsL.same {W W' : World} {B : Nat} {v : Value} {l : List Int} (h : OwnsL W B v l) (hb : ∀ b, v.ownBlock = some b → W'.heap[b]? = W.heap[b]?) : OwnsL W' B v l := by
  refine ⟨h.1, ?_⟩
  rcases h.2 with hn | ⟨g, cap, cur, rfl, hB, hg, rest⟩
  · exact .inl hn
  · exact .inr ⟨g, cap, cur, rfl, hB, (hb g rfl).trans hg, rest⟩
end Go.Proofs.YtpdenmcacaajkaaGreat

/-! ### WdN -/
namespace Go.Proofs.YtpdenmcacaajkaaGreat
open Go.RowKit

def WM.new (t : Tb.T) (dl : List Int) (l : List R4) : WM := ⟨fun i => NM.new t i (dl.getD i 0) l, newG t, 0⟩
def ptrs (gp : Nat → Nat) (k : Nat) : List Value := (List.range k).map fun i => .pointer (some ⟨gp i, 0, none⟩)
/-- k nodes are made. -/
structure NW (S : Nat) (t : Tb.T) (dl : List Int) (l : List R4) (x gs k : Nat) (gp : Nat → Nat) (F : Nat → List Nat) (v : Value) (w0 W : World) : Prop where
  blk : Blk W x #[v, .pointer (some ⟨gs, 0, none⟩), .int .i64 0] 110
  star : GsAt W gs t.ns.length (newG t) (newG t)
  lst : W.ownsRow (x + 1) 23 1 v k (ptrs gp k)
  nd : ∀ i, i < k → NAt (F i) W (gp i) (NM.new t i (dl.getD i 0) l)
  own : ∀ i, i < k → ∀ f, f ∈ F i → x + 1 ≤ f ∧ v.ownBlock ≠ some f
  dis : ∀ i j, i < k → j < k → i ≠ j → ∀ f, f ∈ F i → f ∉ F j
  lo : S ≤ gs ∧ gs < x
  bw : Below S w0 W
section
variable {S : Nat} {t : Tb.T} {dl : List Int} {l : List R4} {x gs k : Nat} {gp : Nat → Nat} {F : Nat → List Nat} {v : Value} {w0 W W' : World}
theorem NW.lt (h : NW S t dl l x gs k gp F v w0 W) : x < W.heap.size := h.blk.lt
/-- Only the list's own block turns. -/
theorem NW.keep (h : NW S t dl l x gs k gp F v w0 W) (hs : W.heap.size ≤ W'.heap.size) (hb : ∀ b, b < W.heap.size → v.ownBlock ≠ some b → W'.heap[b]? = W.heap[b]?) (bw : Below S w0 W') (hl : W'.ownsRow (x + 1) 23 1 v k (ptrs gp k)) : NW S t dl l x gs k gp F v w0 W' := by
  have hx := h.lt
  have hvx : v.ownBlock ≠ some x := fun e => by have := (h.lst.lt x e).1; omega
  have hvg : v.ownBlock ≠ some gs := fun e => by have := (h.lst.lt gs e).1; have := h.lo.2; omega
  exact ⟨(hb x hx hvx).trans h.blk, ⟨(hb gs h.star.lt hvg).trans h.star.1, h.star.2⟩, hl, fun i hi => (h.nd i hi).keep hs fun f hf => hb f ((h.nd i hi).lt f hf) (h.own i hi f hf).2, h.own, h.dis, h.lo, bw⟩
theorem NW.below (h : NW S t dl l x gs k gp F v w0 W) (b : Below W.heap.size W W') : NW S t dl l x gs k gp F v w0 W' :=
  h.keep b.size (fun k hk _ => b.block k hk) (h.bw.trans (b.mono (Nat.le_trans h.lo.1 (by have := h.lo.2; have := h.lt; omega)))) (World.ownsRow.kept (row := none) h.lst ⟨b.os, b.tape, b.output, b.size, fun k hk _ => b.block k hk⟩ (by cases v.ownBlock <;> simp))
/-- Another one is made. -/
theorem NW.node (h : NW S t dl l x gs k gp F v w0 W) (b : Below W.heap.size W W') {g : Nat} {F' : List Nat} (hn : NAt F' W' g (NM.new t k (dl.getD k 0) l)) (hF : ∀ f, f ∈ F' → W.heap.size ≤ f) :
    ∃ gp' F'', gp' k = g ∧ NW S t dl l x gs k gp' F'' v w0 W' ∧ NAt (F'' k) W' (gp' k) (NM.new t k (dl.getD k 0) l) ∧ (∀ f, f ∈ F'' k → x + 1 ≤ f ∧ v.ownBlock ≠ some f) ∧ ∀ i, i < k → ∀ f, f ∈ F'' k → f ∉ F'' i := by
  have h' := h.below b
  have hx := h.lt
  have e1 : ∀ i, i < k → upd' gp k g i = gp i := fun i hi => upd'_other _ _ _ (by omega)
  have e2 : ∀ i, i < k → upd' F k F' i = F i := fun i hi => upd'_other _ _ _ (by omega)
  have ep : ptrs (upd' gp k g) k = ptrs gp k := List.map_congr_left fun i hi => by rw [e1 i (List.mem_range.1 hi)]
  refine ⟨upd' gp k g, upd' F k F', upd'_same _ _ _, ⟨h'.blk, h'.star, by rw [ep]; exact h'.lst, fun i hi => by rw [e1 i hi, e2 i hi]; exact h'.nd i hi, fun i hi f hf => by rw [e2 i hi] at hf; exact h'.own i hi f hf, fun i j hi hj hne f hf => by rw [e2 i hi] at hf; rw [e2 j hj]; exact h'.dis i j hi hj hne f hf, h'.lo, h'.bw⟩, by rw [upd'_same, upd'_same]; exact hn, fun f hf => ?_, fun i hi f hf => ?_⟩
  · rw [upd'_same] at hf
    have := hF f hf
    refine ⟨by omega, fun e => ?_⟩
    have := (h.lst.lt f e).2
    omega
  · rw [upd'_same] at hf
    rw [e2 i hi]
    intro hm
    have := hF f hf
    have := (h.nd i hi).lt f hm
    omega
/-- It is appended. -/
theorem NW.push (h : NW S t dl l x gs k gp F v w0 W) (hn : NAt (F k) W (gp k) (NM.new t k (dl.getD k 0) l)) (hF : ∀ f, f ∈ F k → x + 1 ≤ f ∧ v.ownBlock ≠ some f) (hd : ∀ i, i < k → ∀ f, f ∈ F k → f ∉ F i) {v' : Value} (e : Ext W W' v v') (hl : W'.ownsRow (x + 1) 23 1 v' (k + 1) (ptrs gp k ++ [.pointer (some ⟨gp k, 0, none⟩)])) :
    NW S t dl l x gs (k + 1) gp F v' w0 (W'.setCell ⟨x, 0, none⟩ v') := by
  have hx := h.lt
  have hvx : v.ownBlock ≠ some x := fun e => by have := (h.lst.lt x e).1; omega
  have hvg : v.ownBlock ≠ some gs := fun e => by have := (h.lst.lt gs e).1; have := h.lo.2; omega
  have hb : ∀ b, b < W.heap.size → v.ownBlock ≠ some b → W'.heap[b]? = W.heap[b]? := fun b h1 h2 => e.grown.block b h1 (fun e => h2 e.symm)
  have o : Only x W' (W'.setCell ⟨x, 0, none⟩ v') := (Only.refl _ _).set 0 _
  have hsz := e.size
  have hb2 : ∀ b, b < W.heap.size → b ≠ x → v.ownBlock ≠ some b → (W'.setCell ⟨x, 0, none⟩ v').heap[b]? = W.heap[b]? := fun b h1 h2 h3 => (o.block b (by omega) (by intro e; cases e; exact h2 rfl)).trans (hb b h1 h3)
  have ep : ptrs gp (k + 1) = ptrs gp k ++ [.pointer (some ⟨gp k, 0, none⟩)] := by unfold ptrs; rw [List.range_succ, List.map_append]; rfl
  have nds : ∀ i, i < k + 1 → NAt (F i) W (gp i) (NM.new t i (dl.getD i 0) l) := fun i hi => by
    by_cases ei : i = k
    · subst ei; exact hn
    · exact h.nd i (by omega)
  have owns : ∀ i, i < k + 1 → ∀ f, f ∈ F i → x + 1 ≤ f ∧ v.ownBlock ≠ some f := fun i hi => by
    by_cases ei : i = k
    · subst ei; exact hF
    · exact h.own i (by omega)
  have hX : Blk W' x #[v, .pointer (some ⟨gs, 0, none⟩), .int .i64 0] 110 := (hb x hx hvx).trans h.blk
  refine ⟨(hX.set 0 v').eq (by simp), ⟨(hb2 gs h.star.lt (by have := h.lo.2; omega) hvg).trans h.star.1, h.star.2⟩, by
      rw [ep]
      exact World.ownsRow.kept (row := some x) hl o (.inr fun e' => by have := (hl.lt x e').1; omega), fun i hi => (nds i hi).keep (Nat.le_trans hsz o.size) fun f hf => hb2 f ((nds i hi).lt f hf) (by have := (owns i hi f hf).1; omega) (owns i hi f hf).2, fun i hi f hf => ⟨(owns i hi f hf).1, fun e' => ?_⟩, fun i j hi hj hne f hf => ?_, h.lo, ?_⟩
  · rcases e.lies f e' with h1 | h1
    · have := (nds i hi).lt f hf; omega
    · exact (owns i hi f hf).2 h1
  · by_cases ei : i = k
    · subst ei; exact hd j (by omega) f hf
    · by_cases ej : j = k
      · subst ej; exact fun hm => hd i (by omega) f hm hf
      · exact h.dis i j (by omega) (by omega) hne f hf
  · have hlo := h.lo
    exact h.bw.trans ((e.toBelow (B := S) (by omega) (fun j hj => by have := (h.lst.lt j hj).1; omega)).setCell (p := ⟨x, 0, none⟩) (by show S ≤ x; omega) v')
/-- All are made. -/
theorem NW.done (h : NW S t dl l x gs k gp F v w0 W) (hk : 0 < k) (hN : k = t.ns.length) : WAt S [] k W x (WM.new t dl l) := by
  have hx := h.lt
  rcases h.lst.2 with ⟨-, e⟩ | ⟨nb, cap, cur, rfl, hB, hg, hn, hc, hs, ht⟩
  · omega
  · have hlo := h.lo
    have hnl : nb < W.heap.size := (Array.getElem?_eq_some_iff.1 hg).1
    refine ⟨⟨nb, gs, cap, gp, F⟩, h.blk, hnl, fun i hi => ?_, by rw [hN]; exact h.star, fun i hi => h.nd i hi, fun i hi p hp hm => ?_, h.dis, ⟨by show x ≠ nb; omega, by show x ≠ gs; omega, by show nb ≠ gs; omega⟩, fun p hp => (by cases hp), hn, by omega, by show S ≤ nb; omega, hlo.1, fun i hi f hf => by have := (h.own i hi f hf).1; omega⟩
    · have e1 : cur.toList[i]? = some (.pointer (some ⟨gp i, 0, none⟩)) := by
        have : (cur.toList.take (k * 1))[i]? = (ptrs gp k)[i]? := by rw [ht]
        rw [List.getElem?_take_of_lt (by omega)] at this
        rw [this]
        simp [ptrs, hi]
      simp only [World.cell?, hg]
      simpa using e1
    · obtain ⟨a, b⟩ := h.own i hi p hm
      rcases hp with e | e | e | e
      · omega
      · exact b (by rw [e]; rfl)
      · have e : p = gs := e; omega
      · cases e
end
end Go.Proofs.YtpdenmcacaajkaaGreat
