/- Texts SrT, SrU, SrV, Acts4O, FtO, BoolsO in one. For what each says in front of its theorems. -/
import Derived.Lib.SmallJoins
import Derived.Test.YtmlnkkalajnjhaaSB30
/-! ### SrT -/
namespace Go.Proofs.Ytmlnkkalajnjhaa
open Go.RowKit

theorem strikeL_other (f : Ft) (m : List Sd) (i : Nat) (hi : f.n.toNat ≠ i) : (strikeL f m)[i]? = m[i]? := by
  unfold strikeL
  split
  · rfl
  · split
    · rw [List.getElem?_set_ne hi]
    · rfl
theorem Hears.quiet {W : World} {Bs : Nat} {m : List Sd} {r q : Nat → Int} {p : Int} {a : Nat → Int} {i : Nat} {h : Hd} (H : Hears W Bs m 0 r q p a i h) : h.A = 0 ∧ h.B = 0 := by
  refine ⟨?_, ?_⟩
  · rw [H.A]; split <;> rfl
  · rw [H.B]; split <;> rfl
theorem Hears.forms {W : World} {Bs : Nat} {m : List Sd} {n : Nat} {r q : Nat → Int} {p : Int} {a : Nat → Int} {i : Nat} {h : Hd} (H : Hears W Bs m n r q p a i h) : (∃ A n c, h.X = .slice A n c) ∧ ∃ A n c, h.Y = .slice A n c := by
  refine ⟨?_, ?_⟩
  · obtain ⟨A, c, h, -⟩ := H.X.sees.at_; exact ⟨A, _, c, h⟩
  · obtain ⟨A, c, h, -⟩ := H.Y.sees.at_; exact ⟨A, _, c, h⟩
theorem strikeL_same (f : Ft) (m : List Sd) (i : Nat) (s : Sd) (h4 : f.k ≠ 4) (hi : f.n.toNat = i) (h : m[i]? = some s) : (strikeL f m)[i]? = some (s.strike f) := by
  unfold strikeL
  rw [if_neg h4, hi, h]
  exact list_set_get m i _ s h
theorem Hears.quietX {W : World} {Bs : Nat} {m : List Sd} {r q : Nat → Int} {p : Int} {a : Nat → Int} {i : Nat} {h : Hd} (H : Hears W Bs m 0 r q p a i h) : OwnsL W Bs h.X [] ∧ OwnsL W Bs h.Y [] := by
  obtain ⟨-, -, h3, h4, -⟩ := H
  refine ⟨?_, ?_⟩
  · split at h3 <;> exact h3
  · split at h4 <;> exact h4
end Go.Proofs.Ytmlnkkalajnjhaa

/-! ### SrU -/
namespace Go.Proofs.Ytmlnkkalajnjhaa
open Go.RowKit

set_option maxRecDepth 100000 in
set_option maxHeartbeats 1000000 in
theorem guard_nil (i : Int) (w : World) :
    Calls Try.prog 20 #[.pointer none, .int .i64 i] w fun e w' => e = .returned (.tuple #[.int .i64 0, .bool false]) ∧ w = w' := by
  go_enter Try.func20, Try.ntmps20
  go_wp2
  go_ret2
  exact ⟨rfl, rfl⟩
set_option maxRecDepth 100000 in
set_option maxHeartbeats 4000000 in
theorem slot_nil (w : World) :
    Calls Try.prog 15 #[.pointer none, .agg #[.slice none 0 0, .slice none 0 0, .slice none 0 0, .slice none 0 0, .slice none 0 0, .slice none 0 0, .slice none 0 0, .slice none 0 0], .agg #[.int .i64 0, .int .i64 0, .int .i64 0, .int .i64 0, .int .i64 0, .int .i64 0, .int .i64 0, .int .i64 0], .slice none 0 0] w fun e w' => e = .returned (.tuple #[.agg (hdC fun _ => hdz), .int .i64 1]) ∧ Below w.heap.size w w' := by
  have hb3 := (((Below.refl w.heap.size w).alloc (Nat.le_refl _) (.cells #[.slice none 0 0, .slice none 0 0, .slice none 0 0, .slice none 0 0, .slice none 0 0, .slice none 0 0, .slice none 0 0, .slice none 0 0] 31)).alloc (by simp) (.cells #[.int .i64 0, .int .i64 0, .int .i64 0, .int .i64 0, .int .i64 0, .int .i64 0, .int .i64 0, .int .i64 0] 32))
  have hth := hdz_there ((w.alloc (.cells #[.slice none 0 0, .slice none 0 0, .slice none 0 0, .slice none 0 0, .slice none 0 0, .slice none 0 0, .slice none 0 0, .slice none 0 0] 31)).alloc (.cells #[.int .i64 0, .int .i64 0, .int .i64 0, .int .i64 0, .int .i64 0, .int .i64 0, .int .i64 0, .int .i64 0] 32)) (w.heap.size + 1 + 1) (by simp) 27
  have hlie := hear_lies ((w.alloc (.cells #[.slice none 0 0, .slice none 0 0, .slice none 0 0, .slice none 0 0, .slice none 0 0, .slice none 0 0, .slice none 0 0, .slice none 0 0] 31)).alloc (.cells #[.int .i64 0, .int .i64 0, .int .i64 0, .int .i64 0, .int .i64 0, .int .i64 0, .int .i64 0, .int .i64 0] 32)) (w.heap.size + 1 + 1) (by simp) (fun _ => hdz) 27
  have hin := infoHeard8
  have hone := hdC_one (fun _ => hdz) (fun i hi => ⟨_, _, _, rfl⟩) (fun i hi => ⟨_, _, _, rfl⟩)
  have hz2 : (((w.alloc (.cells #[.slice none 0 0, .slice none 0 0, .slice none 0 0, .slice none 0 0, .slice none 0 0, .slice none 0 0, .slice none 0 0, .slice none 0 0] 31)).alloc (.cells #[.int .i64 0, .int .i64 0, .int .i64 0, .int .i64 0, .int .i64 0, .int .i64 0, .int .i64 0, .int .i64 0] 32))).heap.size = w.heap.size + 1 + 1 := by simp
  rw [hz2] at hlie
  generalize hw2 : ((w.alloc (.cells #[.slice none 0 0, .slice none 0 0, .slice none 0 0, .slice none 0 0, .slice none 0 0, .slice none 0 0, .slice none 0 0, .slice none 0 0] 31)).alloc (.cells #[.int .i64 0, .int .i64 0, .int .i64 0, .int .i64 0, .int .i64 0, .int .i64 0, .int .i64 0, .int .i64 0] 32)) = w2 at *
  have hun := Try.underlying27
  have h40 : 40 = (hdC fun _ => hdz).size := rfl
  rw [h40] at hth
  clear h40
  rw [hdz_lit] at hth hlie
  have hB := Lib.hid (hb3.trans (hlie.2.mono (by omega)))
  have hone := Lib.hid hone
  clear hlie
  go_enter Try.func15, Try.ntmps15
  go_wp2_with (refine wpList_store_mid rfl _ _ _ rfl _ _ (hdC fun _ => hdz) rfl rfl hth hin hone.out ?_)
  refine bodyPost_ret (v := .tuple #[.agg (hdC fun _ => hdz), .int .i64 1]) ?_ rfl ⟨rfl, hB.out⟩
  rw [results_cell_tmp rfl]
  have hld := run_loadVar_mid (P := Try.prog) _ (w.heap.size + 1 + 1) 0 27 (hdC fun _ => hdz).toList _ (World.rangeAt_setCells_same _ _ _ _ (by rw [Array.length_toList]; exact hth)) hun rfl hin
  simp only [Array.toArray_toList] at hld
  show ((asAddr (.pointer (some ⟨w.heap.size + 1 + 1, 0, none⟩))).run Try.prog _).andThen _ = _
  simp only [asAddr, Sem.run_pure, Result.andThen_ok, hld]
  rfl
end Go.Proofs.Ytmlnkkalajnjhaa

/-! ### SrV -/
namespace Go.Proofs.Ytmlnkkalajnjhaa
open Go.RowKit

theorem flip_bitG (x : Fin 256) (i k : Fin 8) : bitv (bits BinOp.xor IntKind.u8 ((x.val : Nat) : Int) (128 / 2 ^ i.val)) k.val = (bitv ((x.val : Nat) : Int) k.val ^^ decide (k = i)) := by
  revert x i k
  decide +kernel
theorem flip_byteG (x : Fin 256) (i : Fin 8) : 0 ≤ bits BinOp.xor IntKind.u8 ((x.val : Nat) : Int) (128 / 2 ^ i.val) ∧ bits BinOp.xor IntKind.u8 ((x.val : Nat) : Int) (128 / 2 ^ i.val) < 256 := by
  revert x i
  decide +kernel
/-- A byte with a bit turned. -/
def flipB (T : Nat) (x : Int) : Int := bits BinOp.xor IntKind.u8 x (128 / 2 ^ (T % 8))
theorem flipB_range (T : Nat) (x : Int) (h : 0 ≤ x ∧ x < 256) : 0 ≤ flipB T x ∧ flipB T x < 256 := by
  obtain ⟨y, rfl⟩ := Int.eq_ofNat_of_zero_le h.1
  exact flip_byteG ⟨y, by omega⟩ ⟨T % 8, by omega⟩
/-- Bytes with a bit turned. -/
def flipL (T : Nat) (l : List Int) : List Int := l.set (T / 8) (flipB T (l.getD (T / 8) 0))
theorem flipL_length (T : Nat) (l : List Int) : (flipL T l).length = l.length := by simp [flipL]
theorem flipL_bytes {T : Nat} {l : List Int} (hl : bytesL l) : bytesL (flipL T l) := fun x hx => by
  rcases List.mem_or_eq_of_mem_set hx with h | rfl
  · exact hl x h
  · exact flipB_range T _ (hl.getD _)
theorem flipL_get (T : Nat) (l : List Int) (j : Nat) (hj : j < l.length) : (flipL T l).getD j 0 = if j = T / 8 then flipB T (l.getD j 0) else l.getD j 0 := by
  unfold flipL
  by_cases e : j = T / 8
  · subst e
    rw [if_pos rfl]
    simp [List.getD_eq_getElem?_getD, hj]
  · rw [if_neg e]
    simp [List.getD_eq_getElem?_getD, show ¬ T / 8 = j from fun h => e h.symm]
theorem turned_rq (T : Nat) (l : List Int) (hl : bytesL l) (k : Nat) (hk : k < 8 * l.length) : turned (T : Int) (rq l) k = rq (flipL T l) k := by
  have hz := hl.getD (k / 8)
  unfold turned rq lv
  simp only [if_true]
  show (if (k : Int) = T then -(if bitv (l.getD (k / 8) 0) (k % 8) = true then (1 : Int) else -1) else if bitv (l.getD (k / 8) 0) (k % 8) = true then 1 else -1) = if bitv ((flipL T l).getD (k / 8) 0) (k % 8) = true then 1 else -1
  rw [flipL_get T l (k / 8) (by omega)]
  by_cases h : k / 8 = T / 8
  · rw [if_pos h]
    obtain ⟨x, hx⟩ := Int.eq_ofNat_of_zero_le hz.1
    have hf := flip_bitG ⟨x, by omega⟩ ⟨T % 8, by omega⟩ ⟨k % 8, by omega⟩
    simp only at hf
    unfold flipB
    rw [hx, hf]
    by_cases h2 : k = T
    · subst h2
      simp
      cases bitv (x : Int) (k % 8) <;> simp
    · have h3 : ¬ (k : Int) = (T : Int) := by omega
      have h4 : ¬ k % 8 = T % 8 := by omega
      simp [h3, h4]
  · rw [if_neg h]
    have h3 : ¬ (k : Int) = (T : Int) := by rintro h3; exact h (by omega)
    simp [h3]
theorem allZ_ext {q r : Nat → Int} {n : Nat} (h : ∀ k, k < n → q k = r k) : allZ q n = allZ r n := by
  rw [Bool.eq_iff_iff, allZ_iff, allZ_iff]
  exact ⟨fun g k hk => by rw [← h k hk]; exact g k hk, fun g k hk => by rw [h k hk]; exact g k hk⟩
theorem allU_ext {q r : Nat → Int} {n : Nat} (h : ∀ k, k < n → q k = r k) : allU q n = allU r n := by
  rw [Bool.eq_iff_iff, allU_iff, allU_iff]
  exact ⟨fun g k hk => by rw [← h k hk]; exact g k hk, fun g k hk => by rw [h k hk]; exact g k hk⟩
theorem packed_ext {q r : Nat → Int} {j : Nat} (h : ∀ i, i < 8 → q (8 * j + i) = r (8 * j + i)) : packed q j = packed r j := by
  unfold packed packTo
  rw [foldl_same _ (fun x i => x ||| if r (8 * j + i) = 1 then 128 / 2 ^ i else 0) _ _ fun a i hi => ?_]
  rw [h i (by have := List.mem_range.1 hi; omega)]
theorem tk_ext {q r : Nat → Int} {n : Nat} (h : ∀ k, k < n → q k = r k) : tk n q = tk n r := by
  unfold tk
  rw [allZ_ext h, allU_ext h]
theorem tl_ext {q r : Nat → Int} {n : Nat} (h : ∀ k, k < n → q k = r k) : tl n q = tl n r := by
  unfold tl
  rw [allZ_ext h, allU_ext h]
  split
  · exact List.map_congr_left fun j hj => packed_ext fun i hi => h _ (by have := List.mem_range.1 hj; omega)
  · rfl
/-- The place of the sample that is turned. -/
def turnAt (a : Int) (l : List Int) : Nat := (max a (-a)).toNat % (8 * l.length)
theorem gq_tells (l : List Int) (hl : bytesL l) (a : Int) (h0 : 0 < l.length) (h50 : l.length ≤ 50) :
    tk (rn l) (gq (rn l) (rq l) a) = 2 ∧ tl (rn l) (gq (rn l) (rq l) a) = flipL (turnAt a l) l := by
  have hr : rn l = 8 * l.length := by unfold rn; omega
  have hr' : rn (flipL (turnAt a l) l) = rn l := by unfold rn; rw [flipL_length]
  have hT : max a (-a) % ((rn l : Nat) : Int) = ((turnAt a l : Nat) : Int) := by
    rw [hr]
    unfold turnAt
    have : max a (-a) = ((max a (-a)).toNat : Int) := by omega
    rw [this]
    simp
  have e : ∀ k, k < rn l → gq (rn l) (rq l) a k = rq (flipL (turnAt a l) l) k := fun k hk => by
    unfold gq
    rw [hT]
    exact turned_rq _ l hl k (by omega)
  refine ⟨?_, ?_⟩
  · rw [tk_ext e, ← hr']
    exact tk_rq _ (by rw [flipL_length]; exact h0)
  · rw [tl_ext e, ← hr']
    exact tl_rq _ (flipL_bytes hl) (by rw [flipL_length]; exact h50)
/-- What one hears of bytes, if he is not deaf. -/
theorem Hears.loudG {W : World} {Bs : Nat} {m : List Sd} {n : Nat} {q : Nat → Int} {p : Int} {a : Nat → Int} {i : Nat} {h : Hd} (H : Hears W Bs m n q q p a i h) (hi : i < m.length) (hd : m[i]?.map Sd.df = some false) : (h.A = tk n q ∧ h.B = tk n q) ∧ OwnsL W Bs h.X (tl n q) ∧ OwnsL W Bs h.Y (tl n q) := by
  obtain ⟨h1, h2, h3, h4, -⟩ := H
  rw [hd] at h1 h2 h3 h4
  rw [if_pos ⟨hi, by simp⟩] at h1 h2 h3 h4
  exact ⟨⟨h1, h2⟩, h3, h4⟩
/-- A slot whose node's bytes are garbled. -/
theorem slot_garble (N : Nat) (n4 : 4 ≤ N) (n8 : N ≤ 8) (l : List Int) (hl : bytesL l) (l1 : 1 ≤ l.length) (l40 : l.length ≤ 40) (x : Int) (hx : -1000 ≤ x ∧ x ≤ 1000) (A : Option Addr) (c g : Nat) (W : World) (hG : GsAt W g N (S1 N) (S1 N)) (hv : SeesL W W.heap.size (.slice A l.length c) l) :
    Hid (Calls Try.prog 15 #[.pointer (some ⟨g, 0, none⟩), .agg #[.slice none 0 0, .slice A l.length c, .slice none 0 0, .slice none 0 0, .slice none 0 0, .slice none 0 0, .slice none 0 0, .slice none 0 0], .agg #[.int .i64 0, .int .i64 0, .int .i64 0, .int .i64 0, .int .i64 0, .int .i64 0, .int .i64 0, .int .i64 0], .slice (some ⟨W.heap.size, 0, none⟩) 1 1]
      (W.alloc (.cells #[.int .i64 2, .int .i64 1, .int .i64 x, .slice none 0 0] 34)) fun e w' => ∃ f, e = .returned (.tuple #[.agg (hdC f), .int .i64 0]) ∧ Hid (∀ i, i < N → ((f i).A = 2 ∧ (f i).B = 2) ∧ OwnsL w' (W.heap.size + 1) (f i).X (flipL (turnAt x l) l) ∧ OwnsL w' (W.heap.size + 1) (f i).Y (flipL (turnAt x l) l)) ∧ Hid (∀ i, i < 8 → (∃ A n c, (f i).X = .slice A n c) ∧ ∃ A n c, (f i).Y = .slice A n c) ∧ Only g (W.alloc (.cells #[.int .i64 2, .int .i64 1, .int .i64 x, .slice none 0 0] 34)) w') := Lib.hid (by
  have hF := SeesF.one W W.heap.size rfl 34 ⟨2, 1, x, []⟩ (.slice none 0 0) SeesL.nil (fun x hx => by cases hx)
  have hb := (Below.refl W.heap.size W).alloc (Nat.le_refl _) (.cells #[.int .i64 2, .int .i64 1, .int .i64 x, .slice none 0 0] 34)
  have hz : (W.alloc (.cells #[.int .i64 2, .int .i64 1, .int .i64 x, .slice none 0 0] 34)).heap.size = W.heap.size + 1 := by simp
  have e0 : strikes [(⟨2, 1, x, []⟩ : Ft)] (m0 N (at1 1 l []) fun _ => 0) = strikeL ⟨2, 1, x, []⟩ (m0 N (at1 1 l []) fun _ => 0) := rfl
  have es : (strikeL ⟨2, 1, x, []⟩ (m0 N (at1 1 l []) fun _ => 0))[1]? = some { sd0 (at1 1 l []) (fun _ => 0) 1 with q := gq (rn l) (rq l) x } := by
    rw [strikeL_same _ _ 1 _ (by simp) rfl (m0_get N _ _ 1 (by omega))]
    rfl
  have ed : ∀ i, i < N → (strikeL ⟨2, 1, x, []⟩ (m0 N (at1 1 l []) fun _ => 0))[i]?.map Sd.df = some false := fun i hi => by
    by_cases e : i = 1
    · subst e; rw [es]; rfl
    · rw [strikeL_other _ _ i (by simp; omega), m0_get N _ _ i hi]; rfl
  refine (slot_heard (A := at1 1 A none) (c := at1 1 c 0) (bs := at1 1 l []) (a := fun _ => 0) (fl := [⟨2, 1, x, []⟩]) (s := { sd0 (at1 1 l []) (fun _ => 0) 1 with q := gq (rn l) (rq l) x }) n4 n8 (hG.below hb hG.lt) (fun i _ => by
      by_cases e : i = 1
      · subst e; exact ⟨(hv.below hb).more (by omega), hl⟩
      · simp only [at1, if_neg e]; exact ⟨SeesL.nil, fun x hx => by cases hx⟩) (fun i => by simp) (hF.more (by simp)) (by simp [ftIs, Ft.may, ftMay]; omega) (fun f hf => by rw [List.mem_singleton.1 hf]; simp) (by simp [blocks]) (by simp [blocks]) e0
    es (by show -1000000 ≤ (0 : Int) ∧ (0 : Int) ≤ 1000000; omega) (by
      unfold on1
      rw [show ({ sd0 (at1 1 l []) (fun _ => 0) 1 with q := gq (rn l) (rq l) x } : Sd).n = rn l from rfl, show ({ sd0 (at1 1 l []) (fun _ => 0) 1 with q := gq (rn l) (rq l) x } : Sd).at_ = 0 from rfl]
      rw [show decide (0 < rn l) = true from decide_eq_true (by unfold rn; omega)]
      decide)).mono ?_
  rintro e w' ⟨f, rfl, hH, -, hO⟩
  refine ⟨f, rfl, Lib.hid (fun i hi => ?_), Lib.hid (fun i hi => (hH i hi).forms), hO⟩
  have := (hH i (by omega)).loudG (by rw [strikeL_length, m0_length]; exact hi) (ed i hi)
  obtain ⟨g1, g2⟩ := gq_tells l hl x (by omega) (by omega)
  rw [hz, show ({ sd0 (at1 1 l []) (fun _ => 0) 1 with q := gq (rn l) (rq l) x } : Sd).n = rn l from rfl, show ({ sd0 (at1 1 l []) (fun _ => 0) 1 with q := gq (rn l) (rq l) x } : Sd).q = gq (rn l) (rq l) x from rfl, g1, g2] at this
  exact this)
/-- A list with something in it lies in a block of its own. -/
theorem OwnsL.blkG {W : World} {B : Nat} {v : Value} {l : List Int} (h : OwnsL W B v l) (h0 : 0 < l.length) : ∃ b c, v = .slice (some ⟨b, 0, none⟩) l.length c ∧ B ≤ b ∧ b < W.heap.size ∧ l.length ≤ c ∧ c ≤ maxLen ∧ W.cell? ⟨b, 0, none⟩ = some (.int .u8 (l.getD 0 0)) ∧ W.frozen? ⟨b, 0, none⟩ = false := by
  rcases h.2 with ⟨-, e⟩ | ⟨b, c, cur, rfl, hb, hg, hn, hc, -, -⟩
  · rw [e] at h0
    exact absurd h0 (Nat.lt_irrefl _)
  · refine ⟨b, c, rfl, hb, (Array.getElem?_eq_some_iff.1 hg).1, hn, hc, ?_, Owns.frozen h 0⟩
    exact Owns.cell h h0
theorem HAt.ltG {W : World} {b : Nat} {f : Nat → Hd} (h : HAt W b f) : b < W.heap.size := by
  have := (h.get 0 (by omega)).1
  rcases Nat.lt_or_ge b W.heap.size with h1 | h1
  · exact h1
  · exfalso
    unfold World.cell? at this
    simp [Array.getElem?_eq_none h1] at this
end Go.Proofs.Ytmlnkkalajnjhaa

/-! ### Acts4O -/
namespace Go.Proofs.Ytmlnkkalajnjhaa
open Go.ChangeShapes Go.WideShapes Go.ChangeAt Go.RowKit Go.Joins Go.Deep

structure A4 where
  k : Int
  n : Int
  A : Option Addr
  c : Nat
  l : List Int
  q : Bool
  deriving Inhabited
/-- The cells of one, and its bytes. -/
structure A4At (w : World) (b off : Nat) (x : A4) : Prop where
  c0 : w.cell? ⟨b, off, none⟩ = some (.int .i64 x.k)
  c1 : w.cell? ⟨b, off + 1, none⟩ = some (.int .i64 x.n)
  c2 : w.cell? ⟨b, off + 2, none⟩ = some (.slice x.A x.l.length x.c)
  c3 : w.cell? ⟨b, off + 3, none⟩ = some (.bool x.q)
structure InA4 (w : World) (v : Value) (n : Nat) (f : Nat → A4) : Prop where
  at_ : ∃ A c, v = .slice A n c ∧ n ≤ c ∧ c ≤ maxLen ∧ (0 < n → ∃ b off, A = some ⟨b, off, none⟩ ∧ b < w.heap.size ∧ ∀ k, k < n → A4At w b (off + k * 4) (f k))
  sees : ∀ k, k < n → SeesL w w.heap.size (.slice (f k).A (f k).l.length (f k).c) (f k).l ∧ bytesL (f k).l
section
variable {H : Type} {enc : TypeId × Value → H} {P : Program} {w : World} {base : Nat} {spare : Nat → Bool} {held : Bool}
/-- A list of bytes that came in, of whatever length. -/
theorem sees_list {t e : TypeId} {fuel : Nat} {v : Value} {y : DataW H × List MemPlace} (ht : P.underlying t = some (.slice e)) (he : P.underlying e = some (.int .u8)) (hc : P.cellsOf e = 1)
    (h : DataW.trod enc P w base spare held fuel t [v] = some y) : ∃ A c l, v = .slice A l.length c ∧ SeesL w w.heap.size (.slice A l.length c) l ∧ bytesL l := by
  rcases open_ints ht he hc h with ⟨hcs, _⟩ | ⟨x, n, c, zs, hcs, _, hl, hm, hz, _, hcell, hwz⟩
  · obtain rfl : v = .slice none 0 0 := by simpa using hcs
    exact ⟨none, 0, [], rfl, SeesL.nil, fun x hx => by simp at hx⟩
  · obtain rfl : v = .slice (some x) n c := by simpa using hcs
    have hnz : n ≤ zs.length := by rw [hz]; split <;> omega
    have hlen : (zs.take n).length = n := by simp; omega
    refine ⟨some x, c, zs.take n, by rw [hlen], ⟨some x, c, rfl, by rw [hlen]; exact hl, hm, ?_, fun h => by cases h⟩, fun z hz' => ?_⟩
    · rw [hlen]
      intro h0
      obtain ⟨b, off, rfl, hb⟩ := addr_at (hcell 0 (by omega))
      refine ⟨b, off, rfl, hb, fun k hk => ?_⟩
      have e : bv (zs.take n) k = .int .u8 (zs.getD k 0) := by simp [bv, List.getD_eq_getElem?_getD, hk]
      rw [e]
      have := hcell k (by omega)
      by_cases h0 : k = 0
      · subst h0; simpa [Addr.add] using this
      · simpa [Addr.add, h0] using this
    · have := bounds_u8 (hwz z (List.mem_of_mem_take hz'))
      omega
theorem int_cella {t : TypeId} {n : Nat} {v : Value} {y : DataW H × List MemPlace} (hi : P.underlying t = some (.int .i64)) (h : DataW.trod enc P w base spare held n t [v] = some y) : ∃ z, v = .int .i64 z := by
  obtain ⟨z, hz, -⟩ := DataW.trod_int hi h
  exact ⟨z, by simpa using hz⟩
theorem bool_cella {t : TypeId} {n : Nat} {v : Value} {y : DataW H × List MemPlace} (hi : P.underlying t = some .bool) (h : DataW.trod enc P w base spare held n t [v] = some y) : ∃ z, v = .bool z := by
  obtain ⟨z, hz, -⟩ := DataW.trod_bool hi h
  exact ⟨z, by simpa using hz⟩
theorem sees_acts4 {t e ti tb ts te : TypeId} {f0 f1 f2 f3 : Field} {A : Option Addr} {n c : Nat} {d : DataW H} {ps : List MemPlace} (ht : P.underlying t = some (.slice e)) (he : P.underlying e = some (.struct #[f0, f1, f2, f3])) (ce : P.cellsOf e = 4) (t0 : f0.type = ti ∧ f0.offset = 0) (t1 : f1.type = ti ∧ f1.offset = 1) (t2 : f2.type = ts ∧ f2.offset = 2) (t3 : f3.type = tb ∧ f3.offset = 3)
    (hi : P.underlying ti = some (.int .i64)) (hb : P.underlying tb = some .bool) (hs : P.underlying ts = some (.slice te)) (hu : P.underlying te = some (.int .u8)) (hc : P.cellsOf ti = 1) (hcb : P.cellsOf tb = 1) (hcs : P.cellsOf ts = 1) (hce : P.cellsOf te = 1)
    (h : DataW.Trod enc P w base spare held t (.slice A n c) d ps) : ∃ f, InA4 w (.slice A n c) n f := by
  obtain ⟨fuel, h⟩ := h
  rcases open_slice ht h with ⟨hv, -⟩ | ⟨a, len, cap, m, k, Dt, Pl, hv, -, hl, hm, hmm, -, hx⟩
  · simp [Value.cells] at hv
    obtain ⟨rfl, rfl, rfl⟩ := hv
    exact ⟨fun _ => default, ⟨none, 0, rfl, Nat.le_refl _, Nat.zero_le _, fun h => absurd h (Nat.lt_irrefl _)⟩, fun k hk => absurd hk (by omega)⟩
  · simp [Value.cells] at hv
    obtain ⟨rfl, rfl, rfl⟩ := hv
    have hlm : n ≤ m := by rw [hmm]; split <;> omega
    have each : ∀ i, i < n → ∃ x : A4, (w.cell? (a.add (i * 4)) = some (.int .i64 x.k) ∧ w.cell? (a.add (i * 4 + 1)) = some (.int .i64 x.n) ∧ w.cell? (a.add (i * 4 + 2)) = some (.slice x.A x.l.length x.c) ∧ w.cell? (a.add (i * 4 + 3)) = some (.bool x.q)) ∧ SeesL w w.heap.size (.slice x.A x.l.length x.c) x.l ∧ bytesL x.l := by
      intro i hi'
      obtain ⟨cs', h1, h2⟩ := hx i (by omega)
      rw [ce] at h1
      obtain ⟨_, hlen, hcell⟩ := World.cells?_some h1
      match cs', hlen with
      | [v0, v1, v2, v3], _ =>
        obtain ⟨y0, y1, y2, y3, q, _, _, g0, g1, g2, g3⟩ := trod_struct4 he h2
        rw [t0.1, t0.2, hc] at g0
        rw [t1.1, t1.2, hc] at g1
        rw [t2.1, t2.2, hcs] at g2
        rw [t3.1, t3.2, hcb] at g3
        obtain ⟨z0, rfl⟩ := int_cella hi g0
        obtain ⟨z1, rfl⟩ := int_cella hi g1
        obtain ⟨A', c', l, rfl, hS, hB⟩ := sees_list hs hu hce g2
        obtain ⟨z3, rfl⟩ := bool_cella hb g3
        have e0 := hcell 0 (by omega)
        have e1 := hcell 1 (by omega)
        have e2 := hcell 2 (by omega)
        have e3 := hcell 3 (by omega)
        rw [add_add] at e0 e1 e2 e3
        exact ⟨⟨z0, z1, A', c', l, z3⟩, ⟨by simpa using e0, by simpa using e1, by simpa using e2, by simpa using e3⟩, hS, hB⟩
    obtain ⟨f, hf⟩ := choose_lt each
    refine ⟨f, ⟨some a, c, rfl, hl, hm, fun h0 => ?_⟩, fun k hk => (hf k hk).2⟩
    have h00 := (hf 0 h0).1.1
    obtain ⟨b, off, rfl, hbb⟩ := addr_at (v := .int .i64 (f 0).k) (by simpa using h00)
    have hadd : ∀ j, (⟨b, off, none⟩ : Addr).add j = ⟨b, off + j, none⟩ := fun j => by unfold Addr.add; split <;> simp_all
    simp only [hadd] at hf
    refine ⟨b, off, rfl, hbb, fun k hk => ?_⟩
    obtain ⟨⟨e0, e1, e2, e3⟩, -⟩ := hf k hk
    exact ⟨e0, by rw [Nat.add_assoc]; exact e1, by rw [Nat.add_assoc]; exact e2, by rw [Nat.add_assoc]; exact e3⟩
end
end Go.Proofs.Ytmlnkkalajnjhaa

/-! ### FtO -/
namespace Go.Proofs.Ytmlnkkalajnjhaa
open Go.ChangeShapes Go.WideShapes Go.ChangeAt Go.RowKit Go.Joins Go.Deep

section
variable {H : Type} {enc : TypeId × Value → H} {P : Program} {w : World} {base : Nat} {spare : Nat → Bool} {held : Bool}
theorem sees_fault {r : Reach} {b0 : Nat} {t ti ts te : TypeId} {f0 f1 f2 f3 : Field} {v : Value} {d : DataW H} {ps : List MemPlace} (hs : P.underlying t = some (.struct #[f0, f1, f2, f3])) (hC : P.cellsOf t = 4) (t0 : f0.type = ti ∧ f0.offset = 0) (t1 : f1.type = ti ∧ f1.offset = 1) (t2 : f2.type = ti ∧ f2.offset = 2) (t3 : f3.type = ts ∧ f3.offset = 3)
    (hi : P.underlying ti = some (.int .i64)) (hsl : P.underlying ts = some (.slice te)) (hu : P.underlying te = some (.int .u8)) (hc : P.cellsOf ti = 1) (hcs : P.cellsOf ts = 1) (hce : P.cellsOf te = 1)
    (hv : Value.okWide P w r b0 t v) (h : DataW.Trod enc P w base spare held t v d ps) : ∃ (f : Ft) (A : Option Addr) (c : Nat), v = .agg #[.int .i64 f.k, .int .i64 f.n, .int .i64 f.a, .slice A f.d.length c] ∧ SeesL w w.heap.size (.slice A f.d.length c) f.d ∧ bytesL f.d := by
  obtain ⟨cs, rfl, hsz⟩ := okWide_struct hs hv
  obtain ⟨c0, c1, c2, c3, rfl⟩ := array4 (hsz.trans hC)
  obtain ⟨fuel, hf⟩ := h
  obtain ⟨y0, y1, y2, y3, q, _, _, g0, g1, g2, g3⟩ := trod_struct4 hs hf
  rw [t0.1, t0.2, hc] at g0
  rw [t1.1, t1.2, hc] at g1
  rw [t2.1, t2.2, hc] at g2
  rw [t3.1, t3.2, hcs] at g3
  obtain ⟨z0, rfl⟩ := int_cella hi g0
  obtain ⟨z1, rfl⟩ := int_cella hi g1
  obtain ⟨z2, rfl⟩ := int_cella hi g2
  obtain ⟨A, c, l, rfl, hS, hB⟩ := sees_list hsl hu hce g3
  exact ⟨⟨z0, z1, z2, l⟩, A, c, rfl, hS, hB⟩
end
set_option maxRecDepth 100000 in
set_option maxHeartbeats 4000000 in
theorem may_srr (k n a : Int) (A : Option Addr) (d c : Nat) (w : World) :
    Calls Try.prog 19 #[.agg #[.int .i64 k, .int .i64 n, .int .i64 a, .slice A d c]] w fun e w' => e = .returned (.bool (ftMay k n a d)) ∧ Below w.heap.size w w' := by
  have hb0 := (Below.refl w.heap.size w).alloc (Nat.le_refl _) (.cells #[.int .i64 k, .int .i64 n, .int .i64 a, .slice A d c] 34)
  have hX := Blk.new w _ rfl #[.int .i64 k, .int .i64 n, .int .i64 a, .slice A d c] 34
  have x0 := hX.cell 0 (x := .int .i64 k) rfl
  have x1 := hX.cell 1 (x := .int .i64 n) rfl
  have x2 := hX.cell 2 (x := .int .i64 a) rfl
  have x3 := hX.cell 3 (x := .slice A d c) rfl
  have K := Lib.hid (ftMay_iff k n a d)
  clear hX
  generalize ftMay k n a d = q at *
  by_cases h4 : k = 4
  · subst h4
    go_enter Try.func19, Try.ntmps19
    go_wp2
    all_goals
      go_ret
      refine ⟨?_, hb0⟩
      have K := K.out
      cases q <;> simp at K ⊢ <;> omega
  · by_cases h7 : k = 7
    · subst h7
      go_enter Try.func19, Try.ntmps19
      go_wp2
      all_goals
        go_ret
        refine ⟨?_, hb0⟩
        have K := K.out
        cases q <;> simp at K ⊢ <;> omega
    · have q4 : (k == 4) = false := by rw [beq_eq_false_iff_ne]; exact h4
      have q7 : (k == 7) = false := by rw [beq_eq_false_iff_ne]; exact h7
      go_enter Try.func19, Try.ntmps19
      go_wp2
      all_goals
        go_ret
        refine ⟨?_, hb0⟩
        have K := K.out
        cases q <;> simp at K ⊢ <;> omega


end Go.Proofs.Ytmlnkkalajnjhaa

/-! ### BoolsO -/
namespace Go.Proofs.Ytmlnkkalajnjhaa
open Go.ChangeShapes Go.WideShapes Go.ChangeAt Go.RowKit Go.Joins Go.Deep

/-- Bools that came in. -/
structure InBools (w : World) (v : Value) (n : Nat) (f : Nat → Bool) : Prop where
  at_ : ∃ A c, v = .slice A n c ∧ n ≤ c ∧ c ≤ maxLen ∧ (0 < n → ∃ b off, A = some ⟨b, off, none⟩ ∧ b < w.heap.size ∧ ∀ k, k < n → w.cell? ⟨b, off + k, none⟩ = some (.bool (f k)))
section
variable {H : Type} {enc : TypeId × Value → H} {P : Program} {w : World} {base : Nat} {spare : Nat → Bool} {held : Bool}
theorem bool_cellg {t : TypeId} {n : Nat} {v : Value} {y : DataW H × List MemPlace} (hi : P.underlying t = some .bool) (h : DataW.trod enc P w base spare held n t [v] = some y) : ∃ z, v = .bool z := by
  obtain ⟨z, hz, -⟩ := DataW.trod_bool hi h
  exact ⟨z, by simpa using hz⟩
theorem sees_bools {t e : TypeId} (ht : P.underlying t = some (.slice e)) (he : P.underlying e = some .bool) (hc : P.cellsOf e = 1) {A : Option Addr} {n c : Nat} {d : DataW H} {ps : List MemPlace}
    (h : DataW.Trod enc P w base spare held t (.slice A n c) d ps) : ∃ f, InBools w (.slice A n c) n f := by
  obtain ⟨fuel, h⟩ := h
  rcases open_slice ht h with ⟨hcs, -⟩ | ⟨a, len, cap, m, k, Dt, Pl, hcs, -, hl, hm, hmm, -, hx⟩
  · simp [Value.cells] at hcs
    obtain ⟨rfl, rfl, rfl⟩ := hcs
    exact ⟨fun _ => false, ⟨none, 0, rfl, Nat.le_refl _, Nat.zero_le _, fun h => absurd h (Nat.lt_irrefl _)⟩⟩
  · simp [Value.cells] at hcs
    obtain ⟨rfl, rfl, rfl⟩ := hcs
    have hlm : n ≤ m := by rw [hmm]; split <;> omega
    have each : ∀ i, i < n → ∃ b : Bool, w.cell? (a.add i) = some (.bool b) := by
      intro i hi'
      obtain ⟨cs', h1, h2⟩ := hx i (by omega)
      rw [hc] at h1
      obtain ⟨_, hlen, hcell⟩ := World.cells?_some h1
      match cs', hlen with
      | [v0], _ =>
        obtain ⟨b, rfl⟩ := bool_cellg he h2
        have e0 := hcell 0 (by omega)
        rw [add_add] at e0
        exact ⟨b, by simpa using e0⟩
    obtain ⟨f, hf⟩ := choose_lt each
    refine ⟨f, ⟨some a, c, rfl, hl, hm, fun h0 => ?_⟩⟩
    have h00 := hf 0 h0
    obtain ⟨b, off, spot⟩ := a
    have hsp : spot = none := World.cell?_spot (v := .bool (f 0)) (by simpa [Addr.add] using h00)
    subst hsp
    have hadd : ∀ j, (⟨b, off, none⟩ : Addr).add j = ⟨b, off + j, none⟩ := fun j => by unfold Addr.add; split <;> simp_all
    simp only [hadd] at hf
    exact ⟨b, off, rfl, World.block_lt_of_cell? w _ (hf 0 h0), fun k hk => hf k hk⟩
end
end Go.Proofs.Ytmlnkkalajnjhaa
