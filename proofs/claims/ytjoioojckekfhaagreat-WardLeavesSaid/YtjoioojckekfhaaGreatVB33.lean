/- Texts LineF, LineG, Copy, LineH, LineI in one. For what each says in front of its theorems. -/
import Derived.Laws.BytesString
import Derived.Laws.Cells
import Derived.Laws.CopyOwn
import Derived.Test.YtjoioojckekfhaaGreatVB1
import Derived.Test.YtjoioojckekfhaaGreatVB32
/-! ### LineF -/
namespace Go.Proofs.YtjoioojckekfhaaGreat
open Go.RowKit

/-- What a channel's levels tell: silence, bytes, or noise. -/
def Told (w' : World) (B : Nat) (q : Nat → Int) (n : Nat) (K : Int) (v : Value) : Prop :=
  (allZ q n = true ∧ K = 0 ∧ v = .slice none 0 0) ∨ (allZ q n = false ∧ n % 8 = 0 ∧ allU q n = true ∧ K = 2 ∧ Owns w' B 5 v (n / 8) (fun j => .int .u8 (packed q j))) ∨
  (allZ q n = false ∧ (n % 8 ≠ 0 ∨ allU q n = false) ∧ K = 1 ∧ v = .slice none 0 0)
def SomeTold (w : World) (q : Nat → Int) (n : Nat) (e : Ending) (w' : World) : Prop := ∃ K v, e = .returned (.tuple #[.int .i64 K, v]) ∧ Told w' w.heap.size q n K v ∧ Below w.heap.size w w'

set_option maxRecDepth 100000 in
set_option maxHeartbeats 1000000 in
theorem tell_any (A : Option Addr) (n c : Nat) (a b : Nat → Int) (s : Bool) (w : World) (h : Sees w w.heap.size A n fun k => cx (a k) (b k)) (hq : ∀ k, k < n → (pt s (a k) (b k)).natAbs < 2 ^ 53) (hn : n ≤ c) (hc : c ≤ maxLen) (hr : n ≤ 140737488355328) :
    Calls Tryz.prog 136 #[.slice A n c, .bool s] w (SomeTold w (fun k => pt s (a k) (b k)) n) := by
  have hc' := hc
  unfold maxLen at hc'
  obtain ⟨E, hE⟩ : ∃ E : Bool, E = decide (n % 8 = 0) := ⟨_, rfl⟩
  have HE := Lib.hid hE
  have hE' : ((n : Int) % 8 == 0) = E := by
    rw [hE, Bool.eq_iff_iff]
    simp
    omega
  clear hE
  go_enter Tryz.func136, Tryz.ntmps136
  go_wp2
  clear hE'
  go_loop [6, 7, 17] (fun x y i => ∃ k : Nat, k ≤ n ∧ i = .int .i64 k ∧ x = .bool (allZ (fun k => pt s (a k) (b k)) k) ∧ y = .bool (E && allU (fun k => pt s (a k) (b k)) k)) (fun _ _ i => n - (intOf i).toNat)
  case atStart => exact ⟨0, by omega, rfl, rfl, by simp [allU]⟩
  case round =>
    obtain ⟨k, hk, rfl, rfl, rfl⟩ := hrel
    by_cases hlt : k < n
    · obtain ⟨b0, off, rfl, hbb, hcell⟩ := h (by omega)
      have hx : w.cell? ⟨b0, off + k, none⟩ = some (cx (a k) (b k)) := hcell k (by omega)
      have hqk := hq k hlt
      have h0 := is_zero (pt s (a k) (b k)) hqk
      have h1 := is_one (pt s (a k) (b k)) hqk
      have h2 := is_minus (pt s (a k) (b k)) hqk
      have HZ := Lib.hid (allZ_succ (fun k => pt s (a k) (b k)) k)
      have HU := Lib.hid (allU_succ (fun k => pt s (a k) (b k)) k)
      clear hcell
      have H0 := Lib.hid (show (pt s (a k) (b k) == 0) = decide (pt s (a k) (b k) = 0) by rw [Bool.eq_iff_iff]; simp)
      have H1 := Lib.hid (show (pt s (a k) (b k) == 1) = decide (pt s (a k) (b k) = 1) by rw [Bool.eq_iff_iff]; simp)
      have H2 := Lib.hid (show (pt s (a k) (b k) == -1) = decide (pt s (a k) (b k) = -1) by rw [Bool.eq_iff_iff]; simp)
      generalize decide (pt s (a k) (b k) = 0) = d0 at *
      generalize decide (pt s (a k) (b k) = 1) = d1 at *
      generalize decide (pt s (a k) (b k) = -1) = d2 at *
      generalize allZ (fun k => pt s (a k) (b k)) k = x at *
      have HY := Lib.hid (Bool.and_assoc E (allU (fun k => pt s (a k) (b k)) k) (d1 || d2))
      generalize (E && allU (fun k => pt s (a k) (b k)) k) = y at *
      cases x <;> cases y <;> cases d0 <;> cases d1 <;> cases d2
      all_goals
        go_wp2_with (go_at_call 149; refine (level_cx (a k) (b k) s _).mono ?_; rintro e w' ⟨rfl, rfl⟩)
        go_round
        case rel => exact ⟨k + 1, by omega, by go_num, by rw [HZ.out, H0.out]; rfl, by rw [HU.out, H1.out, H2.out, ← HY.out]; rfl⟩
        case measure => simp [intOf]; omega
    · obtain rfl : k = n := by omega
      have hE := HE.out
      cases hz : allZ (fun k => pt s (a k) (b k)) k
      · cases hu : (E && allU (fun k => pt s (a k) (b k)) k)
        · have HU := Lib.hid hu
          have HZ := Lib.hid hz
          clear hz hu hE
          go_wp2
          go_ret2
          refine ⟨1, _, rfl, .inr (.inr ⟨HZ.out, ?_, rfl, rfl⟩), Below.refl _ _⟩
          have h1 := HU.out
          rw [HE.out, Bool.and_eq_false_iff] at h1
          rcases h1 with h1 | h1
          · exact .inl (by simpa using h1)
          · exact .inr h1
        · have HU := Lib.hid hu
          have HZ := Lib.hid hz
          clear hz hu hE
          have h1 := HU.out
          rw [HE.out, Bool.and_eq_true] at h1
          obtain ⟨h8, h9⟩ := h1
          have h8' : k % 8 = 0 := by simpa using h8
          have H9 := Lib.hid h9
          have H8 := Lib.hid h8'
          clear h8 h9 h8'
          go_wp2_with (go_at_call 150; refine (pack_any A k c a b s w h hq H8.out hn hc hr).mono ?_; rintro e w' ⟨v, rfl, hov, hbv⟩)
          go_ret2
          exact ⟨2, v, rfl, .inr (.inl ⟨HZ.out, H8.out, H9.out, rfl, hov⟩), hbv⟩
      · have HZ := Lib.hid hz
        clear hz hE
        go_wp2
        go_ret2
        exact ⟨0, _, rfl, .inl ⟨HZ.out, rfl, rfl⟩, Below.refl _ _⟩

/-- What both channels tell. -/
def BothTold (w : World) (a b : Nat → Int) (n : Nat) (e : Ending) (w' : World) : Prop :=
  ∃ K v L u, e = .returned (.tuple #[.int .i64 K, v, .int .i64 L, u]) ∧ Told w' w.heap.size a n K v ∧ Told w' w.heap.size b n L u ∧ Below w.heap.size w w'

set_option maxRecDepth 100000 in
theorem Told.below {w w' : World} {B B' : Nat} {q : Nat → Int} {n : Nat} {K : Int} {v : Value} (h : Told w B q n K v) (hb : Below B' w w') (hB : w.heap.size ≤ B') : Told w' B q n K v := by
  rcases h with h | ⟨h1, h2, h3, h4, h5⟩ | h
  · exact .inl h
  · exact .inr (.inl ⟨h1, h2, h3, h4, World.ownsRow.kept (row := none) h5 ⟨hb.os, hb.tape, hb.output, hb.size, fun k hk _ => hb.block k (by omega)⟩ (by
      rcases h5.2 with ⟨rfl, _⟩ | ⟨g, cap, cur, rfl, _⟩
      · exact .inl rfl
      · exact .inr (by simp [Value.ownBlock]))⟩)
  · exact .inr (.inr h)
set_option maxRecDepth 100000 in
theorem Told.base {w : World} {B B' : Nat} {q : Nat → Int} {n : Nat} {K : Int} {v : Value} (h : Told w B q n K v) (hB : B' ≤ B) : Told w B' q n K v := by
  rcases h with h | ⟨h1, h2, h3, h4, h5⟩ | h
  · exact .inl h
  · refine .inr (.inl ⟨h1, h2, h3, h4, h5.1, ?_⟩)
    rcases h5.2 with h6 | ⟨g, cap, cur, h6, h7, h8⟩
    · exact .inl h6
    · exact .inr ⟨g, cap, cur, h6, by omega, h8⟩
  · exact .inr (.inr h)

set_option maxRecDepth 100000 in
theorem lread_any (A : Option Addr) (n c : Nat) (a b : Nat → Int) (w : World) (h : Sees w w.heap.size A n fun k => cx (a k) (b k)) (ha : ∀ k, k < n → (a k).natAbs < 2 ^ 53) (hb : ∀ k, k < n → (b k).natAbs < 2 ^ 53) (hn : n ≤ c) (hc : c ≤ maxLen) (hr : n ≤ 140737488355328) :
    Calls Tryz.prog 110 #[.slice A n c] w (BothTold w a b n) := by
  have T1 := tell_any A n c a b false w h (fun k hk => by simpa [pt] using ha k hk) hn hc hr
  go_enter Tryz.func110, Tryz.ntmps110
  go_wp2_with fail
  refine T1.mono ?_
  rintro e w1 ⟨K, v, rfl, ht, hb1⟩
  have T2 := tell_any A n c a b true w1 ((h.below hb1).more hb1.size) (fun k hk => by simpa [pt] using hb k hk) hn hc hr
  go_wp2_with fail
  refine T2.mono ?_
  rintro e w2 ⟨L, u, rfl, ht2, hb2⟩
  go_wp2
  refine bodyPost_ret (v := .tuple #[.int .i64 K, v, .int .i64 L, u]) (by simp [results, Tryz.results110, go_sem]) rfl ?_
  refine ⟨K, v, L, u, rfl, ?_, ?_, hb1.trans (hb2.mono hb1.size)⟩
  · simpa [pt] using ht.below hb2 (Nat.le_refl _)
  · simpa [pt] using ht2.base hb1.size
end Go.Proofs.YtjoioojckekfhaaGreat

/-! ### LineG -/
namespace Go.Proofs.YtjoioojckekfhaaGreat
open Go.RowKit

def lv (f : Bool) (z : Nat → Int) (k : Nat) : Int := if f then (if bitv (z (k / 8)) (k % 8) then 1 else -1) else 0
set_option maxRecDepth 100000 in
theorem drv_cx (f s : Bool) (z : Nat → Int) (k : Nat) : drv f s z k = cx (lv f z k) (lv s z k) := by
  have h1 : part f (lvl (bitv (z (k / 8)) (k % 8))) = floatOfInt .f64 (lv f z k) := by
    unfold part lvl lv
    cases f
    · exact fl_zero.symm
    · cases bitv (z (k / 8)) (k % 8)
      · exact fl_minus.symm
      · exact fl_one.symm
  have h2 : part s (lvl (bitv (z (k / 8)) (k % 8))) = floatOfInt .f64 (lv s z k) := by
    unfold part lvl lv
    cases s
    · exact fl_zero.symm
    · cases bitv (z (k / 8)) (k % 8)
      · exact fl_minus.symm
      · exact fl_one.symm
  unfold drv cx
  rw [h1, h2]
set_option maxRecDepth 100000 in
theorem lv_small (f : Bool) (z : Nat → Int) (k : Nat) : (lv f z k).natAbs < 2 ^ 53 := by
  unfold lv
  split
  · split <;> decide
  · decide
set_option maxRecDepth 100000 in
theorem drive_cx (A : Option Addr) (n c : Nat) (z : Nat → Int) (f s : Bool) (w : World) (h : Sees w w.heap.size A n fun k => .int .u8 (z k)) (hz : ∀ k, k < n → 0 ≤ z k ∧ z k < 256) (hn : n ≤ c) (hc : c ≤ maxLen) :
    Calls Tryz.prog 132 #[.slice A n c, .bool f, .bool s] w fun e w' =>
      ∃ v, e = .returned v ∧ Owns w' w.heap.size 174 v (8 * min n 50) (fun k => cx (lv f z k) (lv s z k)) ∧ Below w.heap.size w w' := by
  refine (drive_any A n c z f s w h hz hn hc).mono ?_
  rintro e w' ⟨v, rfl, ho, hb⟩
  exact ⟨v, rfl, ho.alike fun k _ => drv_cx f s z k, hb⟩

set_option maxRecDepth 100000 in
theorem allZ_iff (q : Nat → Int) (n : Nat) : allZ q n = true ↔ ∀ k, k < n → q k = 0 := by simp [allZ]
set_option maxRecDepth 100000 in
theorem allU_iff (q : Nat → Int) (n : Nat) : allU q n = true ↔ ∀ k, k < n → q k = 1 ∨ q k = -1 := by simp [allU]
set_option maxRecDepth 100000 in
theorem lv_silent (z : Nat → Int) (n : Nat) : allZ (lv false z) n = true := (allZ_iff _ _).2 fun _ _ => rfl
set_option maxRecDepth 100000 in
theorem lv_unit (z : Nat → Int) (k : Nat) : lv true z k = 1 ∨ lv true z k = -1 := by
  unfold lv
  simp only [if_true]
  split
  · exact .inl rfl
  · exact .inr rfl
set_option maxRecDepth 100000 in
theorem lv_units (z : Nat → Int) (n : Nat) : allU (lv true z) n = true := (allU_iff _ _).2 fun k _ => lv_unit z k
set_option maxRecDepth 100000 in
theorem lv_loud (z : Nat → Int) (n : Nat) (hn : 0 < n) : allZ (lv true z) n = false := by
  rw [Bool.eq_false_iff]
  intro h
  have := (allZ_iff _ _).1 h 0 hn
  rcases lv_unit z 0 with h1 | h1 <;> omega

set_option maxRecDepth 100000 in
theorem byte_bits (x : Fin 256) : (List.range 8).foldl (fun a k => a ||| (if x.val.testBit (7 - k) = true then 128 / 2 ^ k else 0)) 0 = x.val := by
  revert x
  decide +kernel
set_option maxRecDepth 100000 in
theorem foldl_same {α β : Type} (f g : α → β → α) : ∀ (l : List β) (a : α), (∀ a k, k ∈ l → f a k = g a k) → l.foldl f a = l.foldl g a
  | [], _, _ => rfl
  | k :: l, a, h => by
    rw [List.foldl_cons, List.foldl_cons, h a k (List.mem_cons_self), foldl_same f g l (g a k) fun a' k' hk => h a' k' (List.mem_cons_of_mem _ hk)]
set_option maxRecDepth 100000 in
theorem packed_lv (z : Nat → Int) (j : Nat) (hz : 0 ≤ z j ∧ z j < 256) : packed (lv true z) j = z j := by
  obtain ⟨x, hx⟩ := Int.eq_ofNat_of_zero_le hz.1
  have hb : _ = x := byte_bits ⟨x, by omega⟩
  have he : packTo (lv true z) j 8 = x := by
    refine Eq.trans ?_ hb
    refine foldl_same _ _ _ _ fun a k hk => ?_
    have hk8 : k < 8 := List.mem_range.1 hk
    have hl : lv true z (8 * j + k) = if x.testBit (7 - k) = true then 1 else -1 := by
      unfold lv bitv
      rw [show (8 * j + k) / 8 = j by omega, show (8 * j + k) % 8 = k by omega, hx]
      rfl
    rw [hl]
    cases x.testBit (7 - k) <;> rfl
  unfold packed
  rw [he, hx]

/-- Bytes as a string. -/
def strOf (z : Nat → Int) (n : Nat) : ByteArray := ((List.range n).map z).foldl (fun r n => r.push (UInt8.ofNat n.toNat)) ByteArray.empty
set_option maxRecDepth 100000 in
theorem strOf_congr {z z' : Nat → Int} {n : Nat} (h : ∀ k, k < n → z k = z' k) : strOf z n = strOf z' n := by
  unfold strOf
  rw [List.map_congr_left fun k hk => h k (List.mem_range.1 hk)]
set_option maxRecDepth 100000 in
theorem run_string {w : World} {B n c : Nat} {A : Option Addr} {z : Nat → Int} (h : Sees w B A n fun k => .int .u8 (z k)) (h0 : 0 < n) :
    (convert 36 9 (.slice A n c)).run Tryz.prog w = .ok (.string (strOf z n)) w := by
  obtain ⟨b, off, rfl, -, hc⟩ := h h0
  rw [run_convert_bytes_string w _ _ 5 _ _ _ Tryz.underlying36 Tryz.underlying5 Tryz.underlying9]
  refine run_bytesToString w _ _ _ ((List.range n).map z) ?_
  rw [run_loadCells w ⟨b, off, none⟩ n (fun k => .int .u8 (z k)) (fun j hj => ?_)]
  · rw [List.map_map]; rfl
  · have := hc j hj
    by_cases h0 : j = 0
    · subst h0; simpa [Addr.add] using this
    · simpa [Addr.add, h0] using this
set_option maxRecDepth 100000 in
/-- The same behind a draw. -/
theorem run_string_later {w : World} {B n c : Nat} {A : Option Addr} {z : Nat → Int} (h : Sees w B A n fun k => .int .u8 (z k)) (h0 : 0 < n) :
    (convert 36 9 (.slice A n c)).run Tryz.prog w.drew = .ok (.string (strOf z n)) w.drew := run_string (w := w.drew) h h0
end Go.Proofs.YtjoioojckekfhaaGreat

/-! ### Copy -/
namespace Go.Proofs.YtjoioojckekfhaaGreat
open Go.RowKit

theorem map_at (n : Nat) (V : Nat → Value) (j : Nat) (v : Value) (h : ((List.range n).map V)[j]? = some v) : j < n ∧ v = V j := by
  rw [List.getElem?_map] at h
  by_cases hj : j < n
  · rw [List.getElem?_range hj] at h
    exact ⟨hj, by simpa using h.symm⟩
  · rw [List.getElem?_eq_none (by simpa using hj)] at h
    cases h

theorem wpList_copyAll {P : Program} (w : World) {ops : Array Oper} {rest : List Oper} {o : Oper} {a : Act} {Q : Exit → Act → World → Prop} (hgd : o.guard = none) (d s : Operand) (dT sT : TypeId)
    (ho : o.op = .call { callee := .builtin .copy, args := #[d, s], argTypes := #[dT, sT] }) (e : TypeId) (z : Value) (bytes : Nat) (ht : P.underlying dT = some (.slice e)) (hinf : (P.info? e).map (fun i => (i.zero, i.size, i.bytes)) = some (some z, 1, bytes))
    (B : Nat) (W : World) (hbel : Below B W w) (g n : Nat) (U : Nat → Value) (hown : Owns w B e (.slice (some ⟨g, 0, none⟩) n n) n U) (hd : a.eval d = .slice (some ⟨g, 0, none⟩) n n)
    (Bs : Nat) (A : Option Addr) (c : Nat) (V : Nat → Value) (hs : a.eval s = .slice A n c) (hsee : Sees w Bs A n V) (hV : ∀ k, k < n → (V k).oneCell' = true)
    (h : ∀ w', Owns w' B e (.slice (some ⟨g, 0, none⟩) n n) n V → Below B W w' → wpList P ops Q rest (a.put o.dst (goInt n)) w') : wpList P ops Q (o :: rest) a w := by
  obtain ⟨i0, hi, hz0, hz1, hz2⟩ := info_parts hinf
  have hBg := (World.ownsRow.lt hown g rfl).1
  obtain ⟨hl, hh⟩ := hown
  rcases hh with ⟨h', _⟩ | ⟨g', cap, cur, h', hb, hg, hn, hc, hsz, htk⟩
  · simp at h'
  simp only [Value.slice.injEq, Option.some.injEq, Addr.mk.injEq, and_true, true_and] at h'
  obtain ⟨rfl, rfl⟩ := h'
  have hcur : cur.toList = (List.range n).map U := by
    rw [← htk, List.take_of_length_le (by simp; omega)]
  refine wpList_copy_splice hgd d s dT sT ho e ht (by rw [hi]; simp [hz1]) (some ⟨g, 0, none⟩) A n n n c hd hs g 0 cur.toList e (by simpa using hg) ((List.range n).map V) (by simp) ?_ (by simp; omega) ?_ B W hbel hBg ?_
  · intro h0
    obtain ⟨b, off, rfl, _, hcell⟩ := hsee (by simpa using h0)
    refine ⟨rfl, _, rfl, fun j v hj => ?_⟩
    obtain ⟨hjn, rfl⟩ := map_at n V j v hj
    have := hcell j hjn
    by_cases h1 : j = 0
    · subst h1; simpa [Addr.add] using this
    · simpa [Addr.add, h1] using this
  · intro v hv
    obtain ⟨k, hk, rfl⟩ := List.mem_map.1 hv
    exact hV k (List.mem_range.1 hk)
  · intro w' hg' hb'
    have hl' : ((List.range n).map V).length = n := by simp
    rw [hl']
    refine h w' ⟨by simp, .inr ⟨g, n, _, rfl, hBg, hg'.out, Nat.le_refl _, hc, ?_, ?_⟩⟩ hb'
    · simp [splice, hcur]
    · simp [splice, hcur]
end Go.Proofs.YtjoioojckekfhaaGreat

/-! ### LineH -/
namespace Go.Proofs.YtjoioojckekfhaaGreat
open Go.RowKit

def pf (f : Bool) (a : Int) : Int := if f then a else 0
set_option maxRecDepth 100000 in
theorem keep_cx (a b : Int) (f s : Bool) (w : World) :
    Calls Tryz.prog 147 #[cx a b, .bool f, .bool s] w fun e w' => e = .returned (.complex .f64 (floatOfInt .f64 (pf f a)) (floatOfInt .f64 (pf s b))) ∧ w = w' := by
  have h := keep_any (floatOfInt .f64 a) (floatOfInt .f64 b) f s w
  have e1 : ∀ (f : Bool) (a : Int), part f (floatOfInt .f64 a) = floatOfInt .f64 (pf f a) := fun f a => by
    cases f
    · simp only [part, pf, Bool.false_eq_true, if_false]
      exact fl_zero.symm
    · simp only [part, pf, if_true]
  rw [e1, e1] at h
  exact h
set_option maxRecDepth 100000 in
theorem store_complex (P : Program) (w : World) (ad : Addr) (m : Mode) (k : FloatKind) (a b : Nat) : (store ad (.complex k a b) m).run P w = stored P w ad (.complex k a b) m := run_store P w ad _ m rfl
attribute [local go_sem] store_complex

set_option maxRecDepth 100000 in
set_option maxHeartbeats 1000000 in
theorem gate_any (A : Option Addr) (n c : Nat) (a b : Nat → Int) (f s : Bool) (w : World) (h : Sees w w.heap.size A n fun k => cx (a k) (b k)) (hr : n ≤ 8796093022208) :
    Calls Tryz.prog 135 #[.slice A n c, .bool f, .bool s] w fun e w' =>
      ∃ v, e = .returned v ∧ Owns w' w.heap.size 174 v n (fun k => cx (pf f (a k)) (pf s (b k))) ∧ Below w.heap.size w w' := by
  go_enter Tryz.func135, Tryz.ntmps135
  go_wp2_with (at_make; go_loud (refine wpList_zeros _ rfl _ _ 142 rfl w.heap.size w (Below.refl _ _) (Nat.le_refl _) 174 (.complex .f64 0 0) 16 infoCx rfl Tryz.underlying142 _ _ _ _ n rfl rfl rfl rfl (by omega) (by unfold maxLen; omega) ?_))
  intro w1 ho1 hb1 hs1 _
  go_wp2
  go_loopw [15] (fun i wr => ∃ k : Nat, k ≤ n ∧ i = .int .i64 k ∧ Owns wr w.heap.size 174 (.slice (some ⟨w.heap.size, 0, none⟩) n n) n (fun j => if j < k then cx (pf f (a j)) (pf s (b j)) else .complex .f64 0 0) ∧ Below w.heap.size w wr) (fun i _ => n - (intOf i).toNat)
  case atStart => exact ⟨0, by omega, rfl, ho1.alike fun k _ => by simp, hb1⟩
  case round =>
    obtain ⟨k, hk, rfl, hown, hbel⟩ := hrel
    clear ho1 hb1
    by_cases hlt : k < n
    · obtain ⟨b0, off, rfl, hbb, hcell⟩ := h (by omega)
      have hx : wr.cell? ⟨b0, off + k, none⟩ = some (.complex .f64 (floatOfInt .f64 (a k)) (floatOfInt .f64 (b k))) := (hbel.cell hbb).trans (hcell k (by omega))
      have hold := hown.cell hlt
      have hfr := hown.frozen k
      rw [if_neg (Nat.lt_irrefl k)] at hold
      have ho2 := hown.set_ (V' := fun j => if j < k + 1 then cx (pf f (a j)) (pf s (b j)) else .complex .f64 0 0) k (cx (pf f (a k)) (pf s (b k))) (by simp) (fun j _ hj => by
        by_cases h1 : j < k
        · rw [if_pos h1, if_pos (by omega)]
        · rw [if_neg h1, if_neg (by omega)])
      have hb2 := hbel.setCell (p := ⟨w.heap.size, k, none⟩) (Nat.le_refl _) (cx (pf f (a k)) (pf s (b k)))
      clear hcell
      go_wp2_with (go_at_call 147; refine (keep_cx (a k) (b k) f s _).mono ?_; rintro e w' ⟨rfl, rfl⟩)
      go_roundw
      case rel => exact ⟨k + 1, by omega, by go_num, ho2, hb2⟩
      case measure => simp [intOf]; omega
    · go_wp2
      go_ret
      exact ⟨_, rfl, hown.alike fun j hj => by rw [if_pos (by omega)], hbel⟩

set_option maxRecDepth 100000 in
theorem run_sub_cx (w : World) (a b : Int) (ha : a.natAbs < 2 ^ 52) (hb : b.natAbs < 2 ^ 52) :
    (binOp .sub 174 (.complex .f64 0 0) (.complex .f64 (floatOfInt .f64 a) (floatOfInt .f64 b))).run Tryz.prog w = .ok (.complex .f64 (floatOfInt .f64 (-a)) (floatOfInt .f64 (-b))) w := by
  refine run_complex_sum w .sub (.inr rfl) _ _ _ _ _ _ _ _ ?_
  unfold cSumBits
  rw [sub_zero_fl a ha, sub_zero_fl b hb]
  rfl
set_option maxRecDepth 100000 in
theorem run_add_cx (w : World) (a b c d : Int) (ha : a.natAbs < 2 ^ 52) (hb : b.natAbs < 2 ^ 52) (hc : c.natAbs < 2 ^ 52) (hd : d.natAbs < 2 ^ 52) :
    (binOp .add 174 (.complex .f64 (floatOfInt .f64 a) (floatOfInt .f64 b)) (.complex .f64 (floatOfInt .f64 c) (floatOfInt .f64 d))).run Tryz.prog w = .ok (.complex .f64 (floatOfInt .f64 (a + c)) (floatOfInt .f64 (b + d))) w := by
  refine run_complex_sum w .add (.inl rfl) _ _ _ _ _ _ _ _ ?_
  unfold cSumBits
  rw [add_fl a c ha hc, add_fl b d hb hd]
  rfl

/-- A row with the sample at a place turned. -/
def turned (t : Int) (a : Nat → Int) (k : Nat) : Int := if (k : Int) = t then -a k else a k

set_option maxRecDepth 100000 in
set_option maxHeartbeats 1000000 in
theorem turn_any (A : Option Addr) (n c : Nat) (a b : Nat → Int) (t : Int) (w : World) (h : Sees w w.heap.size A n fun k => cx (a k) (b k)) (ha : ∀ k, k < n → (a k).natAbs < 2 ^ 52) (hb : ∀ k, k < n → (b k).natAbs < 2 ^ 52) (ht : -9223372036854775808 ≤ t ∧ t ≤ 9223372036854775807) (hr : n ≤ 8796093022208) :
    Calls Tryz.prog 148 #[.slice A n c, .int .i64 t] w fun e w' =>
      ∃ v, e = .returned v ∧ Owns w' w.heap.size 174 v n (fun k => cx (turned t a k) (turned t b k)) ∧ Below w.heap.size w w' := by
  by_cases h0 : 0 ≤ t ∧ t < n
  · obtain ⟨T, rfl⟩ := Int.eq_ofNat_of_zero_le h0.1
    have hT : T < n := by omega
    have hd0 : decide ((0 : Int) ≤ (T : Int)) = true := by simp
    have hd1 : decide (T < n) = true := by simp; omega
    clear h0
    go_enter Tryz.func148, Tryz.ntmps148
    go_wp2_with (at_make; go_loud (refine wpList_zeros _ rfl _ _ 142 rfl w.heap.size w (Below.refl _ _) (Nat.le_refl _) 174 (.complex .f64 0 0) 16 infoCx rfl Tryz.underlying142 _ _ _ _ n rfl rfl rfl rfl (by omega) (by unfold maxLen; omega) ?_))
    intro w1 ho1 hb1 hs1 _
    go_wp2_with (with_reducible refine wpList_copyAll _ rfl (.tmp 9) (.tmp 10) 142 142 rfl 174 (.complex .f64 0 0) 16 Tryz.underlying142 infoCx w.heap.size w hb1 w.heap.size n _ ho1 rfl w.heap.size A c _ rfl (h.below hb1) (fun _ _ => rfl) ?_)
    intro w2 ho2 hb2
    have hx : w2.cell? ⟨w.heap.size, T, none⟩ = some (.complex .f64 (floatOfInt .f64 (a T)) (floatOfInt .f64 (b T))) := ho2.cell hT
    have hfr := ho2.frozen T
    have hsub := run_sub_cx w2 (a T) (b T) (ha T hT) (hb T hT)
    have ho3 := ho2.set_ (V' := fun k => cx (turned (T : Int) a k) (turned (T : Int) b k)) T (.complex .f64 (floatOfInt .f64 (-a T)) (floatOfInt .f64 (-b T))) (by simp [turned, cx]) (fun j _ hj => by
      have : ¬ (j : Int) = (T : Int) := by omega
      simp [turned, this])
    have hb3 := hb2.setCell (p := ⟨w.heap.size, T, none⟩) (Nat.le_refl _) (.complex .f64 (floatOfInt .f64 (-a T)) (floatOfInt .f64 (-b T)))
    clear ho1 ho2 hb1 hb2
    go_wp2
    go_ret
    exact ⟨_, rfl, ho3, hb3⟩
  · have hno : ∀ k, k < n → ¬ (k : Int) = t := fun k hk e => h0 ⟨by omega, by omega⟩
    by_cases h1 : 0 ≤ t
    · have h2 : ¬ t < n := fun e => h0 ⟨h1, e⟩
      have hd0 : decide (0 ≤ t) = true := by simp; omega
      have hd1 : decide (t < (n : Int)) = false := by simp; omega
      clear h0
      go_enter Tryz.func148, Tryz.ntmps148
      go_wp2_with (at_make; go_loud (refine wpList_zeros _ rfl _ _ 142 rfl w.heap.size w (Below.refl _ _) (Nat.le_refl _) 174 (.complex .f64 0 0) 16 infoCx rfl Tryz.underlying142 _ _ _ _ n rfl rfl rfl rfl (by omega) (by unfold maxLen; omega) ?_))
      intro w1 ho1 hb1 hs1 _
      go_wp2_with (with_reducible refine wpList_copyAll _ rfl (.tmp 9) (.tmp 10) 142 142 rfl 174 (.complex .f64 0 0) 16 Tryz.underlying142 infoCx w.heap.size w hb1 w.heap.size n _ ho1 rfl w.heap.size A c _ rfl (h.below hb1) (fun _ _ => rfl) ?_)
      intro w2 ho2 hb2
      clear ho1 hb1
      go_wp2
      go_ret
      exact ⟨_, rfl, ho2.alike fun k hk => by simp [turned, hno k hk], hb2⟩
    · have hd0 : decide (0 ≤ t) = false := by simp; omega
      clear h0
      go_enter Tryz.func148, Tryz.ntmps148
      go_wp2_with (at_make; go_loud (refine wpList_zeros _ rfl _ _ 142 rfl w.heap.size w (Below.refl _ _) (Nat.le_refl _) 174 (.complex .f64 0 0) 16 infoCx rfl Tryz.underlying142 _ _ _ _ n rfl rfl rfl rfl (by omega) (by unfold maxLen; omega) ?_))
      intro w1 ho1 hb1 hs1 _
      go_wp2_with (with_reducible refine wpList_copyAll _ rfl (.tmp 9) (.tmp 10) 142 142 rfl 174 (.complex .f64 0 0) 16 Tryz.underlying142 infoCx w.heap.size w hb1 w.heap.size n _ ho1 rfl w.heap.size A c _ rfl (h.below hb1) (fun _ _ => rfl) ?_)
      intro w2 ho2 hb2
      clear ho1 hb1
      go_wp2
      go_ret
      exact ⟨_, rfl, ho2.alike fun k hk => by simp [turned, hno k hk], hb2⟩
end Go.Proofs.YtjoioojckekfhaaGreat

/-! ### LineI -/
namespace Go.Proofs.YtjoioojckekfhaaGreat
open Go.RowKit

def mx (n : Nat → Nat) : Nat → Nat
  | 0 => 0
  | i + 1 => max (mx n i) (n i)
def sm (n : Nat → Nat) (a : Nat → Nat → Int) : Nat → Nat → Int
  | 0, _ => 0
  | i + 1, k => sm n a i k + (if k < n i then a i k else 0)
set_option maxRecDepth 100000 in
theorem mx_le (n : Nat → Nat) (M : Nat) : ∀ m, (∀ i, i < m → n i ≤ M) → mx n m ≤ M
  | 0, _ => Nat.zero_le _
  | m + 1, h => Nat.max_le.2 ⟨mx_le n M m fun i hi => h i (by omega), h m (by omega)⟩
set_option maxRecDepth 100000 in
theorem le_mx (n : Nat → Nat) : ∀ m i, i < m → n i ≤ mx n m
  | m + 1, i, h => by
    by_cases hi : i = m
    · subst hi; exact Nat.le_max_right _ _
    · exact Nat.le_trans (le_mx n m i (by omega)) (Nat.le_max_left _ _)
set_option maxRecDepth 100000 in
theorem zero_cx : (.complex .f64 0 0 : Value) = cx 0 0 := by
  unfold cx
  rw [show floatOfInt .f64 0 = 0 from fl_zero]

attribute [local go_sem] store_complex
set_option maxRecDepth 100000 in
set_option maxHeartbeats 2000000 in
theorem mix_any (L : Option Addr) (m C : Nat) (A : Nat → Option Addr) (n c : Nat → Nat) (a b : Nat → Nat → Int) (w : World) (h : Sees w w.heap.size L m fun i => .slice (A i) (n i) (c i))
    (hrow : ∀ i, i < m → Sees w w.heap.size (A i) (n i) fun k => cx (a i k) (b i k)) (hm : m ≤ 8) (hn : ∀ i, i < m → n i ≤ 100000)
    (ha : ∀ i k, i < m → k < n i → (a i k).natAbs < 2 ^ 52) (hb : ∀ i k, i < m → k < n i → (b i k).natAbs < 2 ^ 52) (hsa : ∀ i k, i < m → (sm n a i k).natAbs < 2 ^ 52) (hsb : ∀ i k, i < m → (sm n b i k).natAbs < 2 ^ 52) :
    Calls Tryz.prog 85 #[.slice L m C] w fun e w' =>
      ∃ v, e = .returned v ∧ Owns w' w.heap.size 174 v (mx n m) (fun k => cx (sm n a m k) (sm n b m k)) ∧ Below w.heap.size w w' := by
  go_enter Tryz.func85, Tryz.ntmps85
  go_wp2
  go_loop [3, 13] (fun x i => ∃ k : Nat, k ≤ m ∧ i = .int .i64 k ∧ x = .int .i64 (mx n k)) (fun _ i => m - (intOf i).toNat)
  case atStart => exact ⟨0, by omega, rfl, rfl⟩
  case round =>
    obtain ⟨i, hi, rfl, rfl⟩ := hrel
    by_cases hlt : i < m
    · obtain ⟨b0, off, rfl, hbb, hcell⟩ := h (by omega)
      have hx : w.cell? ⟨b0, off + i, none⟩ = some (.slice (A i) (n i) (c i)) := hcell i hlt
      have hni := hn i hlt
      have hmi := mx_le n 100000 i fun j hj => hn j (by omega)
      have HS := Lib.hid (show mx n (i + 1) = max (mx n i) (n i) from rfl)
      clear hcell
      by_cases hle : mx n i ≤ n i
      all_goals
        go_wp2
        go_round
        case rel => exact ⟨i + 1, by omega, by go_num, by rw [HS.out]; go_num⟩
        case measure => simp [intOf]; omega
    · obtain rfl : i = m := by omega
      have hM := mx_le n 100000 i fun j hj => hn j (by omega)
      have hMi := le_mx n i
      clear hlt hi
      go_wp2_with (at_make; go_loud (refine wpList_zeros _ rfl _ _ 142 rfl w.heap.size w (Below.refl _ _) (Nat.le_refl _) 174 (.complex .f64 0 0) 16 infoCx rfl Tryz.underlying142 _ _ _ _ (mx n i) rfl rfl rfl rfl (by omega) (by unfold maxLen; omega) ?_))
      intro w1 ho1 hb1 hs1 _
      go_wp2
      go_loopw [26] (fun j wr => ∃ r : Nat, r ≤ i ∧ j = .int .i64 r ∧ Owns wr w.heap.size 174 (.slice (some ⟨w.heap.size, 0, none⟩) (mx n i) (mx n i)) (mx n i) (fun k => cx (sm n a r k) (sm n b r k)) ∧ Below w.heap.size w wr) (fun j _ => i - (intOf j).toNat)
      case atStart => exact ⟨0, by omega, rfl, ho1.alike fun k _ => zero_cx, hb1⟩
      case round =>
        obtain ⟨r, hr, rfl, hown, hbel⟩ := hrel
        clear ho1 hb1
        by_cases hlr : r < i
        · obtain ⟨b0, off, rfl, hbb, hcell⟩ := h (by omega)
          have hx : wr.cell? ⟨b0, off + r, none⟩ = some (.slice (A r) (n r) (c r)) := (hbel.cell hbb).trans (hcell r hlr)
          have hnr := hn r hlr
          have hnr2 := hMi r hlr
          have hdr : decide (r < i) = true := by simp; omega
          have hsr := hrow r hlr
          clear hcell
          rcases Nat.eq_zero_or_pos (n r) with h0 | h0
          case' inr =>
            obtain ⟨b1, off1, hA, hbb1, hcell1⟩ := hsr h0
            rw [hA] at hx
            clear hA
          case' inl =>
            have h0' : n r ≤ 0 := by omega
            clear h0
          all_goals
            go_wp2
            go_loopw [32] (fun j wx => ∃ k : Nat, k ≤ n r ∧ j = .int .i64 k ∧ Owns wx w.heap.size 174 (.slice (some ⟨w.heap.size, 0, none⟩) (mx n i) (mx n i)) (mx n i) (fun k' => cx (sm n a (if k' < k then r + 1 else r) k') (sm n b (if k' < k then r + 1 else r) k')) ∧ Below w.heap.size w wx) (fun j _ => n r - (intOf j).toNat)
            case atStart => exact ⟨0, by omega, rfl, hown.alike fun k _ => by simp, hbel⟩
            case round =>
              clear hx hown hbel
              obtain ⟨k, hk, rfl, hown, hbel⟩ := hrel
              by_cases hlk : k < n r
              · try (exfalso; omega)
                all_goals
                  have hy : wr.cell? ⟨b1, off1 + k, none⟩ = some (.complex .f64 (floatOfInt .f64 (a r k)) (floatOfInt .f64 (b r k))) := (hbel.cell hbb1).trans (hcell1 k hlk)
                  have hold := hown.cell (k := k) (by omega)
                  rw [if_neg (Nat.lt_irrefl k)] at hold
                  have hold' : wr.cell? ⟨w.heap.size, k, none⟩ = some (.complex .f64 (floatOfInt .f64 (sm n a r k)) (floatOfInt .f64 (sm n b r k))) := hold
                  have hfr := hown.frozen k
                  have hadd := run_add_cx wr (sm n a r k) (sm n b r k) (a r k) (b r k) (hsa r k hlr) (hsb r k hlr) (ha r k hlr hlk) (hb r k hlr hlk)
                  have e1 : sm n a (r + 1) k = sm n a r k + a r k := by simp [sm, hlk]
                  have e2 : sm n b (r + 1) k = sm n b r k + b r k := by simp [sm, hlk]
                  have ho2 := hown.set_ (V' := fun k' => cx (sm n a (if k' < k + 1 then r + 1 else r) k') (sm n b (if k' < k + 1 then r + 1 else r) k')) k (.complex .f64 (floatOfInt .f64 (sm n a r k + a r k)) (floatOfInt .f64 (sm n b r k + b r k))) (by
                      show cx _ _ = _
                      rw [if_pos (by omega), e1, e2]
                      rfl) (fun j _ hj => by
                    show cx _ _ = cx _ _
                    by_cases h1 : j < k
                    · rw [if_pos h1, if_pos (by omega)]
                    · rw [if_neg h1, if_neg (by omega)])
                  have hb2 := hbel.setCell (p := ⟨w.heap.size, k, none⟩) (Nat.le_refl _) (.complex .f64 (floatOfInt .f64 (sm n a r k + a r k)) (floatOfInt .f64 (sm n b r k + b r k)))
                  have hkM : k < mx n i := by omega
                  clear hold e1 e2
                  go_wp2
                  go_roundw
                  case rel => exact ⟨k + 1, by omega, by go_num, ho2, hb2⟩
                  case measure => simp [intOf]; omega
              · go_wp2
                go_roundw
                case rel => exact ⟨r + 1, by omega, by go_num, hown.alike fun j _ => by
                    show cx _ _ = cx _ _
                    by_cases h1 : j < k
                    · rw [if_pos h1]
                    · rw [if_neg h1]
                      have h2 : ¬ j < n r := by omega
                      simp [sm, h2], hbel⟩
                case measure => simp [intOf]; omega
        · go_wp2
          go_ret
          exact ⟨_, rfl, by rw [show i = r by omega]; rw [show i = r by omega] at hown; exact hown, hbel⟩
end Go.Proofs.YtjoioojckekfhaaGreat
