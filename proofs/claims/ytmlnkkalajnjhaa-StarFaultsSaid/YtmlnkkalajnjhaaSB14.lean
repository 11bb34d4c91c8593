/- Texts SrF, CrcMath in one. For what each says in front of its theorems. -/
import Derived.Laws.BitsLemmas
import Derived.Laws.BitsAllLaws
import Derived.Test.YtmlnkkalajnjhaaSB13
/-! ### SrF -/
namespace Go.Proofs.Ytmlnkkalajnjhaa
open Go.RowKit

/-- Who sends, and when. -/
def sF (m : List Sd) (i : Nat) : Bool := match m[i]? with
  | some s => decide (0 < s.n)
  | none => false
def sA (m : List Sd) (i : Nat) : Int := match m[i]? with
  | some s => s.at_
  | none => 0
def b8 (f : Nat → Bool) : Array Value := #[.bool (f 0), .bool (f 1), .bool (f 2), .bool (f 3), .bool (f 4), .bool (f 5), .bool (f 6), .bool (f 7)]
def i8 (f : Nat → Int) : Array Value := #[.int .i64 (f 0), .int .i64 (f 1), .int .i64 (f 2), .int .i64 (f 3), .int .i64 (f 4), .int .i64 (f 5), .int .i64 (f 6), .int .i64 (f 7)]
theorem b8_set (f : Nat → Bool) (k : Nat) (hk : k < 8) : (b8 fun i => decide (i < k) && f i).setIfInBounds k (.bool (f k)) = b8 fun i => decide (i < k + 1) && f i := by
  rcases (by omega : k = 0 ∨ k = 1 ∨ k = 2 ∨ k = 3 ∨ k = 4 ∨ k = 5 ∨ k = 6 ∨ k = 7) with rfl | rfl | rfl | rfl | rfl | rfl | rfl | rfl <;> simp [b8]
theorem i8_set (f : Nat → Int) (k : Nat) (hk : k < 8) : (i8 fun i => if i < k then f i else 0).setIfInBounds k (.int .i64 (f k)) = i8 fun i => if i < k + 1 then f i else 0 := by
  rcases (by omega : k = 0 ∨ k = 1 ∨ k = 2 ∨ k = 3 ∨ k = 4 ∨ k = 5 ∨ k = 6 ∨ k = 7) with rfl | rfl | rfl | rfl | rfl | rfl | rfl | rfl <;> simp [i8]
theorem sF_all (m : List Sd) : (fun i => decide (i < m.length) && sF m i) = sF m := by
  funext i
  by_cases h : i < m.length
  · simp [h]
  · unfold sF; rw [List.getElem?_eq_none (by omega)]; simp
theorem sA_all (m : List Sd) : (fun i => if i < m.length then sA m i else 0) = sA m := by
  funext i
  by_cases h : i < m.length
  · simp [h]
  · unfold sA; rw [List.getElem?_eq_none (by omega)]; simp
theorem results_cells2 {fn : Func} {p q : Tmp} {ty uy : TypeId} (h : fn.results = #[.cell p ty, .cell q uy]) (tmps : Array Value) (P : Program) (w : World) :
    (results fn tmps).run P w = ((asAddr (tmps.getD p undef)).run P w).andThen fun a w₁ => ((loadVar ty a).run P w₁).andThen fun v w₂ => ((asAddr (tmps.getD q undef)).run P w₂).andThen fun b w₃ => ((loadVar uy b).run P w₃).andThen fun u w₄ => .ok (.tuple #[v, u]) w₄ := by
  simp only [results, h]
  simp [Sem.run_bind, Result.andThen]
set_option maxRecDepth 100000 in
set_option maxHeartbeats 4000000 in
theorem senders_sr (x b : Nat) (l : List (Value × Sd)) (c d : Ch) (P : List Nat) (w : World) (h : XAt w P x b l c d) (hl : l.length ≤ 8) :
    Calls Try.prog 41 #[.pointer (some ⟨x, 0, none⟩)] w fun e w' => e = .returned (.tuple #[bools8 (sF (l.map Prod.snd)), ints8 (sA (l.map Prod.snd))]) ∧ Below w.heap.size w w' := by
  have X0 := (Blk.new w w.heap.size rfl (b8 fun _ => false) 52).alloc (.cells (i8 fun _ => 0) 32)
  have X1 := Blk.new (w.alloc (.cells (b8 fun _ => false) 52)) (w.heap.size + 1) (by simp) (i8 fun _ => 0) 32
  have hb := ((Below.refl w.heap.size w).alloc (Nat.le_refl _) (.cells (b8 fun _ => false) 52)).alloc (by simp) (.cells (i8 fun _ => 0) 32)
  have H := h.below hb
  have hz : ((w.alloc (.cells (b8 fun _ => false) 52)).alloc (.cells (i8 fun _ => 0) 32)).heap.size = w.heap.size + 1 + 1 := by simp
  have y0 := H.blk.cell 0 (x := .slice (some ⟨b, 0, none⟩) l.length l.length) rfl
  unfold b8 i8 at *
  unfold bools8 ints8
  go_enter Try.func41, Try.ntmps41
  go_wp2_with fail
  generalize ((w.alloc (.cells #[.bool false, .bool false, .bool false, .bool false, .bool false, .bool false, .bool false, .bool false] 52)).alloc (.cells #[.int .i64 0, .int .i64 0, .int .i64 0, .int .i64 0, .int .i64 0, .int .i64 0, .int .i64 0, .int .i64 0] 32)) = w2 at *
  have HX : Hid (∀ W k v s, Below w.heap.size w W → l[k]? = some (v, s) → W.cell? ⟨b, k * 3, none⟩ = some v ∧ W.cell? ⟨b, k * 3 + 1, none⟩ = some (.int .i64 s.at_) ∧ W.cell? ⟨b, k * 3 + 2, none⟩ = some (.bool s.df) ∧ ∃ A c, v = .slice A s.n c) := Lib.hid fun W k v s hW hk => by
    have h2 := (h.below hW).sd
    obtain ⟨A, c, e, -⟩ := (h2.row _ (List.mem_of_getElem? hk)).sees
    obtain ⟨e0, e1, e2⟩ := h2.cells hk
    exact ⟨e0, e1, e2, A, c, e⟩
  clear H h
  go_loopw [11] (fun i wr => ∃ k : Nat, k ≤ l.length ∧ i = .int .i64 k ∧ Blk wr w.heap.size (b8 fun i => decide (i < k) && sF (l.map Prod.snd) i) 52 ∧ Blk wr (w.heap.size + 1) (i8 fun i => if i < k then sA (l.map Prod.snd) i else 0) 32 ∧ Below w.heap.size w wr ∧ w.heap.size + 1 + 1 ≤ wr.heap.size) (fun i _ => l.length - (intOf i).toNat)
  case atStart => exact ⟨0, by omega, rfl, by simpa [b8] using X0, by simpa [i8] using X1, hb, by omega⟩
  case round =>
    obtain ⟨k, hk, rfl, hR0, hR1, hbk, hzk⟩ := hrel
    clear X0 X1
    by_cases hlt : k < l.length
    · have q1 : decide ((k : Int) < (l.length : Nat)) = true := by simp; omega
      obtain ⟨⟨v, s⟩, hk0⟩ : ∃ y, l[k]? = some y := ⟨_, List.getElem?_eq_getElem hlt⟩
      obtain ⟨e0, e1, e2, A, c', rfl⟩ := HX.out wr k v s hbk hk0
      have eF : sF (l.map Prod.snd) k = decide (0 < s.n) := by simp [sF, hk0]
      have eA : sA (l.map Prod.snd) k = s.at_ := by simp [sA, hk0]
      have N0 := Lib.hid (b8_set (sF (l.map Prod.snd)) k (by omega))
      have N1 := Lib.hid (i8_set (sA (l.map Prod.snd)) k (by omega))
      rw [eF] at N0
      rw [eA] at N1
      have O := hR0.alloc (.cells #[.slice A s.n c', .int .i64 s.at_, .bool s.df] 101)
      have O1 := hR1.alloc (.cells #[.slice A s.n c', .int .i64 s.at_, .bool s.df] 101)
      have ON := Blk.new wr wr.heap.size rfl #[.slice A s.n c', .int .i64 s.at_, .bool s.df] 101
      have hbk2 := hbk.alloc hbk.size (.cells #[.slice A s.n c', .int .i64 s.at_, .bool s.df] 101)
      have c0 := O.cell k (b8_get (fun i => decide (i < k) && sF (l.map Prod.snd) i) k (by omega))
      have c1 := O1.cell k (i8_get (fun i => if i < k then sA (l.map Prod.snd) i else 0) k (by omega))
      have f0 := O.frozen k
      have f1 := O1.frozen k
      have n0 := ON.cell 0 (x := .slice A s.n c') rfl
      have n1 := ON.cell 1 (x := .int .i64 s.at_) rfl
      have i1 : (k : Int) < 8 := by omega
      have q2 : decide ((s.n : Int) > 0) = decide (0 < s.n) := by rw [Bool.eq_iff_iff]; simp
      have q3 : decide ((0 : Int) < (s.n : Int)) = decide (0 < s.n) := by rw [Bool.eq_iff_iff]; simp
      go_wp2_with fail
      generalize wr.alloc (.cells #[.slice A s.n c', .int .i64 s.at_, .bool s.df] 101) = wx at *
      have RR0 := Lib.hid (((O.set k (.bool (decide (0 < s.n)))).other ⟨w.heap.size + 1, k, none⟩ (by simp) (.int .i64 s.at_)).eq N0.out)
      have RR1 := Lib.hid (((O1.other ⟨w.heap.size, k, none⟩ (by simp) (.bool (decide (0 < s.n)))).set k (.int .i64 s.at_)).eq N1.out)
      have BB := Lib.hid ((hbk2.setCell (p := ⟨w.heap.size, k, none⟩) (Nat.le_refl _) (.bool (decide (0 < s.n)))).setCell (p := ⟨w.heap.size + 1, k, none⟩) (by simp) (.int .i64 s.at_))
      have hzx : w.heap.size + 1 + 1 ≤ wx.heap.size := by have := O1.lt; have := ON.lt; omega
      have ZZ := Lib.hid (show w.heap.size + 1 + 1 ≤ ((wx.setCell ⟨w.heap.size, k, none⟩ (.bool (decide (0 < s.n)))).setCell ⟨w.heap.size + 1, k, none⟩ (.int .i64 s.at_)).heap.size by simpa [World.setCell] using hzx)
      clear hR0 hR1 hbk O O1 ON N0 N1 hbk2 eF eA HX
      go_region
      go_wp2_with fail
      go_roundw
      case rel => exact ⟨k + 1, by omega, by go_num, RR0.out.drew, RR1.out.drew, BB.out.drew, ZZ.out⟩
      case measure => simp [intOf]; omega
    · obtain rfl : k = l.length := by omega
      have q1 : decide ((l.length : Int) < (l.length : Nat)) = false := by simp
      have e0 := sF_all (l.map Prod.snd)
      have e1 := sA_all (l.map Prod.snd)
      simp only [List.length_map] at e0 e1
      rw [e0] at hR0
      rw [e1] at hR1
      clear e0 e1 HX
      generalize hff : sF (l.map Prod.snd) = ff at *
      generalize haa : sA (l.map Prod.snd) = aa at *
      have HFF := Lib.hid hff
      have HAA := Lib.hid haa
      clear hff haa
      have c00 := hR0.cell 0 (x := .bool (ff 0)) rfl
      have f00 := hR0.frozen 0
      have c01 := hR0.cell 1 (x := .bool (ff 1)) rfl
      have f01 := hR0.frozen 1
      have c02 := hR0.cell 2 (x := .bool (ff 2)) rfl
      have f02 := hR0.frozen 2
      have c03 := hR0.cell 3 (x := .bool (ff 3)) rfl
      have f03 := hR0.frozen 3
      have c04 := hR0.cell 4 (x := .bool (ff 4)) rfl
      have f04 := hR0.frozen 4
      have c05 := hR0.cell 5 (x := .bool (ff 5)) rfl
      have f05 := hR0.frozen 5
      have c06 := hR0.cell 6 (x := .bool (ff 6)) rfl
      have f06 := hR0.frozen 6
      have c07 := hR0.cell 7 (x := .bool (ff 7)) rfl
      have f07 := hR0.frozen 7
      have c10 := hR1.cell 0 (x := .int .i64 (aa 0)) rfl
      have f10 := hR1.frozen 0
      have c11 := hR1.cell 1 (x := .int .i64 (aa 1)) rfl
      have f11 := hR1.frozen 1
      have c12 := hR1.cell 2 (x := .int .i64 (aa 2)) rfl
      have f12 := hR1.frozen 2
      have c13 := hR1.cell 3 (x := .int .i64 (aa 3)) rfl
      have f13 := hR1.frozen 3
      have c14 := hR1.cell 4 (x := .int .i64 (aa 4)) rfl
      have f14 := hR1.frozen 4
      have c15 := hR1.cell 5 (x := .int .i64 (aa 5)) rfl
      have f15 := hR1.frozen 5
      have c16 := hR1.cell 6 (x := .int .i64 (aa 6)) rfl
      have f16 := hR1.frozen 6
      have c17 := hR1.cell 7 (x := .int .i64 (aa 7)) rfl
      have f17 := hR1.frozen 7
      have HB := Lib.hid hbk
      clear hR0 hR1 hbk y0 hb
      go_wp2_with fail
      go_region
      go_wp2_with fail
      refine bodyPost_ret (v := .tuple #[.agg #[.bool (ff 0), .bool (ff 1), .bool (ff 2), .bool (ff 3), .bool (ff 4), .bool (ff 5), .bool (ff 6), .bool (ff 7)], .agg #[.int .i64 (aa 0), .int .i64 (aa 1), .int .i64 (aa 2), .int .i64 (aa 3), .int .i64 (aa 4), .int .i64 (aa 5), .int .i64 (aa 6), .int .i64 (aa 7)]]) ?_ rfl ⟨by rw [HFF.out, HAA.out], ?_⟩
      · rw [results_cells2 rfl]
        go_simp
      · (repeat' (first | (with_reducible exact HB.out) | (with_reducible refine Below.drew ?_) | (with_reducible refine Below.setCell ?_ ?_ _) | exact Nat.le_refl _ | (simp; done)))
set_option maxRecDepth 100000 in
set_option maxHeartbeats 1000000 in
theorem when_no (x : Nat) (w : World) :
    Calls Try.prog 48 #[.pointer (some ⟨x, 0, none⟩), .int .i64 (-1)] w fun e w' => e = .returned (.int .i64 0) ∧ w = w' := by
  go_enter Try.func48, Try.ntmps48
  go_wp2
  go_ret
  exact ⟨rfl, rfl⟩
set_option maxRecDepth 100000 in
set_option maxHeartbeats 1000000 in
theorem when_yes (x b k : Nat) (l : List (Value × Sd)) (v : Value) (s : Sd) (c d : Ch) (P : List Nat) (w : World) (h : XAt w P x b l c d) (hk : l[k]? = some (v, s)) :
    Calls Try.prog 48 #[.pointer (some ⟨x, 0, none⟩), .int .i64 (k : Nat)] w fun e w' => e = .returned (.int .i64 s.at_) ∧ w = w' := by
  have y0 := h.blk.cell 0 (x := .slice (some ⟨b, 0, none⟩) l.length l.length) rfl
  obtain ⟨-, e1, -⟩ := h.sd.cells hk
  have hlt := (List.getElem?_eq_some_iff.1 hk).1
  have q0 : ((k : Int) == -1) = false := by rw [beq_eq_false_iff_ne]; omega
  have i1 : (k : Int) < (l.length : Nat) := by omega
  clear h
  go_enter Try.func48, Try.ntmps48
  go_wp2
  go_ret
  exact ⟨rfl, rfl⟩
end Go.Proofs.Ytmlnkkalajnjhaa

/-! ### CrcMath -/
namespace Go.Proofs.Ytmlnkkalajnjhaa
namespace Cr

/-- One bit more. -/
def bit1 (n : Nat) (b : Bool) : Nat := if (n.testBit 14 != b) then (2 * n % 32768) ^^^ 17817 else 2 * n % 32768

theorem bit1_lt (n : Nat) (b : Bool) : bit1 n b < 32768 := by
  unfold bit1
  split
  · exact Nat.xor_lt_two_pow (n := 15) (by omega) (by omega)
  · omega

theorem dbl_xor (m n : Nat) : 2 * (m ^^^ n) % 32768 = (2 * m % 32768) ^^^ (2 * n % 32768) := by
  apply Nat.eq_of_testBit_eq
  intro i
  rw [show 32768 = 2 ^ 15 from rfl]
  simp only [Nat.testBit_xor, Nat.testBit_mod_two_pow, show ∀ x, 2 * x = 2 ^ 1 * x from fun _ => rfl, Nat.testBit_two_pow_mul]
  by_cases h1 : i < 15 <;> by_cases h2 : i ≥ 1 <;> simp [h1, h2]

theorem xlc (a b c : Nat) : a ^^^ (b ^^^ c) = b ^^^ (a ^^^ c) := by rw [← Nat.xor_assoc, Nat.xor_comm a b, Nat.xor_assoc]
theorem x0 {a b : Nat} (h : a ^^^ b = 0) : a = b := by
  have := congrArg (· ^^^ b) h
  simpa [Nat.xor_assoc] using this
theorem xself (a b : Nat) : a ^^^ (a ^^^ b) = b := by rw [← Nat.xor_assoc, Nat.xor_self, Nat.zero_xor]
theorem bit1_xor (m n : Nat) (a b : Bool) : bit1 (m ^^^ n) (a ^^ b) = bit1 m a ^^^ bit1 n b := by
  unfold bit1
  rw [dbl_xor, Nat.testBit_xor]
  cases m.testBit 14 <;> cases n.testBit 14 <;> cases a <;> cases b <;> simp [Nat.xor_comm, xlc, xself]

theorem bit1_zero {x : Nat} (hx : x < 32768) (h : bit1 x false = 0) : x = 0 := by
  unfold bit1 at h
  by_cases ht : x.testBit 14 = true
  · rw [ht] at h
    simp only [bne_iff_ne, ne_eq, Bool.true_eq_false, not_false_eq_true, if_true] at h
    have : 2 * x % 32768 = 17817 := x0 h
    omega
  · simp only [Bool.not_eq_true] at ht
    rw [ht] at h
    simp at h
    have h2 : x / 2 ^ 14 % 2 ≠ 1 := by
      intro e
      rw [Nat.testBit_eq_decide_div_mod_eq] at ht
      simp [e] at ht
    omega

theorem xor_lt {m n : Nat} (hm : m < 32768) (hn : n < 32768) : m ^^^ n < 32768 := Nat.xor_lt_two_pow (n := 15) hm hn

theorem bit1_inj {m n : Nat} (b : Bool) (hm : m < 32768) (hn : n < 32768) (h : bit1 m b = bit1 n b) : m = n := by
  have := bit1_xor m n b b
  rw [h, Nat.xor_self, Bool.xor_self] at this
  exact x0 (bit1_zero (xor_lt hm hn) this)

/-- So many bits of a byte, the highest first. -/
def byteTo (n c : Nat) : Nat → Nat
  | 0 => n
  | j + 1 => bit1 (byteTo n c j) (c.testBit (7 - j))
def byte1 (n c : Nat) : Nat := byteTo n c 8

theorem byteTo_lt {n : Nat} (h : n < 32768) (c j : Nat) : byteTo n c j < 32768 := by
  cases j with
  | zero => exact h
  | succ j => exact bit1_lt _ _
theorem byte1_lt (n c : Nat) : byte1 n c < 32768 := bit1_lt _ _
theorem byteTo_xor (m n a b j : Nat) : byteTo (m ^^^ n) (a ^^^ b) j = byteTo m a j ^^^ byteTo n b j := by
  induction j with
  | zero => rfl
  | succ j ih => simp only [byteTo]; rw [ih, Nat.testBit_xor, bit1_xor]
theorem byteTo_inj {m n : Nat} (c j : Nat) (hm : m < 32768) (hn : n < 32768) (h : byteTo m c j = byteTo n c j) : m = n := by
  induction j with
  | zero => exact h
  | succ j ih => exact ih (bit1_inj _ (byteTo_lt hm c j) (byteTo_lt hn c j) h)
theorem byte1_xor (m n a b : Nat) : byte1 (m ^^^ n) (a ^^^ b) = byte1 m a ^^^ byte1 n b := byteTo_xor m n a b 8
theorem byte1_inj {m n : Nat} (c : Nat) (hm : m < 32768) (hn : n < 32768) (h : byte1 m c = byte1 n c) : m = n := byteTo_inj c 8 hm hn h
theorem byte1_nil : ∀ c : Fin 256, byte1 0 c.val = 0 → c.val = 0 := by decide +kernel
theorem byte1_byte {n a b : Nat} (ha : a < 256) (hb : b < 256) (h : byte1 n a = byte1 n b) : a = b := by
  have := byte1_xor n n a b
  rw [h, Nat.xor_self, Nat.xor_self] at this
  exact x0 (byte1_nil ⟨a ^^^ b, Nat.xor_lt_two_pow (n := 8) ha hb⟩ this)

/-- So many bytes. -/
def sumTo (n : Nat) (z : Nat → Int) : Nat → Nat
  | 0 => n
  | k + 1 => byte1 (sumTo n z k) (z k).toNat
theorem sumTo_lt {n : Nat} (h : n < 32768) (z : Nat → Int) (k : Nat) : sumTo n z k < 32768 := by
  cases k with
  | zero => exact h
  | succ k => exact byte1_lt _ _
theorem sumTo_alike (n : Nat) {z y : Nat → Int} (k : Nat) (h : ∀ j, j < k → z j = y j) : sumTo n z k = sumTo n y k := by
  induction k with
  | zero => rfl
  | succ k ih => simp only [sumTo]; rw [ih (fun j hj => h j (by omega)), h k (by omega)]
theorem sumTo_inj {m n : Nat} (z : Nat → Int) (k : Nat) (hm : m < 32768) (hn : n < 32768) (h : sumTo m z k = sumTo n z k) : m = n := by
  induction k with
  | zero => exact h
  | succ k ih => exact ih (byte1_inj _ (sumTo_lt hm z k) (sumTo_lt hn z k) h)
theorem sumTo_more (n : Nat) (z : Nat → Int) (a b : Nat) : sumTo n z (a + b) = sumTo (sumTo n z a) (fun k => z (a + k)) b := by
  induction b with
  | zero => rfl
  | succ b ih => show byte1 (sumTo n z (a + b)) (z (a + b)).toNat = _; rw [ih]; rfl
/-- Behind one byte that is another no sum is the same again. -/
theorem sumTo_turned {n : Nat} (hn : n < 32768) {z y : Nat → Int} (at_ k : Nat) (hk : at_ < k) (hz : 0 ≤ z at_ ∧ z at_ < 256) (hy : 0 ≤ y at_ ∧ y at_ < 256) (hd : z at_ ≠ y at_) (ho : ∀ j, j ≠ at_ → z j = y j) :
    sumTo n z k ≠ sumTo n y k := by
  intro h
  obtain ⟨b, rfl⟩ : ∃ b, k = (at_ + 1) + b := ⟨k - (at_ + 1), by omega⟩
  rw [sumTo_more n z (at_ + 1) b, sumTo_more n y (at_ + 1) b, sumTo_alike _ (z := fun k => z (at_ + 1 + k)) (y := fun k => y (at_ + 1 + k)) b (fun j _ => ho _ (by omega))] at h
  have h2 := sumTo_inj _ _ (sumTo_lt hn _ _) (sumTo_lt hn _ _) h
  simp only [sumTo] at h2
  rw [sumTo_alike n at_ (fun j hj => ho j (by omega))] at h2
  have := byte1_byte (by omega) (by omega) h2
  omega
theorem sumTo_xor (m n : Nat) (x y z : Nat → Int) (k : Nat) (h : ∀ j, j < k → (x j).toNat = (y j).toNat ^^^ (z j).toNat) :
    sumTo (m ^^^ n) x k = sumTo m y k ^^^ sumTo n z k := by
  induction k with
  | zero => rfl
  | succ k ih => simp only [sumTo]; rw [ih (fun j hj => h j (by omega)), h k (by omega), byte1_xor]
theorem sumTo_nought (z : Nat → Int) (k : Nat) (h : ∀ j, j < k → z j = 0) : sumTo 0 z k = 0 := by
  induction k with
  | zero => rfl
  | succ k ih => simp only [sumTo]; rw [ih (fun j hj => h j (by omega)), h k (by omega)]; decide

/-- So many rows. -/
def rowsTo (n : Nat) (z : Nat → Nat → Int) (N : Nat → Nat) : Nat → Nat
  | 0 => n
  | k + 1 => sumTo (rowsTo n z N k) (z k) (N k)
theorem rowsTo_lt {n : Nat} (h : n < 32768) (z : Nat → Nat → Int) (N : Nat → Nat) (k : Nat) : rowsTo n z N k < 32768 := by
  induction k with
  | zero => exact h
  | succ k ih => exact sumTo_lt ih _ _

/-- A seed's lowest fifteen digits. -/
def sd (a : Int) : Nat := (a % 32768).toNat
theorem sd_lt (a : Int) : sd a < 32768 := by unfold sd; omega
theorem sd_of {n : Nat} (h : n < 32768) : sd (n : Int) = n := by unfold sd; omega
theorem and_sd (a : Int) : bits BinOp.and IntKind.i64 a 32767 = (sd a : Int) := by
  show IntKind.i64.wrap ((BitVec.ofInt 64 a &&& BitVec.ofInt 64 32767).toNat : Int) = _
  rw [BitVec.toNat_and, show (BitVec.ofInt 64 32767).toNat = 2 ^ 15 - 1 by decide, Nat.and_two_pow_sub_one_eq_mod, BitVec.toNat_ofInt, IntKind.wrap_i64]
  unfold sd
  omega
theorem sd_i64 (a : Int) : sd a = ((BitVec.ofInt 64 a).toNat) % 2 ^ 15 := by
  unfold sd
  rw [BitVec.toNat_ofInt]
  omega
theorem i64_toNat (x : BitVec 64) : (BitVec.ofInt 64 (IntKind.i64.wrap (x.toNat : Int))).toNat = x.toNat := by
  rw [BitVec.toNat_ofInt, IntKind.wrap_i64]
  have := x.isLt
  omega
theorem sd_xor (a b : Int) : sd (bits BinOp.xor IntKind.i64 a b) = sd a ^^^ sd b := by
  rw [sd_i64, sd_i64, sd_i64]
  show (BitVec.ofInt 64 (IntKind.i64.wrap ((BitVec.ofInt 64 a ^^^ BitVec.ofInt 64 b).toNat : Int))).toNat % 2 ^ 15 = _
  rw [i64_toNat, BitVec.toNat_xor, Nat.xor_mod_two_pow]
theorem sd_or (a b : Int) : sd (bits BinOp.or IntKind.i64 a b) = sd a ||| sd b := by
  rw [sd_i64, sd_i64, sd_i64]
  show (BitVec.ofInt 64 (IntKind.i64.wrap ((BitVec.ofInt 64 a ||| BitVec.ofInt 64 b).toNat : Int))).toNat % 2 ^ 15 = _
  rw [i64_toNat, BitVec.toNat_or, Nat.or_mod_two_pow]
theorem xor_small {m n : Nat} (hm : m < 32768) (hn : n < 32768) : bits BinOp.xor IntKind.i64 (m : Int) (n : Int) = ((m ^^^ n : Nat) : Int) := by
  have hx := xor_lt hm hn
  show IntKind.i64.wrap ((BitVec.ofInt 64 (m : Int) ^^^ BitVec.ofInt 64 (n : Int)).toNat : Int) = _
  rw [BitVec.toNat_xor, BitVec.toNat_ofInt, BitVec.toNat_ofInt, show ((m : Int) % ((2 ^ 64 : Nat) : Int)).toNat = m by omega, show ((n : Int) % ((2 ^ 64 : Nat) : Int)).toNat = n by omega, IntKind.wrap_i64]
  omega
end Cr
end Go.Proofs.Ytmlnkkalajnjhaa
