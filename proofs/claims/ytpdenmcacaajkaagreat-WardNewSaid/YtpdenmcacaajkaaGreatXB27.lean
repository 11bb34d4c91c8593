/- Texts Copy, LineH, LineI, MixTwo in one. For what each says in front of its theorems. -/
import Derived.Laws.CopyOwn
import Derived.Test.YtpdenmcacaajkaaGreatXB1
import Derived.Test.YtpdenmcacaajkaaGreatXB26
/-! ### Copy -/
namespace Go.Proofs.YtpdenmcacaajkaaGreat
open Go.RowKit

theorem map_at (n : Nat) (V : Nat → Value) (j : Nat) (v : Value) (h : ((List.range n).map V)[j]? = some v) : j < n ∧ v = V j := by
  rw [List.getElem?_map] at h
  by_cases hj : j < n
  · rw [List.getElem?_range hj] at h
    exact ⟨hj, by simpa using h.symm⟩
  · rw [List.getElem?_eq_none (by simpa using hj)] at h
    cases h

theorem wpList_copyAll {P : Program} (w : World) {ops : Array Oper} {rest : List Oper} {o : Oper} {a : Act} {Q : Exit → Act → World → Prop} (hgd : o.guard = none) (d s : Operand) (dT sT : TypeId)
    (ho : o.op = .call { callee := .builtin .copy, args := #[d, s], argTypes := #[dT, sT] }) (e : TypeId) (z : Value) (bytes : Nat) (ht : P.underlying dT = some (.slice e)) (hinf : (P.info? e).map (fun i => (i.zero, i.size, i.bytes)) = some (some z, 1, bytes))
    (B : Nat) (W : World) (hbel : Below B W w) (g n : Nat) (U : Nat → Value) (hown : Owns w B e (.slice (some ⟨g, 0, none⟩) n n) n U) (hd : a.eval d = .slice (some ⟨g, 0, none⟩) n n)
    (Bs : Nat) (A : Option Addr) (c : Nat) (V : Nat → Value) (hs : a.eval s = .slice A n c) (hsee : Sees w Bs A n V) (hV : ∀ k, k < n → (V k).oneCell' = true)
    (h : ∀ w', Owns w' B e (.slice (some ⟨g, 0, none⟩) n n) n V → Below B W w' → wpList P ops Q rest (a.put o.dst (goInt n)) w') : wpList P ops Q (o :: rest) a w := by
  obtain ⟨i0, hi, hz0, hz1, hz2⟩ := info_parts hinf
  have hBg := (World.ownsRow.lt hown g rfl).1
  obtain ⟨hl, hh⟩ := hown
  rcases hh with ⟨h', _⟩ | ⟨g', cap, cur, h', hb, hg, hn, hc, hsz, htk⟩
  · simp at h'
  simp only [Value.slice.injEq, Option.some.injEq, Addr.mk.injEq, and_true, true_and] at h'
  obtain ⟨rfl, rfl⟩ := h'
  have hcur : cur.toList = (List.range n).map U := by
    rw [← htk, List.take_of_length_le (by simp; omega)]
  refine wpList_copy_splice hgd d s dT sT ho e ht (by rw [hi]; simp [hz1]) (some ⟨g, 0, none⟩) A n n n c hd hs g 0 cur.toList e (by simpa using hg) ((List.range n).map V) (by simp) ?_ (by simp; omega) ?_ B W hbel hBg ?_
  · intro h0
    obtain ⟨b, off, rfl, _, hcell⟩ := hsee (by simpa using h0)
    refine ⟨rfl, _, rfl, fun j v hj => ?_⟩
    obtain ⟨hjn, rfl⟩ := map_at n V j v hj
    have := hcell j hjn
    by_cases h1 : j = 0
    · subst h1; simpa [Addr.add] using this
    · simpa [Addr.add, h1] using this
  · intro v hv
    obtain ⟨k, hk, rfl⟩ := List.mem_map.1 hv
    exact hV k (List.mem_range.1 hk)
  · intro w' hg' hb'
    have hl' : ((List.range n).map V).length = n := by simp
    rw [hl']
    refine h w' ⟨by simp, .inr ⟨g, n, _, rfl, hBg, hg'.out, Nat.le_refl _, hc, ?_, ?_⟩⟩ hb'
    · simp [splice, hcur]
    · simp [splice, hcur]
end Go.Proofs.YtpdenmcacaajkaaGreat

/-! ### LineH -/
namespace Go.Proofs.YtpdenmcacaajkaaGreat
open Go.RowKit

def pf (f : Bool) (a : Int) : Int := if f then a else 0
set_option maxRecDepth 100000 in
theorem keep_cx (a b : Int) (f s : Bool) (w : World) :
    Calls Tryz.prog 197 #[cx a b, .bool f, .bool s] w fun e w' => e = .returned (.complex .f64 (floatOfInt .f64 (pf f a)) (floatOfInt .f64 (pf s b))) ∧ w = w' := by
  have h := keep_any (floatOfInt .f64 a) (floatOfInt .f64 b) f s w
  have e1 : ∀ (f : Bool) (a : Int), part f (floatOfInt .f64 a) = floatOfInt .f64 (pf f a) := fun f a => by
    cases f
    · simp only [part, pf, Bool.false_eq_true, if_false]
      exact fl_zero.symm
    · simp only [part, pf, if_true]
  rw [e1, e1] at h
  exact h
set_option maxRecDepth 100000 in
theorem store_complex (P : Program) (w : World) (ad : Addr) (m : Mode) (k : FloatKind) (a b : Nat) : (store ad (.complex k a b) m).run P w = stored P w ad (.complex k a b) m := run_store P w ad _ m rfl
attribute [local go_sem] store_complex

set_option maxRecDepth 100000 in
set_option maxHeartbeats 1000000 in
theorem gate_any (A : Option Addr) (n c : Nat) (a b : Nat → Int) (f s : Bool) (w : World) (h : Sees w w.heap.size A n fun k => cx (a k) (b k)) (hr : n ≤ 8796093022208) :
    Calls Tryz.prog 190 #[.slice A n c, .bool f, .bool s] w fun e w' =>
      ∃ v, e = .returned v ∧ Owns w' w.heap.size 239 v n (fun k => cx (pf f (a k)) (pf s (b k))) ∧ Below w.heap.size w w' := by
  go_enter Tryz.func190, Tryz.ntmps190
  go_wp2_with (at_make; go_loud (refine wpList_zeros _ rfl _ _ 209 rfl w.heap.size w (Below.refl _ _) (Nat.le_refl _) 239 (.complex .f64 0 0) 16 infoCx rfl Tryz.underlying209 _ _ _ _ n rfl rfl rfl rfl (by omega) (by unfold maxLen; omega) ?_))
  intro w1 ho1 hb1 hs1 _
  go_wp2
  go_loopw [15] (fun i wr => ∃ k : Nat, k ≤ n ∧ i = .int .i64 k ∧ Owns wr w.heap.size 239 (.slice (some ⟨w.heap.size, 0, none⟩) n n) n (fun j => if j < k then cx (pf f (a j)) (pf s (b j)) else .complex .f64 0 0) ∧ Below w.heap.size w wr) (fun i _ => n - (intOf i).toNat)
  case atStart => exact ⟨0, by omega, rfl, ho1.alike fun k _ => by simp, hb1⟩
  case round =>
    obtain ⟨k, hk, rfl, hown, hbel⟩ := hrel
    clear ho1 hb1
    by_cases hlt : k < n
    · obtain ⟨b0, off, rfl, hbb, hcell⟩ := h (by omega)
      have hx : wr.cell? ⟨b0, off + k, none⟩ = some (.complex .f64 (floatOfInt .f64 (a k)) (floatOfInt .f64 (b k))) := (hbel.cell hbb).trans (hcell k (by omega))
      have hold := hown.cell hlt
      have hfr := hown.frozen k
      rw [if_neg (Nat.lt_irrefl k)] at hold
      have ho2 := hown.set_ (V' := fun j => if j < k + 1 then cx (pf f (a j)) (pf s (b j)) else .complex .f64 0 0) k (cx (pf f (a k)) (pf s (b k))) (by simp) (fun j _ hj => by
        by_cases h1 : j < k
        · rw [if_pos h1, if_pos (by omega)]
        · rw [if_neg h1, if_neg (by omega)])
      have hb2 := hbel.setCell (p := ⟨w.heap.size, k, none⟩) (Nat.le_refl _) (cx (pf f (a k)) (pf s (b k)))
      clear hcell
      go_wp2_with (go_at_call 197; refine (keep_cx (a k) (b k) f s _).mono ?_; rintro e w' ⟨rfl, rfl⟩)
      go_roundw
      case rel => exact ⟨k + 1, by omega, by go_num, ho2, hb2⟩
      case measure => simp [intOf]; omega
    · go_wp2
      go_ret
      exact ⟨_, rfl, hown.alike fun j hj => by rw [if_pos (by omega)], hbel⟩

set_option maxRecDepth 100000 in
theorem run_sub_cx (w : World) (a b : Int) (ha : a.natAbs < 2 ^ 52) (hb : b.natAbs < 2 ^ 52) :
    (binOp .sub 239 (.complex .f64 0 0) (.complex .f64 (floatOfInt .f64 a) (floatOfInt .f64 b))).run Tryz.prog w = .ok (.complex .f64 (floatOfInt .f64 (-a)) (floatOfInt .f64 (-b))) w := by
  refine run_complex_sum w .sub (.inr rfl) _ _ _ _ _ _ _ _ ?_
  unfold cSumBits
  rw [sub_zero_fl a ha, sub_zero_fl b hb]
  rfl
set_option maxRecDepth 100000 in
theorem run_add_cx (w : World) (a b c d : Int) (ha : a.natAbs < 2 ^ 52) (hb : b.natAbs < 2 ^ 52) (hc : c.natAbs < 2 ^ 52) (hd : d.natAbs < 2 ^ 52) :
    (binOp .add 239 (.complex .f64 (floatOfInt .f64 a) (floatOfInt .f64 b)) (.complex .f64 (floatOfInt .f64 c) (floatOfInt .f64 d))).run Tryz.prog w = .ok (.complex .f64 (floatOfInt .f64 (a + c)) (floatOfInt .f64 (b + d))) w := by
  refine run_complex_sum w .add (.inl rfl) _ _ _ _ _ _ _ _ ?_
  unfold cSumBits
  rw [add_fl a c ha hc, add_fl b d hb hd]
  rfl

/-- A row with the sample at a place turned. -/
def turned (t : Int) (a : Nat → Int) (k : Nat) : Int := if (k : Int) = t then -a k else a k

set_option maxRecDepth 100000 in
set_option maxHeartbeats 1000000 in
theorem turn_any (A : Option Addr) (n c : Nat) (a b : Nat → Int) (t : Int) (w : World) (h : Sees w w.heap.size A n fun k => cx (a k) (b k)) (ha : ∀ k, k < n → (a k).natAbs < 2 ^ 52) (hb : ∀ k, k < n → (b k).natAbs < 2 ^ 52) (ht : -9223372036854775808 ≤ t ∧ t ≤ 9223372036854775807) (hr : n ≤ 8796093022208) :
    Calls Tryz.prog 198 #[.slice A n c, .int .i64 t] w fun e w' =>
      ∃ v, e = .returned v ∧ Owns w' w.heap.size 239 v n (fun k => cx (turned t a k) (turned t b k)) ∧ Below w.heap.size w w' := by
  by_cases h0 : 0 ≤ t ∧ t < n
  · obtain ⟨T, rfl⟩ := Int.eq_ofNat_of_zero_le h0.1
    have hT : T < n := by omega
    have hd0 : decide ((0 : Int) ≤ (T : Int)) = true := by simp
    have hd1 : decide (T < n) = true := by simp; omega
    clear h0
    go_enter Tryz.func198, Tryz.ntmps198
    go_wp2_with (at_make; go_loud (refine wpList_zeros _ rfl _ _ 209 rfl w.heap.size w (Below.refl _ _) (Nat.le_refl _) 239 (.complex .f64 0 0) 16 infoCx rfl Tryz.underlying209 _ _ _ _ n rfl rfl rfl rfl (by omega) (by unfold maxLen; omega) ?_))
    intro w1 ho1 hb1 hs1 _
    go_wp2_with (with_reducible refine wpList_copyAll _ rfl (.tmp 9) (.tmp 10) 209 209 rfl 239 (.complex .f64 0 0) 16 Tryz.underlying209 infoCx w.heap.size w hb1 w.heap.size n _ ho1 rfl w.heap.size A c _ rfl (h.below hb1) (fun _ _ => rfl) ?_)
    intro w2 ho2 hb2
    have hx : w2.cell? ⟨w.heap.size, T, none⟩ = some (.complex .f64 (floatOfInt .f64 (a T)) (floatOfInt .f64 (b T))) := ho2.cell hT
    have hfr := ho2.frozen T
    have hsub := run_sub_cx w2 (a T) (b T) (ha T hT) (hb T hT)
    have ho3 := ho2.set_ (V' := fun k => cx (turned (T : Int) a k) (turned (T : Int) b k)) T (.complex .f64 (floatOfInt .f64 (-a T)) (floatOfInt .f64 (-b T))) (by simp [turned, cx]) (fun j _ hj => by
      have : ¬ (j : Int) = (T : Int) := by omega
      simp [turned, this])
    have hb3 := hb2.setCell (p := ⟨w.heap.size, T, none⟩) (Nat.le_refl _) (.complex .f64 (floatOfInt .f64 (-a T)) (floatOfInt .f64 (-b T)))
    clear ho1 ho2 hb1 hb2
    go_wp2
    go_ret
    exact ⟨_, rfl, ho3, hb3⟩
  · have hno : ∀ k, k < n → ¬ (k : Int) = t := fun k hk e => h0 ⟨by omega, by omega⟩
    by_cases h1 : 0 ≤ t
    · have h2 : ¬ t < n := fun e => h0 ⟨h1, e⟩
      have hd0 : decide (0 ≤ t) = true := by simp; omega
      have hd1 : decide (t < (n : Int)) = false := by simp; omega
      clear h0
      go_enter Tryz.func198, Tryz.ntmps198
      go_wp2_with (at_make; go_loud (refine wpList_zeros _ rfl _ _ 209 rfl w.heap.size w (Below.refl _ _) (Nat.le_refl _) 239 (.complex .f64 0 0) 16 infoCx rfl Tryz.underlying209 _ _ _ _ n rfl rfl rfl rfl (by omega) (by unfold maxLen; omega) ?_))
      intro w1 ho1 hb1 hs1 _
      go_wp2_with (with_reducible refine wpList_copyAll _ rfl (.tmp 9) (.tmp 10) 209 209 rfl 239 (.complex .f64 0 0) 16 Tryz.underlying209 infoCx w.heap.size w hb1 w.heap.size n _ ho1 rfl w.heap.size A c _ rfl (h.below hb1) (fun _ _ => rfl) ?_)
      intro w2 ho2 hb2
      clear ho1 hb1
      go_wp2
      go_ret
      exact ⟨_, rfl, ho2.alike fun k hk => by simp [turned, hno k hk], hb2⟩
    · have hd0 : decide (0 ≤ t) = false := by simp; omega
      clear h0
      go_enter Tryz.func198, Tryz.ntmps198
      go_wp2_with (at_make; go_loud (refine wpList_zeros _ rfl _ _ 209 rfl w.heap.size w (Below.refl _ _) (Nat.le_refl _) 239 (.complex .f64 0 0) 16 infoCx rfl Tryz.underlying209 _ _ _ _ n rfl rfl rfl rfl (by omega) (by unfold maxLen; omega) ?_))
      intro w1 ho1 hb1 hs1 _
      go_wp2_with (with_reducible refine wpList_copyAll _ rfl (.tmp 9) (.tmp 10) 209 209 rfl 239 (.complex .f64 0 0) 16 Tryz.underlying209 infoCx w.heap.size w hb1 w.heap.size n _ ho1 rfl w.heap.size A c _ rfl (h.below hb1) (fun _ _ => rfl) ?_)
      intro w2 ho2 hb2
      clear ho1 hb1
      go_wp2
      go_ret
      exact ⟨_, rfl, ho2.alike fun k hk => by simp [turned, hno k hk], hb2⟩
end Go.Proofs.YtpdenmcacaajkaaGreat

/-! ### LineI -/
namespace Go.Proofs.YtpdenmcacaajkaaGreat
open Go.RowKit

def mx (n : Nat → Nat) : Nat → Nat
  | 0 => 0
  | i + 1 => max (mx n i) (n i)
def sm (n : Nat → Nat) (a : Nat → Nat → Int) : Nat → Nat → Int
  | 0, _ => 0
  | i + 1, k => sm n a i k + (if k < n i then a i k else 0)
set_option maxRecDepth 100000 in
theorem mx_le (n : Nat → Nat) (M : Nat) : ∀ m, (∀ i, i < m → n i ≤ M) → mx n m ≤ M
  | 0, _ => Nat.zero_le _
  | m + 1, h => Nat.max_le.2 ⟨mx_le n M m fun i hi => h i (by omega), h m (by omega)⟩
set_option maxRecDepth 100000 in
theorem le_mx (n : Nat → Nat) : ∀ m i, i < m → n i ≤ mx n m
  | m + 1, i, h => by
    by_cases hi : i = m
    · subst hi; exact Nat.le_max_right _ _
    · exact Nat.le_trans (le_mx n m i (by omega)) (Nat.le_max_left _ _)
set_option maxRecDepth 100000 in
theorem zero_cx : (.complex .f64 0 0 : Value) = cx 0 0 := by
  unfold cx
  rw [show floatOfInt .f64 0 = 0 from fl_zero]

attribute [local go_sem] store_complex
set_option maxRecDepth 100000 in
set_option maxHeartbeats 2000000 in
theorem mix_any (L : Option Addr) (m C : Nat) (A : Nat → Option Addr) (n c : Nat → Nat) (a b : Nat → Nat → Int) (w : World) (h : Sees w w.heap.size L m fun i => .slice (A i) (n i) (c i))
    (hrow : ∀ i, i < m → Sees w w.heap.size (A i) (n i) fun k => cx (a i k) (b i k)) (hm : m ≤ 8) (hn : ∀ i, i < m → n i ≤ 100000)
    (ha : ∀ i k, i < m → k < n i → (a i k).natAbs < 2 ^ 52) (hb : ∀ i k, i < m → k < n i → (b i k).natAbs < 2 ^ 52) (hsa : ∀ i k, i < m → (sm n a i k).natAbs < 2 ^ 52) (hsb : ∀ i k, i < m → (sm n b i k).natAbs < 2 ^ 52) :
    Calls Tryz.prog 159 #[.slice L m C] w fun e w' =>
      ∃ v, e = .returned v ∧ Owns w' w.heap.size 239 v (mx n m) (fun k => cx (sm n a m k) (sm n b m k)) ∧ Below w.heap.size w w' := by
  go_enter Tryz.func159, Tryz.ntmps159
  go_wp2
  go_loop [3, 13] (fun x i => ∃ k : Nat, k ≤ m ∧ i = .int .i64 k ∧ x = .int .i64 (mx n k)) (fun _ i => m - (intOf i).toNat)
  case atStart => exact ⟨0, by omega, rfl, rfl⟩
  case round =>
    obtain ⟨i, hi, rfl, rfl⟩ := hrel
    by_cases hlt : i < m
    · obtain ⟨b0, off, rfl, hbb, hcell⟩ := h (by omega)
      have hx : w.cell? ⟨b0, off + i, none⟩ = some (.slice (A i) (n i) (c i)) := hcell i hlt
      have hni := hn i hlt
      have hmi := mx_le n 100000 i fun j hj => hn j (by omega)
      have HS := Lib.hid (show mx n (i + 1) = max (mx n i) (n i) from rfl)
      clear hcell
      by_cases hle : mx n i ≤ n i
      all_goals
        go_wp2
        go_round
        case rel => exact ⟨i + 1, by omega, by go_num, by rw [HS.out]; go_num⟩
        case measure => simp [intOf]; omega
    · obtain rfl : i = m := by omega
      have hM := mx_le n 100000 i fun j hj => hn j (by omega)
      have hMi := le_mx n i
      clear hlt hi
      go_wp2_with (at_make; go_loud (refine wpList_zeros _ rfl _ _ 209 rfl w.heap.size w (Below.refl _ _) (Nat.le_refl _) 239 (.complex .f64 0 0) 16 infoCx rfl Tryz.underlying209 _ _ _ _ (mx n i) rfl rfl rfl rfl (by omega) (by unfold maxLen; omega) ?_))
      intro w1 ho1 hb1 hs1 _
      go_wp2
      go_loopw [26] (fun j wr => ∃ r : Nat, r ≤ i ∧ j = .int .i64 r ∧ Owns wr w.heap.size 239 (.slice (some ⟨w.heap.size, 0, none⟩) (mx n i) (mx n i)) (mx n i) (fun k => cx (sm n a r k) (sm n b r k)) ∧ Below w.heap.size w wr) (fun j _ => i - (intOf j).toNat)
      case atStart => exact ⟨0, by omega, rfl, ho1.alike fun k _ => zero_cx, hb1⟩
      case round =>
        obtain ⟨r, hr, rfl, hown, hbel⟩ := hrel
        clear ho1 hb1
        by_cases hlr : r < i
        · obtain ⟨b0, off, rfl, hbb, hcell⟩ := h (by omega)
          have hx : wr.cell? ⟨b0, off + r, none⟩ = some (.slice (A r) (n r) (c r)) := (hbel.cell hbb).trans (hcell r hlr)
          have hnr := hn r hlr
          have hnr2 := hMi r hlr
          have hdr : decide (r < i) = true := by simp; omega
          have hsr := hrow r hlr
          clear hcell
          rcases Nat.eq_zero_or_pos (n r) with h0 | h0
          case' inr =>
            obtain ⟨b1, off1, hA, hbb1, hcell1⟩ := hsr h0
            rw [hA] at hx
            clear hA
          case' inl =>
            have h0' : n r ≤ 0 := by omega
            clear h0
          all_goals
            go_wp2
            go_loopw [32] (fun j wx => ∃ k : Nat, k ≤ n r ∧ j = .int .i64 k ∧ Owns wx w.heap.size 239 (.slice (some ⟨w.heap.size, 0, none⟩) (mx n i) (mx n i)) (mx n i) (fun k' => cx (sm n a (if k' < k then r + 1 else r) k') (sm n b (if k' < k then r + 1 else r) k')) ∧ Below w.heap.size w wx) (fun j _ => n r - (intOf j).toNat)
            case atStart => exact ⟨0, by omega, rfl, hown.alike fun k _ => by simp, hbel⟩
            case round =>
              clear hx hown hbel
              obtain ⟨k, hk, rfl, hown, hbel⟩ := hrel
              by_cases hlk : k < n r
              · try (exfalso; omega)
                all_goals
                  have hy : wr.cell? ⟨b1, off1 + k, none⟩ = some (.complex .f64 (floatOfInt .f64 (a r k)) (floatOfInt .f64 (b r k))) := (hbel.cell hbb1).trans (hcell1 k hlk)
                  have hold := hown.cell (k := k) (by omega)
                  rw [if_neg (Nat.lt_irrefl k)] at hold
                  have hold' : wr.cell? ⟨w.heap.size, k, none⟩ = some (.complex .f64 (floatOfInt .f64 (sm n a r k)) (floatOfInt .f64 (sm n b r k))) := hold
                  have hfr := hown.frozen k
                  have hadd := run_add_cx wr (sm n a r k) (sm n b r k) (a r k) (b r k) (hsa r k hlr) (hsb r k hlr) (ha r k hlr hlk) (hb r k hlr hlk)
                  have e1 : sm n a (r + 1) k = sm n a r k + a r k := by simp [sm, hlk]
                  have e2 : sm n b (r + 1) k = sm n b r k + b r k := by simp [sm, hlk]
                  have ho2 := hown.set_ (V' := fun k' => cx (sm n a (if k' < k + 1 then r + 1 else r) k') (sm n b (if k' < k + 1 then r + 1 else r) k')) k (.complex .f64 (floatOfInt .f64 (sm n a r k + a r k)) (floatOfInt .f64 (sm n b r k + b r k))) (by
                      show cx _ _ = _
                      rw [if_pos (by omega), e1, e2]
                      rfl) (fun j _ hj => by
                    show cx _ _ = cx _ _
                    by_cases h1 : j < k
                    · rw [if_pos h1, if_pos (by omega)]
                    · rw [if_neg h1, if_neg (by omega)])
                  have hb2 := hbel.setCell (p := ⟨w.heap.size, k, none⟩) (Nat.le_refl _) (.complex .f64 (floatOfInt .f64 (sm n a r k + a r k)) (floatOfInt .f64 (sm n b r k + b r k)))
                  have hkM : k < mx n i := by omega
                  clear hold e1 e2
                  go_wp2
                  go_roundw
                  case rel => exact ⟨k + 1, by omega, by go_num, ho2, hb2⟩
                  case measure => simp [intOf]; omega
              · go_wp2
                go_roundw
                case rel => exact ⟨r + 1, by omega, by go_num, hown.alike fun j _ => by
                    show cx _ _ = cx _ _
                    by_cases h1 : j < k
                    · rw [if_pos h1]
                    · rw [if_neg h1]
                      have h2 : ¬ j < n r := by omega
                      simp [sm, h2], hbel⟩
                case measure => simp [intOf]; omega
        · go_wp2
          go_ret
          exact ⟨_, rfl, by rw [show i = r by omega]; rw [show i = r by omega] at hown; exact hown, hbel⟩
end Go.Proofs.YtpdenmcacaajkaaGreat

/-! ### MixTwo -/
namespace Go.Proofs.YtpdenmcacaajkaaGreat
open Go.RowKit

def two {α : Type} (x y : α) (i : Nat) : α := if i = 0 then x else y
set_option maxRecDepth 100000 in
theorem sees_two (w : World) (B : Nat) (e : TypeId) (A0 A1 : Option Addr) (n0 n1 c0 c1 : Nat) (hB : w.heap.size < B) :
    Sees (w.alloc (.cells #[.slice A0 n0 c0, .slice A1 n1 c1] e)) B (some ⟨w.heap.size, 0, none⟩) 2 fun i => .slice (two A0 A1 i) (two n0 n1 i) (two c0 c1 i) := fun _ =>
  ⟨_, _, rfl, hB, fun k hk => by
    rw [World.cell?_alloc_at _ _ _ _ rfl]
    have : k = 0 ∨ k = 1 := by omega
    rcases this with rfl | rfl <;> rfl⟩

set_option maxRecDepth 100000 in
theorem owns_down {w : World} {B B' n : Nat} {e : TypeId} {v : Value} {V : Nat → Value} (h : Owns w B e v n V) (hB : B' ≤ B) : Owns w B' e v n V := by
  refine ⟨h.1, ?_⟩
  rcases h.2 with h | ⟨g, cap, cur, h1, h2, h3⟩
  · exact .inl h
  · exact .inr ⟨g, cap, cur, h1, by omega, h3⟩

set_option maxRecDepth 100000 in
theorem mix_two (A0 A1 : Option Addr) (n0 n1 c0 c1 : Nat) (a0 b0 a1 b1 : Nat → Int) (w : World) (e : TypeId)
    (h0 : Sees w w.heap.size A0 n0 fun k => cx (a0 k) (b0 k)) (h1 : Sees w w.heap.size A1 n1 fun k => cx (a1 k) (b1 k)) (hn0 : n0 ≤ 100000) (hn1 : n1 ≤ 100000)
    (s0 : ∀ k, (a0 k).natAbs < 2 ^ 50 ∧ (b0 k).natAbs < 2 ^ 50) (s1 : ∀ k, (a1 k).natAbs < 2 ^ 50 ∧ (b1 k).natAbs < 2 ^ 50) :
    Calls Tryz.prog 159 #[.slice (some ⟨w.heap.size, 0, none⟩) 2 2] (w.alloc (.cells #[.slice A0 n0 c0, .slice A1 n1 c1] e)) fun e w' =>
      ∃ v, e = .returned v ∧ Owns w' w.heap.size 239 v (max n0 n1) (fun k => cx ((if k < n0 then a0 k else 0) + (if k < n1 then a1 k else 0)) ((if k < n0 then b0 k else 0) + (if k < n1 then b1 k else 0))) ∧ Below w.heap.size w w' := by
  have hb : Below w.heap.size w (w.alloc (.cells #[.slice A0 n0 c0, .slice A1 n1 c1] e)) := (Below.refl _ _).alloc (Nat.le_refl _) _
  have hsm : ∀ (n : Nat → Nat) (x y : Nat → Int) (i k : Nat), i < 2 → (∀ k, (x k).natAbs < 2 ^ 50) → (sm n (two x y) i k).natAbs < 2 ^ 52 := by
    intro n x y i k hi hx
    have : i = 0 ∨ i = 1 := by omega
    rcases this with rfl | rfl
    · simp [sm]
    · have := hx k
      simp only [sm, two, if_true]
      split <;> omega
  refine (mix_any (some ⟨w.heap.size, 0, none⟩) 2 2 (two A0 A1) (two n0 n1) (two c0 c1) (two a0 a1) (two b0 b1) _ (sees_two w _ e A0 A1 n0 n1 c0 c1 (by simp)) ?_ (by omega) ?_ ?_ ?_ (fun i k hi => hsm _ _ _ i k hi fun k => (s0 k).1) (fun i k hi => hsm _ _ _ i k hi fun k => (s0 k).2)).mono ?_
  · intro i hi
    have : i = 0 ∨ i = 1 := by omega
    rcases this with rfl | rfl
    · exact (h0.below hb).more (by simp)
    · exact (h1.below hb).more (by simp)
  · intro i hi
    have : i = 0 ∨ i = 1 := by omega
    rcases this with rfl | rfl
    · exact hn0
    · exact hn1
  · intro i k hi _
    have : i = 0 ∨ i = 1 := by omega
    rcases this with rfl | rfl
    · exact Nat.lt_trans (s0 k).1 (by decide)
    · exact Nat.lt_trans (s1 k).1 (by decide)
  · intro i k hi _
    have : i = 0 ∨ i = 1 := by omega
    rcases this with rfl | rfl
    · exact Nat.lt_trans (s0 k).2 (by decide)
    · exact Nat.lt_trans (s1 k).2 (by decide)
  · rintro e w' ⟨v, rfl, ho, hb'⟩
    refine ⟨v, rfl, ?_, hb.trans (hb'.mono (by simp))⟩
    have hmx : mx (two n0 n1) 2 = max n0 n1 := by simp [mx, two]
    rw [hmx] at ho
    exact owns_down (ho.alike fun k _ => by simp [sm, two]) (by simp)

end Go.Proofs.YtpdenmcacaajkaaGreat
