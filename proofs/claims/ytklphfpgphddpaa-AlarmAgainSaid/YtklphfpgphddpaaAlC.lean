/- What an Alarms holds in memory, and the contracts of alarm but Look. For rules that may be. -/
import Derived.Test.YtklphfpgphddpaaAlR
import Derived.Test.YtklphfpgphddpaaAlW
import Derived.Recover
import Derived.BigRegion
import Derived.BigQuiet
import Derived.Deep.RegionWith
import Derived.Deep.RegionLaw
import Derived.Lib.LazyBuf
namespace Go.Proofs.Ytklphfpgphddpaa
open Go.RowKit

def c8 (f : Nat → Nat) : Array Value := #[.int .i64 (f 0 : Nat), .int .i64 (f 1 : Nat), .int .i64 (f 2 : Nat), .int .i64 (f 3 : Nat), .int .i64 (f 4 : Nat), .int .i64 (f 5 : Nat), .int .i64 (f 6 : Nat), .int .i64 (f 7 : Nat)]
def alc (V : Value) (n r : Nat → Nat) : Array Value := #[V, .int .i64 (n 0 : Nat), .int .i64 (n 1 : Nat), .int .i64 (n 2 : Nat), .int .i64 (n 3 : Nat), .int .i64 (n 4 : Nat), .int .i64 (n 5 : Nat), .int .i64 (n 6 : Nat), .int .i64 (n 7 : Nat), .int .i64 (r 0 : Nat), .int .i64 (r 1 : Nat), .int .i64 (r 2 : Nat), .int .i64 (r 3 : Nat), .int .i64 (r 4 : Nat), .int .i64 (r 5 : Nat), .int .i64 (r 6 : Nat), .int .i64 (r 7 : Nat)]
section
variable (V : Value) (f n r : Nat → Nat) {i : Nat} (hi : i < 8)
include hi
theorem c8_at : (c8 f)[i]? = some (.int .i64 (f i : Nat)) := under8 (p := fun i => (c8 f)[i]? = some (.int .i64 (f i : Nat))) hi rfl rfl rfl rfl rfl rfl rfl rfl
theorem c8_set (x : Nat) : (c8 f).setIfInBounds i (.int .i64 x) = c8 (upd f i x) := under8 (p := fun i => (c8 f).setIfInBounds i (.int .i64 x) = c8 (upd f i x)) hi rfl rfl rfl rfl rfl rfl rfl rfl
theorem alc_n : (alc V n r)[1 + i]? = some (.int .i64 (n i : Nat)) := under8 (p := fun i => (alc V n r)[1 + i]? = some (.int .i64 (n i : Nat))) hi rfl rfl rfl rfl rfl rfl rfl rfl
theorem alc_r : (alc V n r)[9 + i]? = some (.int .i64 (r i : Nat)) := under8 (p := fun i => (alc V n r)[9 + i]? = some (.int .i64 (r i : Nat))) hi rfl rfl rfl rfl rfl rfl rfl rfl
theorem set_n (x : Nat) : (alc V n r).setIfInBounds (1 + i) (.int .i64 x) = alc V (upd n i x) r := under8 (p := fun i => (alc V n r).setIfInBounds (1 + i) (.int .i64 x) = alc V (upd n i x) r) hi rfl rfl rfl rfl rfl rfl rfl rfl
theorem set_r (x : Nat) : (alc V n r).setIfInBounds (9 + i) (.int .i64 x) = alc V n (upd r i x) := under8 (p := fun i => (alc V n r).setIfInBounds (9 + i) (.int .i64 x) = alc V n (upd r i x)) hi rfl rfl rfl rfl rfl rfl rfl rfl
end
/-- An Alarms in memory: its rules lie in no block of F. -/
structure AAt (F : List Nat) (W : World) (g : Nat) (l : List R4) (n r : Nat → Nat) : Prop where
  ex : ∃ V, Blk W g (alc V n r) 53 ∧ SeesRs W W.heap.size V l ∧ ∀ f, f ∈ F → l ≠ [] → V.ownBlock ≠ some f
  len : l.length ≤ 8
  n16 : ∀ i, i < 8 → n i < 16
  r16 : ∀ i, i < 8 → r i < 16
section
variable {F : List Nat} {W W' : World} {g g' : Nat} {l : List R4} {n r : Nat → Nat}
theorem SeesRs.keepF {V : Value} (h : SeesRs W W.heap.size V l) (hF : ∀ f, f ∈ F → l ≠ [] → V.ownBlock ≠ some f) (k : Kp F W W') : SeesRs W' W'.heap.size V l := ⟨by
  obtain ⟨A, c, rfl, h1, h2, h3, h4⟩ := h.at_
  refine ⟨A, c, rfl, h1, h2, fun h0 => ?_, h4⟩
  obtain ⟨b, off, rfl, hb, hc⟩ := h3 h0
  have hn : b ∉ F := fun hm => hF b hm (List.length_pos_iff.1 h0) rfl
  exact ⟨b, off, rfl, Nat.lt_of_lt_of_le hb k.size, fun j hj => (hc j hj).keep fun o => by simp only [World.cell?, k.block b hb hn]⟩⟩
theorem AAt.lt (h : AAt F W g l n r) : g < W.heap.size := by
  obtain ⟨V, hB, -⟩ := h.ex
  exact hB.lt
theorem AAt.keep (h : AAt F W g l n r) (k : Kp F W W') (hb : W'.heap[g]? = W.heap[g]?) : AAt F W' g l n r := by
  obtain ⟨V, hB, hS, hF⟩ := h.ex
  exact ⟨⟨V, hb.trans hB, hS.keepF hF k, hF⟩, h.len, h.n16, h.r16⟩
theorem AAt.below (h : AAt F W g l n r) (k : Below W.heap.size W W') : AAt F W' g l n r := h.keep (kp_below k) (k.block g h.lt)
theorem AAt.only (h : AAt F W g l n r) (k : Only g' W W') (hne : g ≠ g') (hF : g' ∈ F) : AAt F W' g l n r := h.keep (k.kp hF) (k.block g h.lt (by intro e; cases e; exact hne rfl))
theorem AAt.more (h : AAt F W g l n r) (k : Below W.heap.size W W') {f : Nat} (hf : W.heap.size ≤ f) : AAt (f :: F) W' g l n r := by
  obtain ⟨V, hB, hS, hF⟩ := h.ex
  have h' := h.below k
  obtain ⟨V', hB', hS', hF'⟩ := h'.ex
  refine ⟨⟨V', hB', hS', fun x hx hl => ?_⟩, h.len, h.n16, h.r16⟩
  rcases List.mem_cons.1 hx with rfl | hx
  · have e : V' = V := by
      have e1 := (hB.below k hB.lt).symm.trans hB'
      simp only [Option.some.injEq, Obj.cells.injEq] at e1
      have := congrArg (fun a => a[0]?) e1.1
      simpa [alc] using this.symm
    subst e
    obtain ⟨A, c, rfl, -, -, h3, -⟩ := hS.at_
    obtain ⟨b, off, rfl, hb, -⟩ := h3 (List.length_pos_iff.2 hl)
    simp only [Value.ownBlock]
    intro e
    cases e
    all_goals (first | omega | exact H.elim)
  · exact hF' x hx hl
theorem AAt.frozen (h : AAt F W g l n r) (o : Nat) : W.frozen? ⟨g, o, none⟩ = false := by
  obtain ⟨V, hB, -⟩ := h.ex
  exact hB.frozen _
theorem AAt.cs (h : AAt F W g l n r) : ∃ A c, W.cell? ⟨g, 0, none⟩ = some (.slice A l.length c) ∧ SeesRs W W.heap.size (.slice A l.length c) l := by
  obtain ⟨V, hB, hS, -⟩ := h.ex
  obtain ⟨A, c, rfl, -⟩ := hS.at_
  exact ⟨A, c, hB.cell 0 rfl, hS⟩
theorem AAt.cn (h : AAt F W g l n r) {i : Nat} (hi : i < 8) : W.cell? ⟨g, 1 + i, none⟩ = some (.int .i64 (n i : Nat)) := by
  obtain ⟨V, hB, -⟩ := h.ex
  exact hB.cell _ (alc_n _ _ _ hi)
theorem AAt.cr (h : AAt F W g l n r) {i : Nat} (hi : i < 8) : W.cell? ⟨g, 9 + i, none⟩ = some (.int .i64 (r i : Nat)) := by
  obtain ⟨V, hB, -⟩ := h.ex
  exact hB.cell _ (alc_r _ _ _ hi)
theorem AAt.setr (h : AAt F W g l n r) (hg : g ∈ F) {i x : Nat} (hi : i < 8) (hx : x < 16) : AAt F (W.setCell ⟨g, 9 + i, none⟩ (.int .i64 x)) g l n (upd r i x) := by
  obtain ⟨V, hB, hS, hF⟩ := h.ex
  have hkp : Kp F W (W.setCell ⟨g, 9 + i, none⟩ (.int .i64 x)) := ((Only.refl g W).set _ _).kp hg
  refine ⟨⟨V, (hB.set _ _).eq (set_r _ _ _ hi _), hS.keepF hF hkp, hF⟩, h.len, h.n16, fun j hj => ?_⟩
  simp only [upd]
  split
  · exact hx
  · exact h.r16 j hj
theorem AAt.setn (h : AAt F W g l n r) (hg : g ∈ F) {i x : Nat} (hi : i < 8) (hx : x < 16) : AAt F (W.setCell ⟨g, 1 + i, none⟩ (.int .i64 x)) g l (upd n i x) r := by
  obtain ⟨V, hB, hS, hF⟩ := h.ex
  have hkp : Kp F W (W.setCell ⟨g, 1 + i, none⟩ (.int .i64 x)) := ((Only.refl g W).set _ _).kp hg
  refine ⟨⟨V, (hB.set _ _).eq (set_n _ _ _ hi _), hS.keepF hF hkp, hF⟩, h.len, fun j hj => ?_, h.r16⟩
  simp only [upd]
  split
  · exact hx
  · exact h.n16 j hj
theorem AAt.drew (h : AAt F W g l n r) : AAt F W.drew g l n r := h.below (Below.refl _ W).drew
theorem AAt.alike {n' r' : Nat → Nat} (h : AAt F W g l n r) (hn : ∀ i, i < 8 → n i = n' i) (hr : ∀ i, i < 8 → r i = r' i) : AAt F W g l n' r' := by
  obtain ⟨V, hB, hS, hF⟩ := h.ex
  refine ⟨⟨V, hB.eq ?_, hS, hF⟩, h.len, fun i hi => hn i hi ▸ h.n16 i hi, fun i hi => hr i hi ▸ h.r16 i hi⟩
  unfold alc
  rw [hn 0 (by omega), hn 1 (by omega), hn 2 (by omega), hn 3 (by omega), hn 4 (by omega), hn 5 (by omega), hn 6 (by omega), hn 7 (by omega), hr 0 (by omega), hr 1 (by omega), hr 2 (by omega), hr 3 (by omega), hr 4 (by omega), hr 5 (by omega), hr 6 (by omega), hr 7 (by omega)]
end
/-- Is there such a rule? -/
def isR (l : List R4) (i : Int) : Prop := 0 ≤ i ∧ i < l.length
instance (l : List R4) (i : Int) : Decidable (isR l i) := inferInstanceAs (Decidable (_ ∧ _))
set_option maxRecDepth 100000 in
set_option maxHeartbeats 2000000 in
theorem mayBe_al (r : R4) (w : World) :
    Calls Try.prog 20 #[r.v] w fun e w' => e = .returned (.bool (decide r.may)) ∧ Below w.heap.size w w' := by
  obtain ⟨n, lo, hi, st⟩ := r
  have hbel : ∀ M1, Below w.heap.size w (w.alloc M1) := fun M1 => (Below.refl w.heap.size w).alloc (Nat.le_refl _) M1
  unfold R4.v
  go_enter Try.func20, Try.ntmps20
  go_wp2
  all_goals
    go_ret
    refine ⟨congrArg (fun b => Ending.returned (Value.bool b)) (Bool.eq_iff_iff.2 ?_), hbel _⟩
    rw [decide_eq_true_iff]
    simp only [decide_eq_true_eq, Bool.false_eq_true]
    unfold R4.may
    dsimp only
    constructor <;> intro H
    all_goals (first | omega | exact H.elim)
set_option maxRecDepth 100000 in
set_option maxHeartbeats 2000000 in
theorem has_al (F : List Nat) (g : Nat) (l : List R4) (n r : Nat → Nat) (i : Int) (w : World) (h : AAt F w g l n r) :
    Calls Try.prog 23 #[.pointer (some ⟨g, 0, none⟩), .int .i64 i] w fun e w' => e = .returned (.bool (decide (isR l i))) ∧ w' = w := by
  have h8 := h.len
  obtain ⟨A, c, c0, -⟩ := h.cs
  clear h
  go_enter Try.func23, Try.ntmps23
  go_wp2
  all_goals
    go_ret
    refine ⟨congrArg (fun b => Ending.returned (Value.bool b)) (Bool.eq_iff_iff.2 ?_), rfl⟩
    rw [decide_eq_true_iff]
    simp only [decide_eq_true_eq, Bool.false_eq_true]
    unfold isR
    constructor <;> intro H
    all_goals (first | omega | exact H.elim)
set_option maxRecDepth 100000 in
set_option maxHeartbeats 2000000 in
theorem rings_al (F : List Nat) (g : Nat) (l : List R4) (n r : Nat → Nat) (i : Int) (w : World) (h : AAt F w g l n r) :
    Calls Try.prog 17 #[.pointer (some ⟨g, 0, none⟩), .int .i64 i] w fun e w' => e = .returned (.int .i64 ((if isR l i then r i.toNat else 0 : Nat) : Int)) ∧ w' = w := by
  have HN := Lib.hid (has_al F g l n r i w h)
  by_cases hn : isR l i
  · rw [decide_eq_true hn] at HN
    rw [if_pos hn]
    have h8 := h.len
    unfold isR at hn
    obtain ⟨i, rfl⟩ : ∃ k : Nat, i = k := ⟨i.toNat, by omega⟩
    have hi : i < 8 := by omega
    have c1 := h.cr hi
    rw [Int.toNat_natCast]
    clear h
    go_enter Try.func17, Try.ntmps17
    go_wp2_with fail
    refine HN.out.mono ?_
    rintro _ _ ⟨rfl, rfl⟩
    go_wp2
    go_ret
    exact ⟨rfl, rfl⟩
  · rw [decide_eq_false hn] at HN
    rw [if_neg hn]
    go_enter Try.func17, Try.ntmps17
    go_wp2_with fail
    refine HN.out.mono ?_
    rintro _ _ ⟨rfl, rfl⟩
    go_wp2
    go_ret
    exact ⟨rfl, rfl⟩
set_option maxRecDepth 100000 in
set_option maxHeartbeats 2000000 in
theorem now_al (F : List Nat) (g : Nat) (l : List R4) (n r : Nat → Nat) (i : Int) (w : World) (h : AAt F w g l n r) :
    Calls Try.prog 19 #[.pointer (some ⟨g, 0, none⟩), .int .i64 i] w fun e w' => e = .returned (.int .i64 ((if isR l i then n i.toNat else 0 : Nat) : Int)) ∧ w' = w := by
  have HN := Lib.hid (has_al F g l n r i w h)
  by_cases hn : isR l i
  · rw [decide_eq_true hn] at HN
    rw [if_pos hn]
    have h8 := h.len
    unfold isR at hn
    obtain ⟨i, rfl⟩ : ∃ k : Nat, i = k := ⟨i.toNat, by omega⟩
    have hi : i < 8 := by omega
    have c1 := h.cn hi
    rw [Int.toNat_natCast]
    clear h
    go_enter Try.func19, Try.ntmps19
    go_wp2_with fail
    refine HN.out.mono ?_
    rintro _ _ ⟨rfl, rfl⟩
    go_wp2
    go_ret
    exact ⟨rfl, rfl⟩
  · rw [decide_eq_false hn] at HN
    rw [if_neg hn]
    go_enter Try.func19, Try.ntmps19
    go_wp2_with fail
    refine HN.out.mono ?_
    rintro _ _ ⟨rfl, rfl⟩
    go_wp2
    go_ret
    exact ⟨rfl, rfl⟩
end Go.Proofs.Ytklphfpgphddpaa
