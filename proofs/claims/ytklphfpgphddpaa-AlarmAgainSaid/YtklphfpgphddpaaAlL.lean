/- Pieces of the laws of alarm: of one rule; what is said; the law's own known. For rules that may be. -/
import Derived.Test.YtklphfpgphddpaaAlE
namespace Go.Proofs.Ytklphfpgphddpaa
open Go.RowKit

theorem sees_rule1 (w : World) (r : R4) (t : TypeId) (g : Nat) (hg : g = w.heap.size) (B : Nat) (hB : w.heap.size < B) : SeesRs (w.alloc (.cells #[.int .i64 r.n, .int .i64 r.lo, .int .i64 r.hi, .int .i64 r.st] t)) B (.slice (some ⟨g, 0, none⟩) 1 1) [r] := by
  subst hg
  refine ⟨_, 1, rfl, Nat.le_refl _, by unfold maxLen; omega, fun _ => ⟨w.heap.size, 0, rfl, hB, fun k hk => ?_⟩, fun h => by cases h⟩
  obtain rfl : k = 0 := by simpa using hk
  exact ⟨by rw [World.cell?_alloc_at _ _ _ _ rfl]; rfl, by rw [World.cell?_alloc_at _ _ _ _ rfl]; rfl, by rw [World.cell?_alloc_at _ _ _ _ rfl]; rfl, by rw [World.cell?_alloc_at _ _ _ _ rfl]; rfl⟩
theorem new1 (r : R4) (hm : r.may) (w : World) (t : TypeId) (k : Nat) (hk : k = w.heap.size) :
    Calls Try.prog 14 #[.slice (some ⟨k, 0, none⟩) 1 1] (w.alloc (.cells #[.int .i64 r.n, .int .i64 r.lo, .int .i64 r.hi, .int .i64 r.st] t)) fun e w' => ∃ g, e = .returned (.tuple #[.pointer (some ⟨g, 0, none⟩), .int .i64 0]) ∧ w.heap.size ≤ g ∧ AAt [g] w' g [r] (fun _ => 0) (fun _ => 0) ∧ Below w.heap.size w w' := by
  subst hk
  refine (new_al [r] _ (w.heap.size + 1) _ (sees_rule1 w r t _ rfl _ (Nat.lt_succ_self _)) (by simp) (by simp) (fun i hi => ?_)).mono ?_
  · obtain rfl : i = 0 := by simpa using hi
    exact hm
  · rintro _ w' ⟨g, rfl, hg, h, b⟩
    have hs : (w.alloc (.cells #[.int .i64 r.n, .int .i64 r.lo, .int .i64 r.hi, .int .i64 r.st] t)).heap.size = w.heap.size + 1 := by simp
    exact ⟨g, rfl, by omega, h [g] (fun f hf => .inr (List.mem_singleton.1 hf)), ((Below.refl w.heap.size w).alloc (Nat.le_refl _) _).trans (b.mono (by omega))⟩
theorem new0 (r : R4) (hm : ¬ r.may) (w : World) (t : TypeId) (k : Nat) (hk : k = w.heap.size) :
    Calls Try.prog 14 #[.slice (some ⟨k, 0, none⟩) 1 1] (w.alloc (.cells #[.int .i64 r.n, .int .i64 r.lo, .int .i64 r.hi, .int .i64 r.st] t)) fun e w' => e = .returned (.tuple #[.pointer none, .int .i64 1]) ∧ Below w.heap.size w w' := by
  subst hk
  refine (new_no [r] _ (w.heap.size + 1) _ (sees_rule1 w r t _ rfl _ (Nat.lt_succ_self _)) (by simp) (by simp) (fun h => hm (h 0 (by simp)))).mono ?_
  rintro _ w' ⟨rfl, b⟩
  have hs : (w.alloc (.cells #[.int .i64 r.n, .int .i64 r.lo, .int .i64 r.hi, .int .i64 r.st] t)).heap.size = w.heap.size + 1 := by simp
  exact ⟨rfl, ((Below.refl w.heap.size w).alloc (Nat.le_refl _) _).trans (b.mono (by omega))⟩
/-- Bytes in a new block. -/
theorem dat1 (F : List Nat) (w : World) (x : Int) (t : TypeId) (k : Nat) (hk : k = w.heap.size) (hF : ∀ f, f ∈ F → f < w.heap.size) : Dat F (w.alloc (.cells #[.int .u8 x] t)) (.slice (some ⟨k, 0, none⟩) 1 1) [x] := by
  subst hk
  exact ⟨sees_lit w t _ [x] rfl _ (by simp) (by unfold maxLen; simp) _ _ _ rfl rfl rfl, fun f hf _ e => by
    have := hF f hf
    simp only [Value.ownBlock] at e
    cases e
    omega⟩
theorem byt1 {x : Int} (h : 0 ≤ x ∧ x < 256) : bytesL [x] := fun y hy => by
  rw [List.mem_singleton.1 hy]
  exact h
/-- Nothing was said. -/
def MS.z0 : MS := ⟨fun _ => [], fun _ => 0, fun _ => false⟩
theorem pat_new (F : List Nat) (w : World) (t : TypeId) : PAt t F (w.alloc (.cells (stc (fun _ => .slice none 0 0) (fun _ => 0) (fun _ => false)) t)) w.heap.size MS.z0 :=
  ⟨_, Blk.new _ _ rfl _ _, fun _ _ => ⟨Dat.nil, fun x hx => by simp [MS.z0] at hx⟩⟩
def stc1 (k : Nat) : Array Value := stc (upd (fun _ => .slice none 0 0) 0 (.slice (some ⟨k, 0, none⟩) 1 1)) (fun _ => 0) (upd (fun _ => false) 0 true)
/-- The first said one byte. -/
def sd1 (b : Int) : MS := ⟨upd (fun _ => []) 0 [b], fun _ => 0, upd (fun _ => false) 0 true⟩
theorem pat_first (F : List Nat) (w : World) (b : Int) (t u : TypeId) (hF : ∀ f, f ∈ F → f < w.heap.size) (hb : 0 ≤ b ∧ b < 256) : PAt t F ((w.alloc (.cells (stc1 (w.heap.size + 1)) t)).alloc (.cells #[.int .u8 b] u)) w.heap.size (sd1 b) := by
  have hs : (w.alloc (.cells (stc1 (w.heap.size + 1)) t)).heap.size = w.heap.size + 1 := by simp
  refine ⟨_, (Blk.new w _ rfl _ t).alloc _, fun i hi => ?_⟩
  simp only [sd1, upd]
  split
  · exact ⟨dat1 _ _ b u _ hs.symm (fun f hf => by
      rcases List.mem_cons.1 hf with rfl | hf
      · omega
      · have := hF f hf
        omega), byt1 hb⟩
  · exact ⟨Dat.nil, fun x hx => by simp at hx⟩
theorem PAt.first {t : TypeId} {F : List Nat} {W : World} {g : Nat} {s : MS} (h : PAt t F W g s) : ∃ A c, W.cell? ⟨g, 0, none⟩ = some (.slice A (s.d 0).length c) ∧ W.cell? ⟨g, 1, none⟩ = some (.int .i64 (s.a 0)) ∧ W.cell? ⟨g, 2, none⟩ = some (.bool (s.g 0)) ∧ SeesL W W.heap.size (.slice A (s.d 0).length c) (s.d 0) := by
  obtain ⟨A, c, h0, hD, -⟩ := h.cs (i := 0) (by omega)
  exact ⟨A, c, h0, h.ca (i := 0) (by omega), h.cg (i := 0) (by omega), hD.1⟩
theorem andn_self {y : Nat} (h : y < 16) : andn y y = 0 := by
  have : ∀ a : Fin 16, andn a.val a.val = 0 := by decide +kernel
  exact this ⟨y, h⟩
theorem andn_zero {y : Nat} (h : y < 16) : andn y 0 = y := by
  have : ∀ a : Fin 16, andn a.val 0 = a.val := by decide +kernel
  exact this ⟨y, h⟩
/-- One says one byte. -/
theorem say_at {t u : TypeId} {F : List Nat} {W : World} {g : Nat} {s : MS} (h : PAt t F W g s) (i : Nat) (hi : i < 8) (x : Int) (hx : 0 ≤ x ∧ x < 256) (q : Bool) (hF : ∀ f, f ∈ F → f < W.heap.size) :
    PAt t F ((((W.setCell ⟨g, i * 3, none⟩ (.slice (some ⟨W.heap.size, 0, none⟩) 1 1)).setCell ⟨g, i * 3 + 1, none⟩ (.int .i64 0)).setCell ⟨g, i * 3 + 2, none⟩ (.bool q)).alloc (.cells #[.int .u8 x] u)) g ⟨upd s.d i [x], upd s.a i 0, upd s.g i q⟩ ∧
    Only g W ((((W.setCell ⟨g, i * 3, none⟩ (.slice (some ⟨W.heap.size, 0, none⟩) 1 1)).setCell ⟨g, i * 3 + 1, none⟩ (.int .i64 0)).setCell ⟨g, i * 3 + 2, none⟩ (.bool q)).alloc (.cells #[.int .u8 x] u)) := by
  have hk := (Below.refl W.heap.size W).alloc (Nat.le_refl _) (.cells #[.int .u8 x] u)
  have hgl := h.lt
  have h' := (h.below hk).say (i := i) hi (a := 0) (b := q) (dat1 (g :: F) W x u _ rfl (fun f hf => by
    rcases List.mem_cons.1 hf with rfl | hf
    · exact hgl
    · exact hF f hf)) (byt1 hx)
  have o := (((only_of_below g hk).set (i * 3) (.slice (some ⟨W.heap.size, 0, none⟩) 1 1)).set (i * 3 + 1) (.int .i64 0)).set (i * 3 + 2) (.bool q)
  have hs : ∀ (W : World) p v, (W.setCell p v).heap.size = W.heap.size := fun W p v => by simp [World.setCell]
  rw [World.setCell_alloc_past _ _ _ _ hgl, World.setCell_alloc_past _ _ _ _ (by rw [hs]; exact hgl), World.setCell_alloc_past _ _ _ _ (by rw [hs, hs]; exact hgl)] at h' o
  exact ⟨h', o⟩
theorem PAt.sub {t : TypeId} {F F' : List Nat} {W : World} {g : Nat} {s : MS} (h : PAt t F W g s) (hF : ∀ f, f ∈ F' → f ∈ F) : PAt t F' W g s := by
  obtain ⟨V, hB, hD⟩ := h
  exact ⟨V, hB, fun i hi => ⟨⟨(hD i hi).1.1, fun f hf => (hD i hi).1.2 f (by
    rcases List.mem_cons.1 hf with rfl | hf
    · simp
    · exact List.mem_cons_of_mem _ (hF f hf))⟩, (hD i hi).2⟩⟩
theorem PAt.more {t : TypeId} {F : List Nat} {W W' : World} {g f : Nat} {s : MS} (h : PAt t F W g s) (k : Below W.heap.size W W') (hf : W.heap.size ≤ f) : PAt t (f :: F) W' g s := by
  have h' := h.below k
  obtain ⟨V, hB, hD⟩ := h
  obtain ⟨V', hB', hD'⟩ := h'
  refine ⟨V, hB.below k hB.lt, fun i hi => ?_⟩
  have := (hD i hi).1.more k hf
  exact ⟨⟨this.1, fun x hx => this.2 x (by
    simp only [List.mem_cons] at hx ⊢
    rcases hx with rfl | rfl | hx
    · exact .inr (.inl rfl)
    · exact .inl rfl
    · exact .inr (.inr hx))⟩, (hD i hi).2⟩
/-- A list is longer: what is said lies elsewhere. -/
theorem PAt.ext {t : TypeId} {W W' : World} {g : Nat} {s : MS} {v v' : Value} (h : PAt t v.ownBlock.toList W g s) (e : Ext W W' v v') (hg : v.ownBlock ≠ some g) : PAt t v'.ownBlock.toList W' g s := by
  have hkq : Kq v.ownBlock.toList W W' := ⟨e.grown.os, e.grown.tape, e.grown.output, e.grown.size, fun k hk hn => e.grown.block k hk (fun h => hn (by rw [← h]; simp))⟩
  have h' := h.kq hkq (fun hm => hg (by simpa using hm))
  obtain ⟨V, hB, hD⟩ := h
  refine ⟨V, (hkq.block g hB.lt (fun hm => hg (by simpa using hm))).trans hB, fun i hi => ?_⟩
  have hd := (hD i hi).1
  refine ⟨⟨(hd.keep hkq.kp).1, fun f hf hl => ?_⟩, (hD i hi).2⟩
  rcases List.mem_cons.1 hf with rfl | hf
  · exact hd.2 _ (by simp) hl
  · have hv : v'.ownBlock = some f := by simpa using hf
    rcases e.lies f hv with h1 | h1
    · obtain ⟨A, c, e2, -, -, h3, -⟩ := hd.1.at_
      obtain ⟨b, off, rfl, hb, -⟩ := h3 (List.length_pos_iff.2 hl)
      rw [e2]
      simp only [Value.ownBlock]
      intro e3
      cases e3
      omega
    · exact hd.2 _ (List.mem_cons_of_mem _ (by rw [h1]; simp)) hl
/-! ### Of one rule. -/
def one (x : Nat) : Nat → Nat := fun i => if i = 0 then x else 0
def A1 (F : List Nat) (W : World) (g : Nat) (r : R4) (n x : Nat) : Prop := AAt F W g [r] (one n) (one x)
def whyS (r : R4) (s : MS) : Nat := whyM r (s.gd r.n) (s.ga r.n) (s.gg r.n)
theorem whyS_lt (r : R4) (s : MS) : whyS r s < 16 := whyM_lt _ _ _ _
theorem A1.lt {F : List Nat} {W : World} {g : Nat} {r : R4} {n x : Nat} (h : A1 F W g r n x) : g < W.heap.size := AAt.lt h
theorem A1.n16 {F : List Nat} {W : World} {g : Nat} {r : R4} {n x : Nat} (h : A1 F W g r n x) : n < 16 := AAt.n16 h 0 (by omega)
theorem A1.x16 {F : List Nat} {W : World} {g : Nat} {r : R4} {n x : Nat} (h : A1 F W g r n x) : x < 16 := AAt.r16 h 0 (by omega)
theorem A1.below {F : List Nat} {W W' : World} {g : Nat} {r : R4} {n x : Nat} (h : A1 F W g r n x) (k : Below W.heap.size W W') : A1 F W' g r n x := AAt.below h k
theorem A1.only {F : List Nat} {W W' : World} {g g' : Nat} {r : R4} {n x : Nat} (h : A1 F W g r n x) (k : Only g' W W') (hne : g ≠ g') (hF : g' ∈ F) : A1 F W' g r n x := AAt.only h k hne hF
theorem A1.start {F : List Nat} {W : World} {g : Nat} {r : R4} (h : AAt F W g [r] (fun _ => 0) (fun _ => 0)) : A1 F W g r 0 0 := h.alike (fun i _ => by unfold one; split <;> rfl) (fun i _ => by unfold one; split <;> rfl)
theorem look1 (F G : List Nat) (t : TypeId) (g gs : Nat) (r : R4) (n x : Nat) (s : MS) (w : World) (h : A1 F w g r n x) (hg : g ∈ F) (p : PAt t G w gs s) :
    Calls Try.prog 15 #[.pointer (some ⟨g, 0, none⟩), rdV gs] w fun e w' => e = .returned (.tuple #[]) ∧ A1 F w' g r (whyS r s) (x ||| whyS r s) ∧ Only g w w' := by
  refine (look_al F G t g gs [r] _ _ s w h hg p).mono ?_
  rintro _ w' ⟨rfl, h', o⟩
  have e : ∀ i, nowM [r] s i = one (whyS r s) i := fun i => by
    unfold nowM one
    by_cases h0 : i = 0
    · subst h0
      rfl
    · rw [if_neg (by simp; omega), if_neg h0]
  exact ⟨rfl, h'.alike (fun i _ => e i) (fun i _ => by
    rw [e i]
    unfold one
    split <;> rfl), o⟩
theorem rings1 (F : List Nat) (g : Nat) (r : R4) (n x : Nat) (w : World) (h : A1 F w g r n x) :
    Calls Try.prog 17 #[.pointer (some ⟨g, 0, none⟩), .int .i64 0] w fun e w' => e = .returned (.int .i64 (x : Nat)) ∧ w' = w := by
  have := rings_al F g [r] _ _ 0 w h
  rwa [if_pos (show isR [r] 0 from ⟨Int.le_refl _, by simp⟩)] at this
theorem now1 (F : List Nat) (g : Nat) (r : R4) (n x : Nat) (w : World) (h : A1 F w g r n x) :
    Calls Try.prog 19 #[.pointer (some ⟨g, 0, none⟩), .int .i64 0] w fun e w' => e = .returned (.int .i64 (n : Nat)) ∧ w' = w := by
  have := now_al F g [r] _ _ 0 w h
  rwa [if_pos (show isR [r] 0 from ⟨Int.le_refl _, by simp⟩)] at this
theorem ack1 (F : List Nat) (g : Nat) (r : R4) (n x : Nat) (w : World) (h : A1 F w g r n x) (hg : g ∈ F) :
    Calls Try.prog 18 #[.pointer (some ⟨g, 0, none⟩), .int .i64 0] w fun e w' => e = .returned (.int .i64 (if andn x n = 0 then 4 else 0)) ∧ A1 F w' g r n (if andn x n = 0 then x else n) ∧ Only g w w' := by
  refine (ack_al F g [r] _ _ 0 w h hg).mono ?_
  rintro _ w' ⟨rfl, h', o⟩
  have h0 : isR [r] 0 := ⟨Int.le_refl _, by simp⟩
  refine ⟨?_, h'.alike (fun _ _ => rfl) (fun i _ => ?_), o⟩
  · unfold ackM
    rw [if_pos h0]
    rfl
  · unfold ackR
    rw [if_pos h0]
    show (if andn x n = 0 then one x else upd (one x) 0 n) i = one (if andn x n = 0 then x else n) i
    by_cases h1 : andn x n = 0
    · rw [if_pos h1, if_pos h1]
    · rw [if_neg h1, if_neg h1]
      simp only [upd, one]
      split <;> rfl
theorem ack_out (F : List Nat) (g : Nat) (r : R4) (n x : Nat) (w : World) (h : A1 F w g r n x) (hg : g ∈ F) :
    Calls Try.prog 18 #[.pointer (some ⟨g, 0, none⟩), .int .i64 1] w fun e w' => e = .returned (.int .i64 1) ∧ A1 F w' g r n x ∧ Only g w w' := by
  refine (ack_al F g [r] _ _ 1 w h hg).mono ?_
  rintro _ w' ⟨rfl, h', o⟩
  have h0 : ¬ isR [r] 1 := fun h => by have := h.2; simp at this
  refine ⟨?_, h'.alike (fun _ _ => rfl) (fun i _ => ?_), o⟩
  · unfold ackM
    rw [if_neg h0]
  · unfold ackR
    rw [if_neg h0]
set_option maxRecDepth 100000 in
set_option maxHeartbeats 2000000 in
/-- The law's own known. -/
theorem known_al (w : World) :
    Calls Try.prog 13 #[] w fun e w' => e = .returned (.bool true) ∧ Below w.heap.size w w' := by
  have H1 := fun W k hk => Lib.hid (new1 ⟨0, 9, 20, 0⟩ (by decide) W 23 k hk)
  have H2 := fun W k hk => Lib.hid (new0 ⟨8, 0, 0, 0⟩ (by decide) W 23 k hk)
  have H3 := fun W k hk => Lib.hid (why_al ⟨0, 9, 20, 0⟩ (.slice (some ⟨k, 0, none⟩) 1 1) [5] 0 true (W.heap.size + 1) (W.alloc (.cells #[.int .u8 5] 5)) (sees_lit W _ _ [5] rfl _ (Nat.lt_succ_self _) (by unfold maxLen; simp) k 1 1 hk rfl rfl) (byt1 (by omega)))
  have hB := (Blk.new w w.heap.size rfl #[.int .i64 0, .int .i64 9, .int .i64 20, .int .i64 0] 23)
  have b := (Below.refl w.heap.size w).alloc (Nat.le_refl _) (.cells #[.int .i64 0, .int .i64 9, .int .i64 20, .int .i64 0] 23)
  go_enter Try.func13, Try.ntmps13
  go_wp2_with fail
  refine (H1 _ _ (by simp)).out.mono ?_
  rintro _ w1 ⟨g, rfl, -, -, b1⟩
  have hB := hB.below b1 (by simp)
  have b := b.trans (b1.mono (by simp))
  clear b1
  go_wp2_with fail
  refine (H2 _ _ (by simp)).out.mono ?_
  rintro _ w2 ⟨rfl, b2⟩
  have hB := hB.below b2 hB.lt
  have b := b.trans (b2.mono b.size)
  have c0 := hB.cell 0 (x := .int .i64 0) rfl
  have c1 := hB.cell 1 (x := .int .i64 9) rfl
  have c2 := hB.cell 2 (x := .int .i64 20) rfl
  have c3 := hB.cell 3 (x := .int .i64 0) rfl
  clear b2
  go_wp2_with fail
  refine (H3 _ _ (by simp)).out.mono ?_
  rintro _ w3 ⟨rfl, b3⟩
  have b := (b.alloc b.size (.cells #[.int .u8 5] 5)).trans (b3.mono (by have := b.size; simp; omega))
  have e : whyM ⟨0, 9, 20, 0⟩ [5] 0 true = 1 := by decide
  rw [e]
  go_wp2
  go_ret
  exact ⟨rfl, b⟩
end Go.Proofs.Ytklphfpgphddpaa
