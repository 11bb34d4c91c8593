/- Texts AuL, AuG in one. For what each says in front of its theorems. -/
import Derived.Test.YtkaeikjfegjpjaaAB7
import Derived.Test.YtkaeikjfegjpjaaAB8
/-! ### AuL -/
namespace Go.Proofs.Ytkaeikjfegjpjaa
open Go.RowKit
open Tb (D T)

set_option maxRecDepth 100000 in
set_option maxHeartbeats 4000000 in
theorem some_au (n : Nat) (dr : Int) (hn : n ≤ 8) (hd : 0 ≤ dr ∧ dr ≤ 1000) (w : World) :
    Calls Try.prog 16 #[.int .i64 (n : Nat), .int .i64 dr] w fun e w' => ∃ v, e = .returned (tabV (gsmT n dr) v) ∧ OwnsD w' w.heap.size v (gsmL n) ∧ Below w.heap.size w w' := by
  have hsu := Lib.hid gsmL_succ
  have hsl := Lib.hid gsmL_length
  have z1 : IntKind.i64.wrap (4 * dr) = 4 * dr := IntWalk.i64_in _ (by omega)
  have z2 : IntKind.i64.wrap (4 * dr + 6) = 4 * dr + 6 := IntWalk.i64_in _ (by omega)
  have z3 : IntKind.i64.wrap (4 * dr + 9) = 4 * dr + 9 := IntWalk.i64_in _ (by omega)
  unfold gsmT tabV
  simp only
  go_enter Try.func16, Try.ntmps16
  have hb0 := ((Below.refl w.heap.size w).alloc (Nat.le_refl _) (.cells #[.slice none 0 0, .int .i64 0, .int .i64 0, .int .i64 0] 24)).alloc (by simp) (.cells #[.slice none 0 0, .int .i64 dr, .int .i64 (4 * dr + 6), .int .i64 (4 * dr + 9)] 24)
  have hR := (Blk.new w _ rfl #[.slice none 0 0, .int .i64 0, .int .i64 0, .int .i64 0] 24).alloc (.cells #[.slice none 0 0, .int .i64 dr, .int .i64 (4 * dr + 6), .int .i64 (4 * dr + 9)] 24)
  have hT := Blk.new (w.alloc (.cells #[.slice none 0 0, .int .i64 0, .int .i64 0, .int .i64 0] 24)) (w.heap.size + 1) (by simp) #[.slice none 0 0, .int .i64 dr, .int .i64 (4 * dr + 6), .int .i64 (4 * dr + 9)] 24
  go_wp2
  generalize (w.alloc (.cells #[.slice none 0 0, .int .i64 0, .int .i64 0, .int .i64 0] 24)).alloc (.cells #[.slice none 0 0, .int .i64 dr, .int .i64 (4 * dr + 6), .int .i64 (4 * dr + 9)] 24) = w0 at *
  have hz0 : w.heap.size + 1 < w0.heap.size := hT.lt
  go_loopw [6] (fun i wr => ∃ k : Nat, ∃ v : Value, k ≤ n ∧ i = .int .i64 k ∧ OwnsD wr w0.heap.size v (gsmL k) ∧ Blk wr (w.heap.size + 1) #[v, .int .i64 dr, .int .i64 (4 * dr + 6), .int .i64 (4 * dr + 9)] 24 ∧ w0.heap.size ≤ wr.heap.size ∧ Below (w.heap.size + 1) w0 wr) (fun i _ => n - (intOf i).toNat)
  case atStart => exact ⟨0, _, by omega, rfl, OwnsD.nil, hT, Nat.le_refl _, Below.refl _ _⟩
  case round =>
    obtain ⟨k, v, hk, rfl, hown, hblk, hz, hb⟩ := hrel
    by_cases hlt : k < n
    · have q1 : decide ((k : Int) < (n : Nat)) = true := by simp; omega
      have q2 : decide ((k : Int) < 8) = true := by simp; omega
      have t0 := hblk.cell 0 rfl
      have tf := hblk.frozen 0
      have hlk : (gsmL k).length ≤ 100000 := by rw [gsmL_length]; omega
      have hgv : v.ownBlock ≠ some (w.heap.size + 1) := fun e => by have := (hown.lt _ e).1; omega
      have key : ∀ b : Bool, gsmD k = ⟨b, ((k : Int) % 3 == 0), 20 + 3 * ((k : Int) * 5 % 8), 4⟩ → ∀ (v2 : Value) (w2 : World), w2.ownsRow w0.heap.size 41 4 v2 ((gsmL k).length + 1) ((gsmL k).flatMap dc ++ dc ⟨b, ((k : Int) % 3 == 0), 20 + 3 * ((k : Int) * 5 % 8), 4⟩) →
          Ext (wr.alloc (.cells #[.bool b, .bool ((k : Int) % 3 == 0), .int .i64 (20 + 3 * ((k : Int) * 5 % 8)), .int .i64 4] 41)) w2 v v2 → ∃ g2 c2, v2 = .slice (some ⟨g2, 0, none⟩) (k + 1) c2 ∧ Blk w2 (w.heap.size + 1) #[v, .int .i64 dr, .int .i64 (4 * dr + 6), .int .i64 (4 * dr + 9)] 24 ∧
          OwnsD (w2.setCell ⟨w.heap.size + 1, 0, none⟩ (.slice (some ⟨g2, 0, none⟩) (k + 1) c2)) w0.heap.size v2 (gsmL (k + 1)) ∧ Blk (w2.setCell ⟨w.heap.size + 1, 0, none⟩ (.slice (some ⟨g2, 0, none⟩) (k + 1) c2)) (w.heap.size + 1) #[.slice (some ⟨g2, 0, none⟩) (k + 1) c2, .int .i64 dr, .int .i64 (4 * dr + 6), .int .i64 (4 * dr + 9)] 24 ∧
          w0.heap.size ≤ (w2.setCell ⟨w.heap.size + 1, 0, none⟩ (.slice (some ⟨g2, 0, none⟩) (k + 1) c2)).heap.size ∧ Below (w.heap.size + 1) w0 (w2.setCell ⟨w.heap.size + 1, 0, none⟩ (.slice (some ⟨g2, 0, none⟩) (k + 1) c2)) := fun b hsd v2 w2 ho2 hx2 => by
        rw [← hsd] at ho2
        have ho3 : OwnsD w2 w0.heap.size v2 (gsmL (k + 1)) := by
          rw [hsu.out]
          exact OwnsD.snoc ho2
        have hxx := ((Ext.refl wr v).alloc (.cells #[.bool b, .bool ((k : Int) % 3 == 0), .int .i64 (20 + 3 * ((k : Int) * 5 % 8)), .int .i64 4] 41)).trans hx2
        have hb2 := hb.trans (hxx.toBelow (B := w.heap.size + 1) (by omega) (fun j hj => by have := (hown.lt j hj).1; omega))
        have hblk5 := hblk.ext hxx hgv
        have hl1 := hsl.out (k + 1)
        obtain ⟨g2, c2, rfl, hg2⟩ : ∃ g2 c2, v2 = .slice (some ⟨g2, 0, none⟩) (k + 1) c2 ∧ w0.heap.size ≤ g2 := by
          rcases ho3.form with ⟨-, h0⟩ | ⟨g2, c2, h, h1, -⟩
          · omega
          · exact ⟨g2, c2, by rw [h, hl1], h1⟩
        refine ⟨g2, c2, rfl, hblk5, ho3.setOther ⟨w.heap.size + 1, 0, none⟩ _ (by simp [Value.ownBlock]; omega), by simpa using hblk5.set 0 (.slice (some ⟨g2, 0, none⟩) (k + 1) c2), by have := hxx.size; simp only [World.setCell, Array.size_modify]; omega, Below.setCell (p := ⟨w.heap.size + 1, 0, none⟩) hb2 (Nat.le_refl _) _⟩
      have key := fun b h => Lib.hid (key b h)
      have hSD : Hid (∀ b, ((b = true ∧ (k : Int) < 4) ∨ (b = ((k : Int) % 2 == 0) ∧ ¬ (k : Int) < 4)) → gsmD k = ⟨b, ((k : Int) % 3 == 0), 20 + 3 * ((k : Int) * 5 % 8), 4⟩) := Lib.hid fun b hb => by
        unfold gsmD
        rcases hb with ⟨rfl, h⟩ | ⟨rfl, h⟩ <;> simp [h]
      by_cases q4 : (k : Int) < 4
      · have K := key true (hSD.out true (.inl ⟨rfl, q4⟩))
        have hAt := atD_new wr ⟨true, ((k : Int) % 3 == 0), 20 + 3 * ((k : Int) * 5 % 8), 4⟩ 41 wr.heap.size rfl
        go_wp2_with (at_builtin; go_loud (refine wpList_pushC _ rfl (.tmp 25) (.tmp 42) 22 rfl w0.heap.size 41 _ 4 24 info_def rfl (by omega) Try.underlying22 v (gsmL k).length _ (hown.alloc _) rfl _ 1 _ rfl (src_def _ ⟨true, ((k : Int) % 3 == 0), 20 + 3 * ((k : Int) * 5 % 8), 4⟩ _ _ _ rfl hAt) (by simp; omega) (defs_room hlk).1 (defs_room hlk).2 ?_))
        intro v2 w2 ho2 hx2
        obtain ⟨g2, c2, rfl, B1, O1, B2, Z1, W1⟩ := K.out v2 w2 ho2 hx2
        have u0 := B1.cell 0 rfl
        have uf := B1.frozen 0
        clear t0 tf ho2 hx2 hAt B1 K key
        go_wp2
        go_roundw
        case rel => exact ⟨k + 1, _, by omega, by go_num, O1, B2, Z1, W1⟩
        case measure => simp [intOf]; omega
      · have K := key _ (hSD.out _ (.inr ⟨rfl, q4⟩))
        have hAt := atD_new wr ⟨((k : Int) % 2 == 0), ((k : Int) % 3 == 0), 20 + 3 * ((k : Int) * 5 % 8), 4⟩ 41 wr.heap.size rfl
        go_wp2_with (at_builtin; go_loud (refine wpList_pushC _ rfl (.tmp 25) (.tmp 42) 22 rfl w0.heap.size 41 _ 4 24 info_def rfl (by omega) Try.underlying22 v (gsmL k).length _ (hown.alloc _) rfl _ 1 _ rfl (src_def _ ⟨((k : Int) % 2 == 0), ((k : Int) % 3 == 0), 20 + 3 * ((k : Int) * 5 % 8), 4⟩ _ _ _ rfl hAt) (by simp; omega) (defs_room hlk).1 (defs_room hlk).2 ?_))
        intro v2 w2 ho2 hx2
        obtain ⟨g2, c2, rfl, B1, O1, B2, Z1, W1⟩ := K.out v2 w2 ho2 hx2
        have u0 := B1.cell 0 rfl
        have uf := B1.frozen 0
        clear t0 tf ho2 hx2 hAt B1 K key
        go_wp2
        go_roundw
        case rel => exact ⟨k + 1, _, by omega, by go_num, O1, B2, Z1, W1⟩
        case measure => simp [intOf]; omega
    · obtain rfl : k = n := by omega
      have q1 : decide ((k : Int) < (k : Nat)) = false := by simp
      obtain ⟨A', c2, rfl, -⟩ := hown.sees.at_
      have hR2 := hR.below hb (by omega)
      have t0 := hblk.cell 0 rfl
      have t1 := hblk.cell 1 rfl
      have t2 := hblk.cell 2 rfl
      have t3 := hblk.cell 3 rfl
      have r0 := hR2.cell 0 rfl
      have r1 := hR2.cell 1 rfl
      have r2 := hR2.cell 2 rfl
      have r3 := hR2.cell 3 rfl
      have f0 := hR2.frozen 0
      have f1 := hR2.frozen 1
      have f2 := hR2.frozen 2
      have f3 := hR2.frozen 3
      have hvR : (Value.slice A' (gsmL k).length c2).ownBlock ≠ some w.heap.size := fun e => by have := (hown.lt _ e).1; omega
      have hbr := hb0.trans (hb.mono (by omega))
      clear hR hT
      go_wp2_with fail
      refine bodyPost_ret (v := .agg #[.slice A' (gsmL k).length c2, .int .i64 dr, .int .i64 (4 * dr + 6), .int .i64 (4 * dr + 9)]) ?_ rfl ⟨_, rfl, ?_, ?_⟩
      · rw [results_cell rfl]
        go_simp
      · refine OwnsD.base (Bs := w0.heap.size) ?_ (by omega)
        (repeat' (first | exact hown | exact hvR | (with_reducible refine OwnsD.setOther ?_ _ _ ?_)))
      · (repeat' (first | exact hbr | (with_reducible refine Below.setCell ?_ ?_ _) | exact Nat.le_refl _))
end Go.Proofs.Ytkaeikjfegjpjaa

/-! ### AuG -/
namespace Go.Proofs.Ytkaeikjfegjpjaa
open Go.RowKit
open Tb (D T)

/-- Acts in a block from its beginning. -/
theorem SeesAc.of {W : World} (b m c : Nat) (l : List Ac) (hl : l.length = m) (hb : b < W.heap.size) (hc : m ≤ c ∧ c ≤ maxLen) (h : ∀ i, i < m → AcAt W W.heap.size b (i * 5) (l.getD i default)) (hby : ∀ x ∈ l, bytesL x.d) : SeesAc W W.heap.size (.slice (some ⟨b, 0, none⟩) m c) l := by
  subst hl
  exact ⟨⟨_, c, rfl, hc.1, hc.2, fun _ => ⟨b, 0, rfl, hb, fun i hi => by rw [Nat.zero_add]; exact h i hi⟩⟩, hby⟩
theorem Blk.ac {W : World} {b : Nat} {cs : Array Value} {t : TypeId} (h : Blk W b cs t) (off : Nat) (x : Ac) (vd vf : Value) (h0 : cs[off]? = some (.int .i64 x.k)) (h1 : cs[off + 1]? = some (.int .i64 x.i)) (h2 : cs[off + 2]? = some (.int .i64 x.n)) (h3 : cs[off + 3]? = some vd) (h4 : cs[off + 4]? = some vf) (hd : SeesL W W.heap.size vd x.d) (hf : SeesF W W.heap.size vf x.f) : AcAt W W.heap.size b off x :=
  ⟨h.cell _ h0, h.cell _ h1, h.cell _ h2, ⟨vd, h.cell _ h3, hd⟩, vf, h.cell _ h4, hf⟩
/-- An act in a block of its own. -/
theorem SeesAc.one (W : World) (b : Nat) (hb : b = W.heap.size) (t : TypeId) (x : Ac) (vd vf : Value) (hd : SeesL W W.heap.size vd x.d) (hf : SeesF W W.heap.size vf x.f) (hby : bytesL x.d) :
    SeesAc (W.alloc (.cells #[.int .i64 x.k, .int .i64 x.i, .int .i64 x.n, vd, vf] t)) (W.alloc (.cells #[.int .i64 x.k, .int .i64 x.i, .int .i64 x.n, vd, vf] t)).heap.size (.slice (some ⟨b, 0, none⟩) 1 1) [x] := by
  have hB := (Below.refl W.heap.size W).alloc (Nat.le_refl _) (.cells #[.int .i64 x.k, .int .i64 x.i, .int .i64 x.n, vd, vf] t)
  have hX := Blk.new W b hb #[.int .i64 x.k, .int .i64 x.i, .int .i64 x.n, vd, vf] t
  refine SeesAc.of b 1 1 [x] rfl hX.lt ⟨Nat.le_refl _, by unfold maxLen; omega⟩ (fun i hi => ?_) (fun y hy => by simp at hy; subst hy; exact hby)
  obtain rfl : i = 0 := by omega
  exact hX.ac 0 x vd vf rfl rfl rfl rfl rfl ((hd.below hB).more hB.size) ((hf.below hB).more hB.size)
theorem bytesL_nil : bytesL [] := fun x hx => by cases hx
/-- One act with faults, at the beginning. -/
theorem one_fair (n : Nat) (f : Ft) (h4 : 4 ≤ n) (h8 : n ≤ 8) : auFair (gsmT n 1) [⟨5, 0, 0, [], [f]⟩] = ftFair 10 f := by
  unfold auFair
  rw [some_is n 1 h4 h8 (by omega)]
  show (if (5 : Int) = 3 ∨ (5 : Int) = 4 then some (3 * (gsmT n 1).ns.length) else if (5 : Int) ≠ 5 then none else if 1 = 0 then some (3 * (gsmT n 1).ns.length + 1) else if 3 * (gsmT n 1).ns.length < 3 * (gsmT n 1).ns.length ∨ fsFair 10 [f] = false then none else some 0).isSome = _
  rw [if_neg (by omega), if_neg (by omega), if_neg (by omega)]
  have e : fsFair 10 [f] = ftFair 10 f := by simp [fsFair]
  rw [e]
  cases ftFair 10 f <;> simp
theorem two_fair (n : Nat) (f : Ft) (h4 : 4 ≤ n) (h8 : n ≤ 8) : auFair (gsmT n 1) [⟨5, 0, 0, [], [f, f]⟩] = false := by
  unfold auFair
  rw [some_is n 1 h4 h8 (by omega)]
  show (if (5 : Int) = 3 ∨ (5 : Int) = 4 then some (3 * (gsmT n 1).ns.length) else if (5 : Int) ≠ 5 then none else if 2 = 0 then some (3 * (gsmT n 1).ns.length + 1) else if 3 * (gsmT n 1).ns.length < 3 * (gsmT n 1).ns.length ∨ fsFair 10 [f, f] = false then none else some 0).isSome = _
  rw [if_neg (by omega), if_neg (by omega), if_neg (by omega)]
  have e : fsFair 10 [f, f] = false := by simp [fsFair]
  rw [e]
  simp
/-- Faults in a block of their own. -/
theorem SeesF.oneF (W : World) (b : Nat) (hb : b = W.heap.size) (t : TypeId) (f : Ft) (v : Value) (hs : SeesL W W.heap.size v f.d) (hby : bytesL f.d) :
    SeesF (W.alloc (.cells #[.int .i64 f.k, .int .i64 f.n, .int .i64 f.a, v] t)) (W.alloc (.cells #[.int .i64 f.k, .int .i64 f.n, .int .i64 f.a, v] t)).heap.size (.slice (some ⟨b, 0, none⟩) 1 1) [f] := by
  have hB := (Below.refl W.heap.size W).alloc (Nat.le_refl _) (.cells #[.int .i64 f.k, .int .i64 f.n, .int .i64 f.a, v] t)
  have hX := Blk.new W b hb #[.int .i64 f.k, .int .i64 f.n, .int .i64 f.a, v] t
  refine ⟨⟨_, 1, rfl, Nat.le_refl _, by unfold maxLen; omega, fun _ => ⟨b, 0, rfl, hX.lt, fun i hi => ?_⟩⟩, fun y hy => by simp at hy; subst hy; exact hby⟩
  obtain rfl : i = 0 := by simp at hi; omega
  exact ⟨hX.cell 0 rfl, hX.cell 1 rfl, hX.cell 2 rfl, v, hX.cell 3 rfl, (hs.below hB).more hB.size⟩
theorem SeesF.twoF (W : World) (b : Nat) (hb : b = W.heap.size) (t : TypeId) (f : Ft) (v : Value) (hs : SeesL W W.heap.size v f.d) (hby : bytesL f.d) :
    SeesF (W.alloc (.cells #[.int .i64 f.k, .int .i64 f.n, .int .i64 f.a, v, .int .i64 f.k, .int .i64 f.n, .int .i64 f.a, v] t)) (W.alloc (.cells #[.int .i64 f.k, .int .i64 f.n, .int .i64 f.a, v, .int .i64 f.k, .int .i64 f.n, .int .i64 f.a, v] t)).heap.size (.slice (some ⟨b, 0, none⟩) 2 2) [f, f] := by
  have hB := (Below.refl W.heap.size W).alloc (Nat.le_refl _) (.cells #[.int .i64 f.k, .int .i64 f.n, .int .i64 f.a, v, .int .i64 f.k, .int .i64 f.n, .int .i64 f.a, v] t)
  have hX := Blk.new W b hb #[.int .i64 f.k, .int .i64 f.n, .int .i64 f.a, v, .int .i64 f.k, .int .i64 f.n, .int .i64 f.a, v] t
  refine ⟨⟨_, 2, rfl, Nat.le_refl _, by unfold maxLen; omega, fun _ => ⟨b, 0, rfl, hX.lt, fun i hi => ?_⟩⟩, fun y hy => by simp at hy; subst hy; exact hby⟩
  rcases (by simp at hi; omega : i = 0 ∨ i = 1) with rfl | rfl
  · exact ⟨hX.cell 0 rfl, hX.cell 1 rfl, hX.cell 2 rfl, v, hX.cell 3 rfl, (hs.below hB).more hB.size⟩
  · exact ⟨hX.cell 4 rfl, hX.cell 5 rfl, hX.cell 6 rfl, v, hX.cell 7 rfl, (hs.below hB).more hB.size⟩
/-- A slot with one fault, in blocks of their own. -/
theorem SeesAc.slot1 (W : World) (b : Nat) (hb : b = W.heap.size + 1) (f : Ft) (v : Value) (hs : SeesL W W.heap.size v f.d) (hby : bytesL f.d) :
    SeesAc ((W.alloc (.cells #[.int .i64 f.k, .int .i64 f.n, .int .i64 f.a, v] 32)).alloc (.cells #[.int .i64 5, .int .i64 0, .int .i64 0, .slice none 0 0, .slice (some ⟨W.heap.size, 0, none⟩) 1 1] 35)) ((W.alloc (.cells #[.int .i64 f.k, .int .i64 f.n, .int .i64 f.a, v] 32)).alloc (.cells #[.int .i64 5, .int .i64 0, .int .i64 0, .slice none 0 0, .slice (some ⟨W.heap.size, 0, none⟩) 1 1] 35)).heap.size (.slice (some ⟨b, 0, none⟩) 1 1) [⟨5, 0, 0, [], [f]⟩] :=
  SeesAc.one (W.alloc (.cells #[.int .i64 f.k, .int .i64 f.n, .int .i64 f.a, v] 32)) b (by simp [hb]) 35 ⟨5, 0, 0, [], [f]⟩ (.slice none 0 0) (.slice (some ⟨W.heap.size, 0, none⟩) 1 1) SeesL.nil (SeesF.oneF W _ rfl 32 f v hs hby) bytesL_nil
theorem SeesAc.slot2 (W : World) (b : Nat) (hb : b = W.heap.size + 1) (f : Ft) (v : Value) (hs : SeesL W W.heap.size v f.d) (hby : bytesL f.d) :
    SeesAc ((W.alloc (.cells #[.int .i64 f.k, .int .i64 f.n, .int .i64 f.a, v, .int .i64 f.k, .int .i64 f.n, .int .i64 f.a, v] 32)).alloc (.cells #[.int .i64 5, .int .i64 0, .int .i64 0, .slice none 0 0, .slice (some ⟨W.heap.size, 0, none⟩) 2 2] 35)) ((W.alloc (.cells #[.int .i64 f.k, .int .i64 f.n, .int .i64 f.a, v, .int .i64 f.k, .int .i64 f.n, .int .i64 f.a, v] 32)).alloc (.cells #[.int .i64 5, .int .i64 0, .int .i64 0, .slice none 0 0, .slice (some ⟨W.heap.size, 0, none⟩) 2 2] 35)).heap.size (.slice (some ⟨b, 0, none⟩) 1 1) [⟨5, 0, 0, [], [f, f]⟩] :=
  SeesAc.one (W.alloc (.cells #[.int .i64 f.k, .int .i64 f.n, .int .i64 f.a, v, .int .i64 f.k, .int .i64 f.n, .int .i64 f.a, v] 32)) b (by simp [hb]) 35 ⟨5, 0, 0, [], [f, f]⟩ (.slice none 0 0) (.slice (some ⟨W.heap.size, 0, none⟩) 2 2) SeesL.nil (SeesF.twoF W _ rfl 32 f v hs hby) bytesL_nil
/-- Is a slot with one fault fair, by a table of some nodes? -/
theorem Fair_slot1 (N : Nat) (h4 : 4 ≤ N) (h8 : N ≤ 8) (f : Ft) (vd v : Value) (W : World) (h : SeesT W W.heap.size v (gsmL N)) (b : Nat) (hb : b = W.heap.size + 1) (hs : SeesL W W.heap.size vd f.d) (hby : bytesL f.d) :
    Calls Try.prog 11 #[.agg #[v, .int .i64 1, .int .i64 10, .int .i64 13], .slice (some ⟨b, 0, none⟩) 1 1] ((W.alloc (.cells #[.int .i64 f.k, .int .i64 f.n, .int .i64 f.a, vd] 32)).alloc (.cells #[.int .i64 5, .int .i64 0, .int .i64 0, .slice none 0 0, .slice (some ⟨W.heap.size, 0, none⟩) 1 1] 35)) fun e w' => e = .returned (.bool (ftFair 10 f)) ∧ Below W.heap.size W w' := by
  have hB := ((Below.refl W.heap.size W).alloc (Nat.le_refl _) (.cells #[.int .i64 f.k, .int .i64 f.n, .int .i64 f.a, vd] 32)).alloc (by simp) (.cells #[.int .i64 5, .int .i64 0, .int .i64 0, .slice none 0 0, .slice (some ⟨W.heap.size, 0, none⟩) 1 1] 35)
  have := Fair_au (gsmT N 1) v _ _ _ ((h.below hB).more hB.size) (SeesAc.slot1 W b hb f vd hs hby) (by simp)
  rw [one_fair N f h4 h8] at this
  exact this.mono fun e w' he => ⟨he.1, hB.trans (he.2.mono hB.size)⟩
set_option maxRecDepth 100000 in
set_option maxHeartbeats 4000000 in
theorem known_au (w : World) : Calls Try.prog 15 #[] w fun e w' => e = .returned (.bool true) ∧ Below w.heap.size w w' := by
  have hs := Lib.hid (show Calls Try.prog 16 #[.int .i64 4, .int .i64 1] w fun e w' => ∃ v, e = .returned (.agg #[v, .int .i64 1, .int .i64 10, .int .i64 13]) ∧ OwnsD w' w.heap.size v (gsmL 4) ∧ Below w.heap.size w w' from some_au 4 1 (by omega) (by omega) w)
  have e1 : auFair (gsmT 4 1) [] = true := by decide +kernel
  have e2 : auFair (gsmT 4 1) [⟨1, 0, 0, [], []⟩] = false := by decide +kernel
  have e3 : leadV (gsmT 4 1) = 24 := by decide +kernel
  have e4 : auHit [] = 0 := by decide +kernel
  have hF1 := fun W v (h : SeesT W W.heap.size v (gsmL 4)) => Lib.hid (show Calls Try.prog 11 #[.agg #[v, .int .i64 1, .int .i64 10, .int .i64 13], .slice none 0 0] W fun e w' => e = .returned (.bool true) ∧ Below W.heap.size W w' by
    have := Fair_au (gsmT 4 1) v _ [] W h SeesAc.nil (by simp)
    rw [e1] at this
    exact this)
  have hF2 := fun W v u (h : SeesT W W.heap.size v (gsmL 4)) (hu : SeesAc W W.heap.size u [⟨1, 0, 0, [], []⟩]) => Lib.hid (show Calls Try.prog 11 #[.agg #[v, .int .i64 1, .int .i64 10, .int .i64 13], u] W fun e w' => e = .returned (.bool false) ∧ Below W.heap.size W w' by
    have := Fair_au (gsmT 4 1) v u [⟨1, 0, 0, [], []⟩] W h hu (by simp)
    rw [e2] at this
    exact this)
  have hL := fun W v (h : SeesT W W.heap.size v (gsmL 4)) => Lib.hid (show Calls Try.prog 18 #[.agg #[v, .int .i64 1, .int .i64 10, .int .i64 13]] W fun e w' => e = .returned (.int .i64 24) ∧ Below W.heap.size W w' by
    have := Lead_au (gsmT 4 1) v W h
    rw [e3] at this
    exact this)
  have hH := fun W => Lib.hid (show Calls Try.prog 13 #[.slice none 0 0] W fun e w' => e = .returned (.int .i64 0) ∧ Below W.heap.size W w' by
    have := Hit_au _ [] W SeesAc.nil
    rw [e4] at this
    exact this)
  clear e1 e2 e3 e4
  go_enter Try.func15, Try.ntmps15
  go_wp2_with fail
  refine hs.out.mono ?_
  rintro e w1 ⟨v, rfl, ho, hb1⟩
  have hv1 := Lib.hid ho.sees
  obtain ⟨VA, vc, rfl, -⟩ := ho.sees.at_
  have hlen : (gsmL 4).length = 4 := rfl
  rw [hlen] at *
  clear ho hs
  have hT := Blk.new w1 w1.heap.size rfl #[.slice VA 4 vc, .int .i64 1, .int .i64 10, .int .i64 13] 24
  have hb2 := Lib.hid (hb1.alloc hb1.size (.cells #[.slice VA 4 vc, .int .i64 1, .int .i64 10, .int .i64 13] 24))
  have hv2 := Lib.hid ((hv1.out.below ((Below.refl _ w1).alloc (Nat.le_refl _) (.cells #[.slice VA 4 vc, .int .i64 1, .int .i64 10, .int .i64 13] 24))).more (by simp : _ ≤ (w1.alloc (.cells #[.slice VA 4 vc, .int .i64 1, .int .i64 10, .int .i64 13] 24)).heap.size))
  go_wp2_with fail
  refine (hH _).out.mono ?_
  generalize w1.alloc (.cells #[.slice VA 4 vc, .int .i64 1, .int .i64 10, .int .i64 13] 24) = w2 at *
  rintro e w3 ⟨rfl, b3⟩
  have hT3 := hT.below b3 hT.lt
  have hv3 := Lib.hid ((hv2.out.below b3).more b3.size)
  have hB3 := Lib.hid (hb2.out.trans (b3.mono hb2.out.size))
  have t0 := hT3.cell 0 rfl
  have t1 := hT3.cell 1 rfl
  have t2 := hT3.cell 2 rfl
  have t3 := hT3.cell 3 rfl
  clear hT b3 hv1 hv2 hb2 hb1 hH
  go_wp2_with fail
  refine (hF1 _ _ hv3.out).out.mono ?_
  rintro e w4 ⟨rfl, b4⟩
  have hT4 := hT3.below b4 hT3.lt
  have hv4 := Lib.hid ((hv3.out.below b4).more b4.size)
  have hB4 := Lib.hid (hB3.out.trans (b4.mono hB3.out.size))
  clear t0 t1 t2 t3 hT3 hv3 hB3 b4 hF1
  have t0 := hT4.cell 0 rfl
  have t1 := hT4.cell 1 rfl
  have t2 := hT4.cell 2 rfl
  have t3 := hT4.cell 3 rfl
  go_wp2_with fail
  refine (hL _ _ hv4.out).out.mono ?_
  rintro e w5 ⟨rfl, b5⟩
  have hT5 := hT4.below b5 hT4.lt
  have hv5 := Lib.hid ((hv4.out.below b5).more b5.size)
  have hB5 := Lib.hid (hB4.out.trans (b5.mono hB4.out.size))
  clear t0 t1 t2 t3 hT4 hv4 hB4 b5 hL
  have t0 := hT5.cell 0 rfl
  have t1 := hT5.cell 1 rfl
  have t2 := hT5.cell 2 rfl
  have t3 := hT5.cell 3 rfl
  have hA := Lib.hid (SeesAc.one w5 _ rfl 35 ⟨1, 0, 0, [], []⟩ (.slice none 0 0) (.slice none 0 0) SeesL.nil SeesF.nil bytesL_nil)
  have hv6 := Lib.hid ((hv5.out.below ((Below.refl _ w5).alloc (Nat.le_refl _) (.cells #[.int .i64 1, .int .i64 0, .int .i64 0, .slice none 0 0, .slice none 0 0] 35))).more (by simp : _ ≤ (w5.alloc (.cells #[.int .i64 1, .int .i64 0, .int .i64 0, .slice none 0 0, .slice none 0 0] 35)).heap.size))
  have hB6 := Lib.hid (hB5.out.alloc hB5.out.size (.cells #[.int .i64 1, .int .i64 0, .int .i64 0, .slice none 0 0, .slice none 0 0] 35))
  clear hT5 hv5 hB5
  go_wp2_with fail
  refine (hF2 _ _ _ hv6.out hA.out).out.mono ?_
  rintro e w7 ⟨rfl, b7⟩
  have hB7 := Lib.hid (hB6.out.trans (b7.mono hB6.out.size))
  clear hv6 hB6 b7 hF2 hA
  go_wp2_with fail
  go_ret
  exact ⟨rfl, hB7.out⟩
end Go.Proofs.Ytkaeikjfegjpjaa
