/- Texts RnP in one. For what each says in front of its theorems. -/
import Derived.Test.YtpdenmcacaajkaaGreatPB37
/-! ### RnP -/
namespace Go.Proofs.YtpdenmcacaajkaaGreat
open Go.RowKit
section
variable {b : Bool} {G G' : Nat → Prop} {w W W' : World} {g : Nat} {m : NM} {x : RX}
/-- Of G, but not made between two worlds. -/
def Gp (G : Nat → Prop) (w W : World) (k : Nat) : Prop := G k ∧ ¬ (w.heap.size ≤ k ∧ k < W.heap.size)
theorem seesT_lt {v : Value} {l : List Tb.D} (h : SeesT W W.heap.size v l) (h0 : l ≠ []) {k : Nat} (e : v.ownBlock = some k) : k < W.heap.size := by
  by_cases hk : k < W.heap.size
  · exact hk
  · exact absurd e (seesT_new h (by omega) h0)
theorem seesR_lt {v : Value} {l : List R4} (h : SeesRs W W.heap.size v l) (h0 : l ≠ []) {k : Nat} (e : v.ownBlock = some k) : k < W.heap.size := by
  by_cases hk : k < W.heap.size
  · exact hk
  · exact absurd e (seesR_new h (by omega) h0)
theorem seesL_lt {v : Value} {l : List Int} (h : SeesL W W.heap.size v l) (h0 : l ≠ []) {k : Nat} (e : v.ownBlock = some k) : k < W.heap.size := by
  by_cases hk : k < W.heap.size
  · exact hk
  · exact absurd e (seesL_new h (by omega) h0)
theorem DatG.past {P : List Nat} {v : Value} {l : List Int} (h : DatG G P w v l) (V : World) : DatG (Gp G w V) P w v l :=
  ⟨h.1, fun h0 k e => ⟨h.2 h0 k e, fun q => by have := seesL_lt h.1.1 h0 e; omega⟩⟩
theorem RA.past0 (h : RA b G w g m x) (V : World) : RA b (Gp G w V) w g m x := by
  obtain ⟨Vn, L, D, R, hB, hA, hV⟩ := h.ex
  obtain ⟨⟨sv, hS, hd⟩, hk⟩ := h.so
  exact ⟨⟨Vn, L, D, R, hB, hA, ⟨hV.t, hV.tf, fun h0 k e => ⟨hV.tn h0 k e, fun q => by have := seesT_lt hV.t h0 e; omega⟩, hV.l, hV.lf, fun h0 k e => ⟨hV.ln h0 k e, fun q => by have := hV.ll k e; omega⟩, hV.ll, hV.d.past V, hV.r, hV.rf, fun h0 k e => ⟨hV.rn h0 k e, fun q => by have := seesR_lt hV.r h0 e; omega⟩⟩⟩, h.ty, ⟨⟨sv, hS, fun i hi => (hd i hi).past V⟩, hk⟩, h.nb, h.rb, h.nd, fun k hk => ⟨h.gs k hk, fun q => by have := h.lts k hk; omega⟩, h.al2, h.cko, h.n16⟩
theorem RA.past (h : RA b G w g m x) (bw : Below w.heap.size w W) : RA b (Gp G w W) W g m x := (h.past0 W).below bw
theorem Gp.gn (h : GN G w) (k : w.heap.size ≤ W.heap.size) : GN (Gp G w W) W := fun i hi => ⟨h i (Nat.le_trans k hi), fun q => by omega⟩
theorem KG.mono (h : KG G W W') (hg : ∀ k, G k → G' k) : KG G' W W' := ⟨h.os, h.tape, h.output, h.size, fun k hk hn => h.block k hk fun hg' => hn (hg k hg')⟩
theorem KG.up (h : KG (Gp G w W) W W') : KG G W W' := h.mono fun _ h => h.1
theorem RS.up (h : RS b (Gp G w W) W' g m) : RS b G W' g m := by
  obtain ⟨x, h⟩ := h
  exact ⟨x, h.mono fun _ h => h.1⟩
/-- What was made between is as it was. -/
theorem KG.kept (h : KG (Gp G w W) W W') {k : Nat} (h1 : w.heap.size ≤ k) (h2 : k < W.heap.size) : W'.heap[k]? = W.heap[k]? := h.block k h2 fun q => q.2 ⟨h1, h2⟩
theorem KG.blk {k : Nat} {cs : Array Value} {t : TypeId} (h : KG (Gp G w W) W W') (h1 : w.heap.size ≤ k) (hB : Blk W k cs t) : Blk W' k cs t := (h.kept h1 hB.lt).trans hB
theorem KG.seesL {v : Value} {l : List Int} (h : KG (Gp G w W) W W') (hs : SeesL W W.heap.size v l) (h1 : ∀ k, l ≠ [] → v.ownBlock = some k → w.heap.size ≤ k) : SeesL W' W'.heap.size v l := ⟨by
  obtain ⟨A, c, rfl, v1, v2, v3, v4⟩ := hs.at_
  refine ⟨A, c, rfl, v1, v2, fun h0 => ?_, v4⟩
  obtain ⟨bl, off, rfl, hb, hc⟩ := v3 h0
  refine ⟨bl, off, rfl, Nat.lt_of_lt_of_le hb h.size, fun j hj => ?_⟩
  rw [← hc j hj]
  simp only [World.cell?, h.kept (h1 bl (List.length_pos_iff.1 h0) rfl) hb]⟩
end
end Go.Proofs.YtpdenmcacaajkaaGreat
