/- What a law's walk is told of a frame and of a state that came in by value. -/
import Derived.Test.YthigojakapgllaaFrD
import Derived.ProofKit
import Derived.OpenShut
import Derived.Lib.SmallJoins
namespace Go.Proofs.Ythigojakapgllaa
open Go.ChangeShapes Go.WideShapes Go.ChangeAt Go.RowKit Go.Joins Go.Deep
open Fr (St F)

/-- Bounds of an int. -/
def i64f (x : Int) : Prop := -9223372036854775808 ≤ x ∧ x ≤ 9223372036854775807
structure InState (s : St) : Prop where
  hr : i64f s.r
  hs : i64f s.s
  hm : i64f s.m
structure InFrame (w : World) (f : F) (v : Value) : Prop where
  sees : SeesL w w.heap.size v f.d
  bytes : bytesL f.d
  hk : i64f f.k
  hst : InState f.st
  reach : f.d.length ≤ 140737488351232

section
variable {H : Type} {enc : TypeId × Value → H} {P : Program} {w : World} {base : Nat} {spare : Nat → Bool} {held : Bool}
theorem int_cell {t : TypeId} {n : Nat} {v : Value} {y : DataW H × List MemPlace} (hi : P.underlying t = some (.int .i64)) (h : DataW.trod enc P w base spare held n t [v] = some y) : ∃ z, v = .int .i64 z ∧ i64f z := by
  obtain ⟨z, hz, hy, hw⟩ := DataW.trod_int hi h
  exact ⟨z, by simpa using hz, bounds_i64 hw⟩
theorem array5 {α : Type} {cs : Array α} (h : cs.size = 5) : ∃ c0 c1 c2 c3 c4, cs = #[c0, c1, c2, c3, c4] := by
  obtain ⟨l⟩ := cs
  match l, h with
  | [c0, c1, c2, c3, c4], _ => exact ⟨c0, c1, c2, c3, c4, rfl⟩
theorem state_cells {t ti : TypeId} {f0 f1 f2 : Field} {n : Nat} {c0 c1 c2 : Value} {y : DataW H × List MemPlace} (hs : P.underlying t = some (.struct #[f0, f1, f2])) (t0 : f0.type = ti ∧ f0.offset = 0) (t1 : f1.type = ti ∧ f1.offset = 1) (t2 : f2.type = ti ∧ f2.offset = 2) (hi : P.underlying ti = some (.int .i64)) (hc : P.cellsOf ti = 1)
    (h : DataW.trod enc P w base spare held n t [c0, c1, c2] = some y) : ∃ s : St, c0 = .int .i64 s.r ∧ c1 = .int .i64 s.s ∧ c2 = .int .i64 s.m ∧ InState s := by
  obtain ⟨y0, y1, y2, m, _, _, h0, h1, h2⟩ := trod_struct3 hs h
  rw [t0.1, t0.2, hc] at h0
  rw [t1.1, t1.2, hc] at h1
  rw [t2.1, t2.2, hc] at h2
  obtain ⟨a, rfl, ha⟩ := int_cell hi h0
  obtain ⟨b, rfl, hb⟩ := int_cell hi h1
  obtain ⟨c, rfl, hc⟩ := int_cell hi h2
  exact ⟨⟨a, b, c⟩, rfl, rfl, rfl, ha, hb, hc⟩
theorem sees_state {r : Reach} {b0 : Nat} {t ti : TypeId} {f0 f1 f2 : Field} {v : Value} {d : DataW H} {ps : List MemPlace} (hs : P.underlying t = some (.struct #[f0, f1, f2])) (hC : P.cellsOf t = 3) (t0 : f0.type = ti ∧ f0.offset = 0) (t1 : f1.type = ti ∧ f1.offset = 1) (t2 : f2.type = ti ∧ f2.offset = 2) (hi : P.underlying ti = some (.int .i64)) (hc : P.cellsOf ti = 1)
    (hv : Value.okWide P w r b0 t v) (h : DataW.Trod enc P w base spare held t v d ps) : ∃ s : St, v = stV s ∧ InState s := by
  obtain ⟨cs, rfl, hsz⟩ := okWide_struct hs hv
  obtain ⟨c0, c1, c2, rfl⟩ := array3 (hsz.trans hC)
  obtain ⟨fuel, hf⟩ := h
  obtain ⟨s, rfl, rfl, rfl, hS⟩ := state_cells hs t0 t1 t2 hi hc hf
  exact ⟨s, rfl, hS⟩
theorem sees_frame {r : Reach} {b0 : Nat} {t ts ti tb te : TypeId} {g0 g1 g2 f0 f1 f2 : Field} {v : Value} {d : DataW H} {ps : List MemPlace} (hF : P.underlying t = some (.struct #[g0, g1, g2])) (hC : P.cellsOf t = 5) (u0 : g0.type = ti ∧ g0.offset = 0) (u1 : g1.type = ts ∧ g1.offset = 1) (u2 : g2.type = tb ∧ g2.offset = 4)
    (hS : P.underlying ts = some (.struct #[f0, f1, f2])) (hCs : P.cellsOf ts = 3) (t0 : f0.type = ti ∧ f0.offset = 0) (t1 : f1.type = ti ∧ f1.offset = 1) (t2 : f2.type = ti ∧ f2.offset = 2) (hi : P.underlying ti = some (.int .i64)) (hc : P.cellsOf ti = 1)
    (hb : P.underlying tb = some (.slice te)) (he : P.underlying te = some (.int .u8)) (hcb : P.cellsOf tb = 1) (hce : P.cellsOf te = 1) (hbe : P.bytesOf te = 1)
    (hv : Value.okWide P w r b0 t v) (hw : ∀ n ∈ d.weights P t, n ≤ reachBytes) (h : DataW.Trod enc P w base spare held t v d ps) : ∃ (f : F) (s : Value), v = frV f s ∧ InFrame w f s := by
  obtain ⟨cs, rfl, hsz⟩ := okWide_struct hF hv
  obtain ⟨c0, c1, c2, c3, c4, rfl⟩ := array5 (hsz.trans hC)
  obtain ⟨fuel, hf⟩ := h
  obtain ⟨y0, y1, y2, n, hx, _, h0, h1, h2⟩ := trod_struct3 hF hf
  rw [u0.1, u0.2, hc] at h0
  rw [u1.1, u1.2, hCs] at h1
  rw [u2.1, u2.2, hcb] at h2
  obtain ⟨k, rfl, hk⟩ := int_cell hi h0
  obtain ⟨st, rfl, rfl, rfl, hst⟩ := state_cells hS t0 t1 t2 hi hc h1
  have h2' : DataW.trod enc P w base spare held n tb [c4] = some y2 := h2
  have hd : d = .agg [y0.1, y1.1, y2.1] := (Prod.mk.inj hx).1
  have hw2 : ∀ m ∈ y2.1.weights P tb, m ≤ reachBytes := fun m hm => hw m (by
    rw [hd]
    simp only [DataW.weights, hF, List.map_cons, List.map_nil, DataW.weightsEach, u2.1]
    simp [hm])
  have hform : ∃ A l c, c4 = .slice A l c := by
    rcases open_ints hb he hce h2' with ⟨hcs, _⟩ | ⟨x, l, cp, zs, hcs, _⟩
    · exact ⟨_, _, _, by simpa using hcs⟩
    · exact ⟨_, _, _, by simpa using hcs⟩
  obtain ⟨A, l, c, rfl⟩ := hform
  obtain ⟨z, hz⟩ := sees_bytesn (d := y2.1) (ps := y2.2) hb he hce ⟨n, h2'⟩ hbe (fun es rest hes => hw2 _ (by rw [hes]; simp [DataW.weights, hb]))
  obtain ⟨hl1, hl2⟩ := hz.list
  exact ⟨⟨k, st, lst z l⟩, .slice A l c, rfl, hl1, hl2, hk, hst, by rw [lst_length]; exact hz.reach⟩
end
end Go.Proofs.Ythigojakapgllaa
