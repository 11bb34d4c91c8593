/- 'copy' of a whole row onto one of the call's own. -/
import Derived.Test.YtbjojpcgigoenaaKit
import Derived.Laws.CopyOwn
namespace Go.Proofs.Ytbjojpcgigoenaa
open Go.RowKit

theorem map_at (n : Nat) (V : Nat → Value) (j : Nat) (v : Value) (h : ((List.range n).map V)[j]? = some v) : j < n ∧ v = V j := by
  rw [List.getElem?_map] at h
  by_cases hj : j < n
  · rw [List.getElem?_range hj] at h
    exact ⟨hj, by simpa using h.symm⟩
  · rw [List.getElem?_eq_none (by simpa using hj)] at h
    cases h

theorem wpList_copyAll {P : Program} (w : World) {ops : Array Oper} {rest : List Oper} {o : Oper} {a : Act} {Q : Exit → Act → World → Prop} (hgd : o.guard = none) (d s : Operand) (dT sT : TypeId)
    (ho : o.op = .call { callee := .builtin .copy, args := #[d, s], argTypes := #[dT, sT] }) (e : TypeId) (z : Value) (bytes : Nat) (ht : P.underlying dT = some (.slice e)) (hinf : (P.info? e).map (fun i => (i.zero, i.size, i.bytes)) = some (some z, 1, bytes))
    (B : Nat) (W : World) (hbel : Below B W w) (g n : Nat) (U : Nat → Value) (hown : Owns w B e (.slice (some ⟨g, 0, none⟩) n n) n U) (hd : a.eval d = .slice (some ⟨g, 0, none⟩) n n)
    (Bs : Nat) (A : Option Addr) (c : Nat) (V : Nat → Value) (hs : a.eval s = .slice A n c) (hsee : Sees w Bs A n V) (hV : ∀ k, k < n → (V k).oneCell' = true)
    (h : ∀ w', Owns w' B e (.slice (some ⟨g, 0, none⟩) n n) n V → Below B W w' → wpList P ops Q rest (a.put o.dst (goInt n)) w') : wpList P ops Q (o :: rest) a w := by
  obtain ⟨i0, hi, hz0, hz1, hz2⟩ := info_parts hinf
  have hBg := (World.ownsRow.lt hown g rfl).1
  obtain ⟨hl, hh⟩ := hown
  rcases hh with ⟨h', _⟩ | ⟨g', cap, cur, h', hb, hg, hn, hc, hsz, htk⟩
  · simp at h'
  simp only [Value.slice.injEq, Option.some.injEq, Addr.mk.injEq, and_true, true_and] at h'
  obtain ⟨rfl, rfl⟩ := h'
  have hcur : cur.toList = (List.range n).map U := by
    rw [← htk, List.take_of_length_le (by simp; omega)]
  refine wpList_copy_splice hgd d s dT sT ho e ht (by rw [hi]; simp [hz1]) (some ⟨g, 0, none⟩) A n n n c hd hs g 0 cur.toList e (by simpa using hg) ((List.range n).map V) (by simp) ?_ (by simp; omega) ?_ B W hbel hBg ?_
  · intro h0
    obtain ⟨b, off, rfl, _, hcell⟩ := hsee (by simpa using h0)
    refine ⟨rfl, _, rfl, fun j v hj => ?_⟩
    obtain ⟨hjn, rfl⟩ := map_at n V j v hj
    have := hcell j hjn
    by_cases h1 : j = 0
    · subst h1; simpa [Addr.add] using this
    · simpa [Addr.add, h1] using this
  · intro v hv
    obtain ⟨k, hk, rfl⟩ := List.mem_map.1 hv
    exact hV k (List.mem_range.1 hk)
  · intro w' hg' hb'
    have hl' : ((List.range n).map V).length = n := by simp
    rw [hl']
    refine h w' ⟨by simp, .inr ⟨g, n, _, rfl, hBg, hg'.out, Nat.le_refl _, hc, ?_, ?_⟩⟩ hb'
    · simp [splice, hcur]
    · simp [splice, hcur]
end Go.Proofs.Ytbjojpcgigoenaa
