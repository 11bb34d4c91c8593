/- The contract of matronref3.sealed; what is written of a frame. -/
import Derived.Test.YthigojakapgllaaFrA
import Derived.Deep.RegionHeld3
import Derived.Deep.RegionLaw
import Derived.RegionTactic
namespace Go.Proofs.Ythigojakapgllaa
open Go.RowKit
open Fr (St F)

theorem owns_empty (w : World) (e : TypeId) (he : e = 5) (B g : Nat) (hB : B ≤ w.heap.size) (hg : g = w.heap.size) : OwnsL (w.alloc (.cells #[] e)) B (.slice (some ⟨g, 0, none⟩) 0 0) [] := by
  subst he hg
  exact World.ownsRow_made w #[] 0 hB (by unfold maxLen; omega) rfl

theorem sealed_ref (v : Value) (l : List Int) (n : Nat) (w : World) (hv : SeesL w w.heap.size v l) (hl : bytesL l) (hlen : l.length ≤ 100000) (hn : n < 32768) :
    Calls Try.prog 24 #[v, .int .i64 n] w fun e w' => ∃ v', e = .returned v' ∧ OwnsL w' w.heap.size v' (l ++ Fr.two (Fr.sumL n l)) ∧ Below w.heap.size w w' := by
  have hS := Fr.sumL_lt hn l
  obtain ⟨A, c, hvA, h1, h2, h3, h4⟩ := hv.at_
  have hsum := refSum_any A l.length c w.heap.size (fun k => l.getD k 0) n w h3 (fun k _ => hl.getD k) (by unfold maxLen; omega)
  rw [Fr.sum_all, Cr.sd_of hn] at hsum
  have hsum := Lib.hid hsum
  have hv := Lib.hid hv
  generalize hSS : Fr.sumL n l = S at *
  have q1 : S ≤ 32767 := by omega
  clear h4 h3 hSS hS hl
  subst hvA
  go_enter Try.func24, Try.ntmps24
  go_wp2_with fail
  refine hsum.out.mono ?_
  rintro e w1 ⟨rfl, rfl⟩
  clear hsum
  go_wp2_with (at_builtin; refine wpList_appendL _ rfl (.tmp 9) (.tmp 10) 32 rfl w.heap.size infoU8 Try.underlying32 _ [] w (owns_empty w _ rfl _ _ (Nat.le_refl _) rfl) ((Below.refl _ _).alloc (Nat.le_refl _) _) rfl _ _ l rfl (hv.out.below ((Below.refl _ _).alloc (Nat.le_refl _) _)) (by simp) (by simp only [List.length_nil]; omega) ?_)
  intro v' w1 ho hb
  go_wp2_with (at_builtin; go_loud (refine wpList_appendL _ rfl (.tmp 11) (.tmp 17) 32 rfl w.heap.size infoU8 Try.underlying32 v' l w (ho.alloc _) (hb.alloc hb.size _) rfl _ _ (Fr.two S) rfl (sees_lit w1 _ _ _ (by simp [Fr.two]) _ (Nat.lt_succ_self _) (by simp [Fr.two, maxLen]) _ _ _ rfl rfl rfl) (by simp; have := hb.size; omega) (by simp [Fr.two]; omega) ?_))
  intro v2 w2 ho2 hb2
  go_wp2
  go_ret
  exact ⟨_, rfl, ho2, hb2⟩

/-- 'append' of a list, as one step of a region that draws its order. -/
theorem step_appendL {P : Program} (w : World) {ops : Array Oper} {o : Oper} {a : Act} {K : Act → World → Prop} {Q : Exit → Act → World → Prop} {E : Prop} (hgd : o.guard = none) (s x : Operand) (t : TypeId)
    (ho : o.op = .call { callee := .builtin .append, args := #[s, x], argTypes := #[t, t] })
    (B : Nat) (hinf : (P.info? 5).map (fun i => (i.zero, i.size, i.bytes)) = some (some (.int .u8 0), 1, 1)) (ht : P.underlying t = some (.slice 5))
    (v : Value) (l : List Int) (W : World) (hown : OwnsL w B v l) (hbel : Below B W w) (hs : a.eval s = v)
    (Bs : Nat) (u : Value) (m : List Int) (hx : a.eval x = u) (hsee : SeesL w Bs u m)
    (hB : B ≤ w.heap.size) (hroom : l.length + m.length ≤ 140737488355328)
    (h : ∀ v' w', OwnsL w' B v' (l ++ m) → Below B W w' → w.grownBy w' v.ownBlock → K (a.put o.dst v') w') : if Region.wanted o (yielded ops a.tmps) = true then Oper.wp P o a w K Q else E := by
  have hw : Region.wanted o (yielded ops a.tmps) = true := by simp [Region.wanted, hgd]
  rw [if_pos hw]
  obtain ⟨A, c, rfl, -, -, h3, h4⟩ := hsee.at_
  cases A with
  | none =>
    obtain ⟨hm, rfl⟩ := h4 rfl
    have hm' : m = [] := List.length_eq_zero_iff.1 hm
    subst hm'
    obtain ⟨i0, hi, hz0, hz1, hz2⟩ := info_parts hinf
    have hrun := run_append_owned_none (P := P) (w := w) B t o.type 5 i0 1 ht hi v l.length _ hown
    unfold Oper.wp
    simp only [List.length_nil] at hx
    simp [execOp, ho, resolve, invoke, builtin, hs, hx, hrun, Result.andThen]
    refine h v w ?_ hbel (World.grownBy.refl _ _)
    rw [List.append_nil]
    exact hown
  | some ad =>
    obtain ⟨i0, hi, hz0, hz1, hz2⟩ := info_parts hinf
    refine wp_append_own _ s x t ho B 5 i0 (.int .u8 0) 1 1 ht hi hz0 hz1 hz2 rfl (by omega) v l.length _ hs hown ad m.length c ((List.range m.length).map (bv m)) hx (by simp) ?_ ?_ (by unfold maxLen; omega) (by omega) hB ?_
    · intro j u hj
      rw [List.getElem?_map] at hj
      by_cases hjm : j < m.length
      · rw [List.getElem?_range hjm] at hj
        simp at hj
        subst hj
        obtain ⟨b, off, he, _, hc⟩ := h3 (by omega)
        simp only [Option.some.injEq] at he
        subst he
        have := hc j hjm
        by_cases h1 : j = 0
        · subst h1; simpa [Addr.add] using this
        · simpa [Addr.add, h1] using this
      · rw [List.getElem?_eq_none (by simpa using hjm)] at hj
        cases hj
    · intro u hu
      obtain ⟨k, hk, rfl⟩ := List.mem_map.1 hu
      rfl
    · intro v' w' h1 h2 h3
      refine h v' w' ?_ (hbel.grown h2 hB (fun g h => (World.ownsRow.lt hown g h).1)) h2
      unfold OwnsL Owns
      rw [List.length_append]
      have e : (List.range (l.length + m.length)).map (bv (l ++ m)) = (List.range l.length).map (bv l) ++ (List.range m.length).map (bv m) := by
        rw [← range_join]
        exact List.map_congr_left fun k _ => (bv_append l m k).symm
      rw [e]
      exact h1

/-- What is written of a frame, and the error. -/
def encR (f : F) : List Int := if f.is then f.bytes else []
def encE (f : F) : Int := if f.is then 0 else 1
def Enc (w : World) (f : F) (e : Ending) (w' : World) : Prop := ∃ v, e = .returned (.tuple #[v, .int .i64 (encE f)]) ∧ OwnsL w' w.heap.size v (encR f) ∧ Below w.heap.size w w'
end Go.Proofs.Ythigojakapgllaa
