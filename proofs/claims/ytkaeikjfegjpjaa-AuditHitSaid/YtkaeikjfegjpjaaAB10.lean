/- Texts AuP, AuR, AuS, TbO, AuBase in one. For what each says in front of its theorems. -/
import Derived.ProofKit
import Derived.OpenShut
import Derived.Deep.Slices
import Derived.Lib.SmallJoins
import Derived.Test.YtkaeikjfegjpjaaAB1
import Derived.Test.YtkaeikjfegjpjaaAB3
import Derived.Test.YtkaeikjfegjpjaaAB4
import Derived.Test.YtkaeikjfegjpjaaAB9
/-! ### AuP -/
namespace Go.Proofs.Ytkaeikjfegjpjaa
open Go.RowKit
open Tb (D T)

/-- An act with its two slices. -/
structure AcV where
  x : Ac
  d : Value
  f : Value
instance : Inhabited AcV := ⟨⟨default, .slice none 0 0, .slice none 0 0⟩⟩
/-- An act without bytes, without faults. -/
def acZ (k : Int) : AcV := ⟨⟨k, 0, 0, [], []⟩, .slice none 0 0, .slice none 0 0⟩
def acc (y : AcV) : List Value := [.int .i64 y.x.k, .int .i64 y.x.i, .int .i64 y.x.n, y.d, y.f]
def OwnsAc (w : World) (base : Nat) (v : Value) (l : List AcV) : Prop := w.ownsRow base 35 5 v l.length (l.flatMap acc)
/-- What its slices tell. -/
def AcOk (w : World) (B : Nat) (y : AcV) : Prop := SeesL w B y.d y.x.d ∧ SeesF w B y.f y.x.f ∧ bytesL y.x.d
theorem acZ_ok (w : World) (B : Nat) (k : Int) : AcOk w B (acZ k) := ⟨SeesL.nil, SeesF.nil, bytesL_nil⟩
theorem AcOk.below {w w' : World} {B : Nat} {y : AcV} (h : AcOk w B y) (hb : Below B w w') : AcOk w' B y := ⟨h.1.below hb, h.2.1.below hb, h.2.2⟩
theorem AcOk.more {w : World} {B B' : Nat} {y : AcV} (h : AcOk w B y) (hb : B ≤ B') : AcOk w B' y := ⟨h.1.more hb, h.2.1.more hb, h.2.2⟩
theorem accs_getD (l : List AcV) (k : Nat) (hk : k < l.length) (j : Nat) (hj : j < 5) : (l.flatMap acc)[k * 5 + j]? = (acc (l.getD k default))[j]? := by
  induction l generalizing k with
  | nil => simp at hk
  | cons d l ih =>
    have h4 : (acc d).length = 5 := rfl
    rw [List.flatMap_cons]
    cases k with
    | zero => rw [List.getElem?_append_left (by omega)]; simp
    | succ k =>
      rw [List.getElem?_append_right (by omega), h4, show (k + 1) * 5 + j - 5 = k * 5 + j by omega, ih k (by simpa using hk)]
      simp
theorem accs_length (l : List AcV) : (l.flatMap acc).length = l.length * 5 := by
  induction l with
  | nil => rfl
  | cons d l ih => rw [List.flatMap_cons, List.length_append, ih]; simp [acc]; omega
theorem OwnsAc.form {w : World} {B : Nat} {v : Value} {l : List AcV} (h : OwnsAc w B v l) : (v = .slice none 0 0 ∧ l.length = 0) ∨ ∃ g c, v = .slice (some ⟨g, 0, none⟩) l.length c ∧ B ≤ g ∧ g < w.heap.size ∧ l.length ≤ c ∧ c ≤ maxLen := by
  rcases h.2 with h1 | ⟨g, cap, cur, h1, h2, h3, h4, h5, -⟩
  · exact .inl h1
  · exact .inr ⟨g, cap, h1, h2, (Array.getElem?_eq_some_iff.1 h3).1, h4, h5⟩
theorem OwnsAc.cell {w : World} {B g n c : Nat} {l : List AcV} (h : OwnsAc w B (.slice (some ⟨g, 0, none⟩) n c) l) (hn : n = l.length) (k : Nat) (hk : k < l.length) (j : Nat) (hj : j < 5) : w.cell? ⟨g, k * 5 + j, none⟩ = (acc (l.getD k default))[j]? := by
  subst hn
  exact (World.ownsRow.cellAt h (k * 5 + j) (by omega)).trans (accs_getD l k hk j hj)
theorem OwnsAc.sees {w : World} {B : Nat} {v : Value} {l : List AcV} (h : OwnsAc w B v l) (ho : ∀ k, k < l.length → AcOk w w.heap.size (l.getD k default)) : SeesAc w w.heap.size v (l.map AcV.x) := by
  have hg : ∀ k, (l.map AcV.x).getD k default = (l.getD k default).x := fun k => by
    by_cases hk : k < l.length
    · simp [List.getD_eq_getElem?_getD, hk]
    · simp [List.getD_eq_getElem?_getD, hk]; rfl
  refine ⟨?_, fun x hx => ?_⟩
  · rcases h.form with ⟨rfl, h0⟩ | ⟨g, c, rfl, h1, h2, h3, h4⟩
    · refine ⟨none, 0, by rw [List.length_map, h0], by rw [List.length_map, h0]; exact Nat.le_refl _, Nat.zero_le _, fun h => absurd h (by rw [List.length_map]; omega)⟩
    · refine ⟨_, c, by rw [List.length_map], by rw [List.length_map]; exact h3, h4, fun _ => ⟨g, 0, rfl, h2, fun i hi => ?_⟩⟩
      rw [List.length_map] at hi
      have e := fun j hj => h.cell rfl i hi j hj
      obtain ⟨a1, a2, -⟩ := ho i hi
      rw [hg i, Nat.zero_add]
      exact ⟨by have := e 0 (by omega); rw [Nat.add_zero] at this; exact this, e 1 (by omega), e 2 (by omega), ⟨_, e 3 (by omega), a1⟩, _, e 4 (by omega), a2⟩
  · obtain ⟨y, hy, rfl⟩ := List.mem_map.1 hx
    obtain ⟨k, hk, rfl⟩ := List.getElem_of_mem hy
    have := (ho k hk).2.2
    rwa [show l.getD k default = l[k] by simp [List.getD_eq_getElem?_getD, hk]] at this
theorem OwnsAc.lt {w : World} {B : Nat} {v : Value} {l : List AcV} (h : OwnsAc w B v l) : ∀ j, v.ownBlock = some j → B ≤ j ∧ j < w.heap.size := World.ownsRow.lt h
theorem OwnsAc.alloc {w : World} {B : Nat} {v : Value} {l : List AcV} (h : OwnsAc w B v l) (o : Obj) : OwnsAc (w.alloc o) B v l := World.ownsRow.alloc h o
theorem OwnsAc.drew {w : World} {B : Nat} {v : Value} {l : List AcV} (h : OwnsAc w B v l) : OwnsAc w.drew B v l := h
theorem OwnsAc.below {w w' : World} {B B' : Nat} {v : Value} {l : List AcV} (h : OwnsAc w B v l) (hb : Below B' w w') (hB : w.heap.size ≤ B') : OwnsAc w' B v l :=
  World.ownsRow.kept (row := none) h ⟨hb.os, hb.tape, hb.output, hb.size, fun k hk _ => hb.block k (by omega)⟩ (by
    rcases h.2 with ⟨rfl, _⟩ | ⟨g, cap, cur, rfl, _⟩
    · exact .inl rfl
    · exact .inr (by simp [Value.ownBlock]))
/-- A block that is known whole is a list of the call's own. -/
theorem OwnsAc.blk {w : World} {B g : Nat} {l : List AcV} (h : Blk w g (l.flatMap acc).toArray 35) (hB : B ≤ g) (hm : l.length ≤ maxLen) : OwnsAc w B (.slice (some ⟨g, 0, none⟩) l.length l.length) l :=
  ⟨accs_length l, .inr ⟨g, l.length, _, rfl, hB, h, Nat.le_refl _, hm, (by rw [List.size_toArray, accs_length]), (by show List.take _ (l.flatMap acc) = _; rw [← accs_length, List.take_length])⟩⟩
theorem OwnsAc.joined {w : World} {B : Nat} {v : Value} {l m : List AcV} (h : w.ownsRow B 35 5 v (l.length + m.length) (l.flatMap acc ++ m.flatMap acc)) : OwnsAc w B v (l ++ m) := by
  unfold OwnsAc
  rw [List.length_append, List.flatMap_append]
  exact h
theorem info_act : (Try.prog.info? 35).map (fun i => (i.zero, i.size, i.bytes)) = some (some (.agg #[.int .i64 0, .int .i64 0, .int .i64 0, .slice none 0 0, .slice none 0 0]), 5, 72) := by kernel_rfl
/-- A whole block's acts are to be appended. -/
theorem src_acs (w : World) (l : List AcV) (g n c : Nat) (hn : n = l.length) (h : Blk w g (l.flatMap acc).toArray 35) (h1 : ∀ y ∈ l, y.d.oneCell' = true ∧ y.f.oneCell' = true) : Src w (.slice (some ⟨g, 0, none⟩) n c) 5 l.length (l.flatMap acc) := by
  subst hn
  refine .inr ⟨_, c, rfl, accs_length l, fun j x hj => ?_, fun x hx => ?_⟩
  · have := h.cell j (x := x) (by simpa using hj)
    by_cases h0 : j = 0
    · subst h0; simpa [Addr.add] using this
    · simpa [Addr.add, h0] using this
  · obtain ⟨y, hy, hx⟩ := List.mem_flatMap.1 hx
    obtain ⟨e1, e2⟩ := h1 y hy
    simp only [acc, List.mem_cons, List.not_mem_nil, or_false] at hx
    rcases hx with rfl | rfl | rfl | rfl | rfl
    · rfl
    · rfl
    · rfl
    · exact e1
    · exact e2
/-- Faults are kept while a list grows. -/
theorem AcOk.ext {w w' : World} {v v' : Value} {B : Nat} {y : AcV} (h : AcOk w B y) (hx : Ext w w' v v') (hB : B ≤ w.heap.size) (hv : ∀ j, v.ownBlock = some j → B ≤ j) : AcOk w' B y := h.below (hx.toBelow hB hv)
theorem acs_ok {w : World} {B : Nat} {l : List AcV} (h : ∀ y ∈ l, AcOk w B y) (k : Nat) (hk : k < l.length) : AcOk w B (l.getD k default) := by
  rw [List.getD_eq_getElem?_getD, List.getElem?_eq_getElem hk]
  exact h _ (List.getElem_mem hk)
theorem SeesF.ofBlk {W : World} {b : Nat} {t : TypeId} {c0 c1 c2 v : Value} (h : Blk W b #[c0, c1, c2, v] t) (f : Ft) (h0 : c0 = .int .i64 f.k) (h1 : c1 = .int .i64 f.n) (h2 : c2 = .int .i64 f.a) (_h3 : v = v) (hs : SeesL W W.heap.size v f.d) (hby : bytesL f.d) : SeesF W W.heap.size (.slice (some ⟨b, 0, none⟩) 1 1) [f] := by
  subst h0 h1 h2
  refine ⟨⟨_, 1, rfl, Nat.le_refl _, by unfold maxLen; omega, fun _ => ⟨b, 0, rfl, h.lt, fun i hi => ?_⟩⟩, fun y hy => by simp at hy; subst hy; exact hby⟩
  obtain rfl : i = 0 := by simp at hi; omega
  exact ⟨h.cell 0 rfl, h.cell 1 rfl, h.cell 2 rfl, v, h.cell 3 rfl, hs⟩
end Go.Proofs.Ytkaeikjfegjpjaa

/-! ### AuR -/
namespace Go.Proofs.Ytkaeikjfegjpjaa
open Go.RowKit

section
variable {P : Program} (w : World) {ops : Array Oper} {o : Oper} {a : Act} {K : Act → World → Prop} {Q : Exit → Act → World → Prop}
theorem append_kept (base : Nat) (t ty e : TypeId) (i : TypeInfo) (z : Value) (ht : P.underlying t = some (.slice e)) (hi : P.info? e = some i) (hz : i.zero = some z)
    (g n cap : Nat) (xs : List Value) (hown : w.ownsRow base e i.size (.slice (some ⟨g, 0, none⟩) n cap) n xs)
    (ad : Addr) (m c : Nat) (news : List Value) (hl : news.length = m * i.size) (hnews : ∀ j u, news[j]? = some u → w.cell? (ad.add j) = some u) (h1 : ∀ u ∈ news, u.oneCell' = true)
    (h63 : n + m ≤ maxLen) (hbytes : (n + m) * i.bytes ≤ 140737488355328) (v' : Value) (w' : World) (hrun : (Builtin.append_ #[t, t] ty #[.slice (some ⟨g, 0, none⟩) n cap, .slice (some ad) m c]).run P w = .ok v' w') (hsz : 0 < i.size) (hzs : z.cells.size = i.size) (hb : base ≤ w.heap.size) :
    ∀ j u, xs[j]? = some u → w'.cell? ⟨g, j, none⟩ = some u := by
  have hlen := hown.1
  have hold : ∀ j u, xs[j]? = some u → w.cell? ⟨g, j, none⟩ = some u := fun j u hj => by
    have := hown.cells (g := g) rfl j u hj
    by_cases h0 : j = 0
    · subst h0; simpa [Addr.add] using this
    · simpa [Addr.add, h0] using this
  have hold0 : ∀ j u, xs[j]? = some u → w.cell? ((⟨g, 0, none⟩ : Addr).add j) = some u := hown.cells (g := g) rfl
  rcases hown.2 with ⟨h, -⟩ | ⟨g', cap', cur, hv, hbg, hg, hnc, hcm, hcs, htake⟩
  · cases h
  · obtain ⟨rfl, rfl⟩ : g = g' ∧ cap = cap' := by simp at hv; exact hv
    by_cases hroom : n + m ≤ cap
    · have hfit : n * i.size + news.length ≤ cur.size := by rw [hl, hcs, ← Nat.add_mul]; exact Nat.mul_le_mul_right _ hroom
      have hr := run_append_room (P := P) w t ty e i ht hi g n cap cur hg ad m c news hl hnews h1 hroom hfit
      rw [hrun] at hr
      obtain ⟨v2, w2, hr2, ho2, -, -, -⟩ := run_append_own_at (P := P) w base t ty e i z i.size i.bytes ht hi hz rfl rfl hzs hsz _ n xs hown ad m c news hl hnews h1 h63 hbytes hb
      rw [hrun] at hr2
      injection hr2 with e1 e2
      injection hr with e3 e4
      subst e1 e2
      rw [e3] at ho2
      intro j u hj
      have hj' : j < n * i.size := by rw [← hlen]; exact (List.getElem?_eq_some_iff.1 hj).1
      rw [World.ownsRow.cellAt ho2 j (by rw [Nat.add_mul]; omega), List.getElem?_append_left (by omega)]
      exact hj
    · have hr := run_append_grow (P := P) w t ty e i z ht hi hz ⟨g, 0, none⟩ n cap xs hlen hold0 ad m c news hl hnews (by omega) (by unfold maxLen at h63; omega) (growslice_fits (by omega) hbytes)
      rw [hrun] at hr
      injection hr with e3 e4
      subst e4
      intro j u hj
      have hh := hold j u hj
      have hlt : g < w.heap.size := (Array.getElem?_eq_some_iff.1 hg).1
      exact (World.cell?_alloc_lt _ _ _ (by exact hlt)).trans hh
/-- As one step of a region that draws its order; what was there stays. -/
theorem step_pushK {E : Prop} (hgd : o.guard = none) (s x : Operand) (t : TypeId) (ho : o.op = .call { callee := .builtin .append, args := #[s, x], argTypes := #[t, t] })
    (B : Nat) (e : TypeId) (z : Value) (size bytes : Nat) (hinf : (P.info? e).map (fun i => (i.zero, i.size, i.bytes)) = some (some z, size, bytes)) (hzs : z.cells.size = size) (hsz : 0 < size) (ht : P.underlying t = some (.slice e))
    (g n cap : Nat) (xs : List Value) (hown : w.ownsRow B e size (.slice (some ⟨g, 0, none⟩) n cap) n xs) (hs : a.eval s = .slice (some ⟨g, 0, none⟩) n cap)
    (ad : Addr) (m c : Nat) (news : List Value) (hx : a.eval x = .slice (some ad) m c) (hl : news.length = m * size) (hnews : ∀ j u, news[j]? = some u → w.cell? (ad.add j) = some u) (h1 : ∀ u ∈ news, u.oneCell' = true)
    (hB : B ≤ w.heap.size) (h63 : n + m ≤ maxLen) (hroom : (n + m) * bytes ≤ 140737488355328)
    (h : ∀ v' w', w'.ownsRow B e size v' (n + m) (xs ++ news) → Ext w w' (.slice (some ⟨g, 0, none⟩) n cap) v' → (∀ j u, xs[j]? = some u → w'.cell? ⟨g, j, none⟩ = some u) → K (a.put o.dst v') w') : if Region.wanted o (yielded ops a.tmps) = true then Oper.wp P o a w K Q else E := by
  have hw : Region.wanted o (yielded ops a.tmps) = true := by simp [Region.wanted, hgd]
  rw [if_pos hw]
  obtain ⟨i, hi, hz0, hz1, hz2⟩ := info_parts hinf
  obtain ⟨v', w', hr, h2, h3, -, h5⟩ := run_append_own_at (P := P) w B t o.type e i z size bytes ht hi hz0 hz1 hz2 hzs hsz _ n xs hown ad m c news hl hnews h1 h63 hroom hB
  have hk : ∀ j u, xs[j]? = some u → w'.cell? ⟨g, j, none⟩ = some u := by
    subst hz1 hz2
    exact append_kept w B t o.type e i z ht hi hz0 g n cap xs hown ad m c news hl hnews h1 h63 hroom v' w' hr hsz hzs hB
  unfold Oper.wp execOp
  simp only [ho, resolve, invoke, builtin, Sem.run_bind, Sem.run_pure, Result.andThen_ok, List.map_toArray, List.map_cons, List.map_nil, hs, hx, hr]
  exact h v' w' h2 ⟨h3, fun j hj => by
    rcases h5 with h5 | h5
    · exact .inr (h5 ▸ hj)
    · rw [h5] at hj
      cases hj
      exact .inl (Nat.le_refl _)⟩ hk
end
end Go.Proofs.Ytkaeikjfegjpjaa

/-! ### AuS -/
namespace Go.Proofs.Ytkaeikjfegjpjaa
open Go.RowKit

set_option maxRecDepth 100000 in
set_option maxHeartbeats 4000000 in
theorem short_au (v : Value) (l : List Ac) (w : World) (hs : SeesAc w w.heap.size v l) :
    Calls Try.prog 10 #[v] w fun e w' => ∃ q : Bool, e = .returned (.bool q) ∧ (q = true → l.length < 400) ∧ w' = w := by
  obtain ⟨A, c, rfl, hlen, hc, hcell⟩ := hs.at_
  unfold maxLen at hc
  clear hs
  go_enter Try.func10, Try.ntmps10
  go_wp2
  go_loopw [3] (fun i wr => ∃ k : Nat, k ≤ l.length ∧ i = .int .i64 k ∧ wr = w) (fun i _ => l.length - (intOf i).toNat)
  case atStart => exact ⟨0, by omega, rfl, rfl⟩
  case round =>
    obtain ⟨k, hk, rfl, rfl⟩ := hrel
    by_cases hlt : k < l.length
    · have q1 : decide ((k : Int) < (l.length : Nat)) = true := by simp; omega
      by_cases h400 : k < 400
      · have q2 : decide ((k : Int) < 400) = true := by simp; omega
        have q2n : decide (k < 400) = true := by simp; omega
        obtain ⟨b, off, rfl, hbb, hd⟩ := hcell (by omega)
        obtain ⟨c0, c1, c2, ⟨vd, c3, sd⟩, vf, c4, sf⟩ := hd k hlt
        generalize l.getD k default = x at *
        obtain ⟨Ad, cd, rfl, -, hcd, -⟩ := sd.at_
        obtain ⟨Af, cf, rfl, hl0, hcf, hff⟩ := sf.at_
        unfold maxLen at hcf hcd
        clear c0 c1 c2 sd sf hd hcell
        by_cases h100 : 100 < x.d.length
        · have q3 : decide ((100 : Int) < (x.d.length : Nat)) = true := decide_eq_true (by omega)
          go_wp2
          go_ret
          exact ⟨false, rfl, (fun h => (by cases h)), rfl⟩
        · have q3 : decide ((100 : Int) < (x.d.length : Nat)) = false := decide_eq_false (by omega)
          by_cases h20 : 20 < x.f.length
          · have q4 : decide ((20 : Int) < (x.f.length : Nat)) = true := decide_eq_true (by omega)
            go_wp2
            go_ret
            exact ⟨false, rfl, (fun h => (by cases h)), rfl⟩
          · have q4 : decide ((20 : Int) < (x.f.length : Nat)) = false := decide_eq_false (by omega)
            go_wp2
            rename World => w1
            go_loopw [4] (fun i wr => ∃ j : Nat, j ≤ x.f.length ∧ i = .int .i64 j ∧ wr = w1) (fun i _ => x.f.length - (intOf i).toNat)
            case atStart => exact ⟨0, by omega, rfl, rfl⟩
            case round =>
              obtain ⟨j, hj, rfl, rfl⟩ := hrel
              by_cases hlj : j < x.f.length
              · have r1 : decide ((j : Int) < (x.f.length : Nat)) = true := by simp; omega
                obtain ⟨g, go, rfl, hgb, hg⟩ := hff (by omega)
                obtain ⟨g0, g1, g2, u, g3, hu⟩ := hg j hlj
                obtain ⟨A', cc, rfl, -, hcc, -⟩ := hu.at_
                unfold maxLen at hcc
                clear g0 g1 g2 hg hff
                generalize (x.f.getD j default).d.length = nd at *
                by_cases h1 : 100 < nd
                · have r2 : decide ((100 : Int) < (nd : Nat)) = true := decide_eq_true (by omega)
                  have r2n : decide (100 < nd) = true := decide_eq_true h1
                  go_wp2
                  go_ret
                  exact ⟨false, rfl, (fun h => (by cases h)), rfl⟩
                · have r2 : decide ((100 : Int) < (nd : Nat)) = false := decide_eq_false (by omega)
                  have r2n : decide (100 < nd) = false := decide_eq_false h1
                  go_wp2
                  go_roundw
                  case rel => exact ⟨j + 1, by omega, by go_num, trivial⟩
                  case measure => simp [intOf]; omega
              · obtain rfl : j = x.f.length := by omega
                have r1 : decide ((x.f.length : Int) < (x.f.length : Nat)) = false := by simp
                go_wp2
                go_roundw
                case rel => exact ⟨k + 1, by omega, by go_num, trivial⟩
                case measure => simp [intOf]; omega
      · have q2 : decide ((k : Int) < 400) = false := by simp; omega
        have q2n : decide (k < 400) = false := by simp; omega
        have q3 : decide ((l.length : Int) < 400) = false := by simp; omega
        have q3n : decide (l.length < 400) = false := by simp; omega
        go_wp2
        go_ret
        exact ⟨false, rfl, (fun h => (by cases h)), rfl⟩
    · obtain rfl : k = l.length := by omega
      have q1 : decide ((l.length : Int) < (l.length : Nat)) = false := by simp
      generalize hn : l.length = n at *
      by_cases h400 : n < 400
      · have q3 : decide ((n : Int) < 400) = true := by simp; omega
        have q3n : decide (n < 400) = true := by simp; omega
        go_wp2
        go_ret
        exact ⟨true, rfl, (fun _ => (by omega)), rfl⟩
      · have q3 : decide ((n : Int) < 400) = false := by simp; omega
        have q3n : decide (n < 400) = false := by simp; omega
        go_wp2
        go_ret
        exact ⟨false, rfl, (fun h => (by cases h)), rfl⟩
end Go.Proofs.Ytkaeikjfegjpjaa

/-! ### TbO -/
namespace Go.Proofs.Ytkaeikjfegjpjaa
open Go.ChangeShapes Go.WideShapes Go.ChangeAt Go.RowKit Go.Joins Go.Deep
open Tb (D T)

def i64o (x : Int) : Prop := -9223372036854775808 ≤ x ∧ x ≤ 9223372036854775807
/-- A state. -/
structure CS where
  r : Int
  s : Int
  m : Int
def stV (s : CS) : Value := .agg #[.int .i64 s.r, .int .i64 s.s, .int .i64 s.m]
structure InState (s : CS) : Prop where
  hr : i64o s.r
  hs : i64o s.s
  hm : i64o s.m
structure InTable (w : World) (t : T) (v : Value) : Prop where
  sees : SeesT w w.heap.size v t.ns
  hd : i64o t.dr
  hw : i64o t.wi
  hl : i64o t.lm
section
variable {H : Type} {enc : TypeId × Value → H} {P : Program} {w : World} {base : Nat} {spare : Nat → Bool} {held : Bool}
theorem int_cell {t : TypeId} {n : Nat} {v : Value} {y : DataW H × List MemPlace} (hi : P.underlying t = some (.int .i64)) (h : DataW.trod enc P w base spare held n t [v] = some y) : ∃ z, v = .int .i64 z ∧ i64o z := by
  obtain ⟨z, hz, hy, hw⟩ := DataW.trod_int hi h
  exact ⟨z, by simpa using hz, bounds_i64 hw⟩
theorem bool_cell {t : TypeId} {n : Nat} {v : Value} {y : DataW H × List MemPlace} (hi : P.underlying t = some .bool) (h : DataW.trod enc P w base spare held n t [v] = some y) : ∃ z, v = .bool z := by
  obtain ⟨z, hz, -⟩ := DataW.trod_bool hi h
  exact ⟨z, by simpa using hz⟩
theorem state_cells {t ti : TypeId} {f0 f1 f2 : Field} {n : Nat} {c0 c1 c2 : Value} {y : DataW H × List MemPlace} (hs : P.underlying t = some (.struct #[f0, f1, f2])) (t0 : f0.type = ti ∧ f0.offset = 0) (t1 : f1.type = ti ∧ f1.offset = 1) (t2 : f2.type = ti ∧ f2.offset = 2) (hi : P.underlying ti = some (.int .i64)) (hc : P.cellsOf ti = 1)
    (h : DataW.trod enc P w base spare held n t [c0, c1, c2] = some y) : ∃ s : CS, c0 = .int .i64 s.r ∧ c1 = .int .i64 s.s ∧ c2 = .int .i64 s.m ∧ InState s := by
  obtain ⟨y0, y1, y2, m, _, _, h0, h1, h2⟩ := trod_struct3 hs h
  rw [t0.1, t0.2, hc] at h0
  rw [t1.1, t1.2, hc] at h1
  rw [t2.1, t2.2, hc] at h2
  obtain ⟨a, rfl, ha⟩ := int_cell hi h0
  obtain ⟨b, rfl, hb⟩ := int_cell hi h1
  obtain ⟨c, rfl, hc⟩ := int_cell hi h2
  exact ⟨⟨a, b, c⟩, rfl, rfl, rfl, ha, hb, hc⟩
theorem sees_state {r : Reach} {b0 : Nat} {t ti : TypeId} {f0 f1 f2 : Field} {v : Value} {d : DataW H} {ps : List MemPlace} (hs : P.underlying t = some (.struct #[f0, f1, f2])) (hC : P.cellsOf t = 3) (t0 : f0.type = ti ∧ f0.offset = 0) (t1 : f1.type = ti ∧ f1.offset = 1) (t2 : f2.type = ti ∧ f2.offset = 2) (hi : P.underlying ti = some (.int .i64)) (hc : P.cellsOf ti = 1)
    (hv : Value.okWide P w r b0 t v) (h : DataW.Trod enc P w base spare held t v d ps) : ∃ s : CS, v = stV s ∧ InState s := by
  obtain ⟨cs, rfl, hsz⟩ := okWide_struct hs hv
  obtain ⟨c0, c1, c2, rfl⟩ := array3 (hsz.trans hC)
  obtain ⟨fuel, hf⟩ := h
  obtain ⟨s, rfl, rfl, rfl, hS⟩ := state_cells hs t0 t1 t2 hi hc hf
  exact ⟨s, rfl, hS⟩
/-- A node's four cells. -/
theorem def_cells {t ti tb : TypeId} {f0 f1 f2 f3 : Field} {n : Nat} {c0 c1 c2 c3 : Value} {y : DataW H × List MemPlace} (hs : P.underlying t = some (.struct #[f0, f1, f2, f3])) (t0 : f0.type = tb ∧ f0.offset = 0) (t1 : f1.type = tb ∧ f1.offset = 1) (t2 : f2.type = ti ∧ f2.offset = 2) (t3 : f3.type = ti ∧ f3.offset = 3) (hi : P.underlying ti = some (.int .i64)) (hb : P.underlying tb = some .bool) (hc : P.cellsOf ti = 1) (hcb : P.cellsOf tb = 1)
    (h : DataW.trod enc P w base spare held n t [c0, c1, c2, c3] = some y) : ∃ d : D, c0 = .bool d.sy ∧ c1 = .bool d.inf ∧ c2 = .int .i64 d.li ∧ c3 = .int .i64 d.sz := by
  obtain ⟨y0, y1, y2, y3, m, _, _, h0, h1, h2, h3⟩ := trod_struct4 hs h
  rw [t0.1, t0.2, hcb] at h0
  rw [t1.1, t1.2, hcb] at h1
  rw [t2.1, t2.2, hc] at h2
  rw [t3.1, t3.2, hc] at h3
  obtain ⟨a, rfl⟩ := bool_cell hb h0
  obtain ⟨b, rfl⟩ := bool_cell hb h1
  obtain ⟨c, rfl, -⟩ := int_cell hi h2
  obtain ⟨d, rfl, -⟩ := int_cell hi h3
  exact ⟨⟨a, b, c, d⟩, rfl, rfl, rfl, rfl⟩
theorem sees_defs {t e ti tb : TypeId} {f0 f1 f2 f3 : Field} {n : Nat} {v : Value} {y : DataW H × List MemPlace} (ht : P.underlying t = some (.slice e)) (he : P.underlying e = some (.struct #[f0, f1, f2, f3])) (ce : P.cellsOf e = 4) (t0 : f0.type = tb ∧ f0.offset = 0) (t1 : f1.type = tb ∧ f1.offset = 1) (t2 : f2.type = ti ∧ f2.offset = 2) (t3 : f3.type = ti ∧ f3.offset = 3) (hi : P.underlying ti = some (.int .i64)) (hb : P.underlying tb = some .bool) (hc : P.cellsOf ti = 1) (hcb : P.cellsOf tb = 1)
    (h : DataW.trod enc P w base spare held n t [v] = some y) : ∃ l : List D, SeesT w w.heap.size v l := by
  rcases open_slice ht h with ⟨hcs, -⟩ | ⟨a, len, cap, m, k, Dt, Pl, hcs, -, hl, hm, hmm, -, hx⟩
  · obtain rfl : v = .slice none 0 0 := by simpa using hcs
    exact ⟨[], SeesT.nil⟩
  · obtain rfl : v = .slice (some a) len cap := by simpa using hcs
    have hlm : len ≤ m := by rw [hmm]; split <;> omega
    have each : ∀ i, i < len → ∃ d : D, w.cell? (a.add (i * 4)) = some (.bool d.sy) ∧ w.cell? (a.add (i * 4 + 1)) = some (.bool d.inf) ∧ w.cell? (a.add (i * 4 + 2)) = some (.int .i64 d.li) ∧ w.cell? (a.add (i * 4 + 3)) = some (.int .i64 d.sz) := by
      intro i hi'
      obtain ⟨cs', h1, h2⟩ := hx i (by omega)
      rw [ce] at h1
      obtain ⟨_, hlen, hcell⟩ := World.cells?_some h1
      match cs', hlen with
      | [v0, v1, v2, v3], _ =>
        obtain ⟨d, rfl, rfl, rfl, rfl⟩ := def_cells he t0 t1 t2 t3 hi hb hc hcb h2
        have e0 := hcell 0 (by omega)
        have e1 := hcell 1 (by omega)
        have e2 := hcell 2 (by omega)
        have e3 := hcell 3 (by omega)
        rw [add_add] at e0 e1 e2 e3
        exact ⟨d, by simpa using e0, by simpa using e1, by simpa using e2, by simpa using e3⟩
    obtain ⟨f, hf⟩ := choose_lt each
    refine ⟨(List.range len).map f, ⟨some a, cap, by simp, by simpa using hl, hm, fun h0 => ?_, fun h => by cases h⟩⟩
    simp only [List.length_map, List.length_range] at h0 ⊢
    have h00 := (hf 0 h0).1
    have h00' : w.cell? (a.add 0) = some (.bool (f 0).sy) := by simpa using h00
    obtain ⟨b, off, spot⟩ := a
    have hsp : spot = none := World.cell?_spot (v := .bool (f 0).sy) (by simpa [Addr.add] using h00')
    subst hsp
    have hadd : ∀ j, (⟨b, off, none⟩ : Addr).add j = ⟨b, off + j, none⟩ := fun j => by unfold Addr.add; split <;> simp_all
    simp only [hadd] at hf
    refine ⟨b, off, rfl, World.block_lt_of_cell? w _ (hf 0 h0).1, fun k hk => ?_⟩
    have hg : ((List.range len).map f).getD k default = f k := by simp [List.getD_eq_getElem?_getD, hk]
    rw [hg]
    obtain ⟨e0, e1, e2, e3⟩ := hf k hk
    exact ⟨e0, by rw [Nat.add_assoc]; exact e1, by rw [Nat.add_assoc]; exact e2, by rw [Nat.add_assoc]; exact e3⟩
theorem sees_table {r : Reach} {b0 : Nat} {t tn e ti tb : TypeId} {g0 g1 g2 g3 f0 f1 f2 f3 : Field} {v : Value} {d : DataW H} {ps : List MemPlace} (hF : P.underlying t = some (.struct #[g0, g1, g2, g3])) (hC : P.cellsOf t = 4) (u0 : g0.type = tn ∧ g0.offset = 0) (u1 : g1.type = ti ∧ g1.offset = 1) (u2 : g2.type = ti ∧ g2.offset = 2) (u3 : g3.type = ti ∧ g3.offset = 3)
    (hn : P.underlying tn = some (.slice e)) (cn : P.cellsOf tn = 1) (he : P.underlying e = some (.struct #[f0, f1, f2, f3])) (ce : P.cellsOf e = 4) (t0 : f0.type = tb ∧ f0.offset = 0) (t1 : f1.type = tb ∧ f1.offset = 1) (t2 : f2.type = ti ∧ f2.offset = 2) (t3 : f3.type = ti ∧ f3.offset = 3)
    (hi : P.underlying ti = some (.int .i64)) (hb : P.underlying tb = some .bool) (hc : P.cellsOf ti = 1) (hcb : P.cellsOf tb = 1)
    (hv : Value.okWide P w r b0 t v) (h : DataW.Trod enc P w base spare held t v d ps) : ∃ (x : T) (s : Value), v = tabV x s ∧ InTable w x s := by
  obtain ⟨cs, rfl, hsz⟩ := okWide_struct hF hv
  obtain ⟨c0, c1, c2, c3, rfl⟩ := array4 (hsz.trans hC)
  obtain ⟨fuel, hf⟩ := h
  obtain ⟨y0, y1, y2, y3, n, hx, _, h0, h1, h2, h3⟩ := trod_struct4 hF hf
  rw [u0.1, u0.2, cn] at h0
  rw [u1.1, u1.2, hc] at h1
  rw [u2.1, u2.2, hc] at h2
  rw [u3.1, u3.2, hc] at h3
  have h0' : DataW.trod enc P w base spare held n tn [c0] = some y0 := h0
  obtain ⟨l, hl⟩ := sees_defs hn he ce t0 t1 t2 t3 hi hb hc hcb h0'
  obtain ⟨a, rfl, ha⟩ := int_cell hi h1
  obtain ⟨b, rfl, hb'⟩ := int_cell hi h2
  obtain ⟨c, rfl, hc'⟩ := int_cell hi h3
  exact ⟨⟨l, a, b, c⟩, c0, rfl, hl, ha, hb', hc'⟩
end
end Go.Proofs.Ytkaeikjfegjpjaa

/-! ### AuBase -/
