/- Texts WdG in one. For what each says in front of its theorems. -/
import Derived.Test.YtjoioojckekfhaaGreatVB49
/-! ### WdG -/
namespace Go.Proofs.YtjoioojckekfhaaGreat
open Go.RowKit

/-- A store of a great value as one step of a region that draws its order. -/
theorem step_storeM {P : Program} {ops : Array Oper} {E : Prop} {o : Oper} {a : Act} {w : World} {K : Act → World → Prop} {Q : Exit → Act → World → Prop} (hgd : o.guard = none) (ty : TypeId) (x y : Operand) (ho : o.op = .store ty x y)
    (b off : Nat) (cells : Array Value) (hx : a.eval x = .pointer (some ⟨b, off, none⟩)) (hy : a.eval y = .agg cells)
    (ht : w.there b off cells.size) (hi : (P.info? ty).map (·.size) = some cells.size) (h1 : cells.all (·.oneCell') = true)
    (h : K (a.put o.dst undef) (w.setCells b off cells.toList)) : if Region.wanted o (yielded ops a.tmps) = true then Oper.wp P o a w K Q else E := by
  have hw : Region.wanted o (yielded ops a.tmps) = true := by simp [Region.wanted, hgd]
  rw [if_pos hw]
  exact wp_store_mid ty x y ho b off cells hx hy ht hi h1 h
/-- Made blocks are foreign. -/
theorem WIn.boxes {B : Nat} {E : List Nat} {N : Nat} {q : WP} {W W' : World} {x : Nat} {u u' : WM} (h : WIn B E N q W x u) (h' : WIn B E N q W' x u') (xs : List Nat) (hx : ∀ b, b ∈ xs → W.heap.size ≤ b ∧ b < W'.heap.size) : WIn B (xs ++ E) N q W' x u' := by
  obtain ⟨l1, l2, l3⟩ := h.lt
  refine ⟨h'.blk, h'.nlt, h'.ptr, h'.star, h'.nd, fun i hi p hp => ?_, h'.dis, h'.ne, fun p hp => ?_, h'.cap, h'.bas⟩
  · rcases hp with e | e | e | hp
    · exact h'.own i hi p (.inl e)
    · exact h'.own i hi p (.inr (.inl e))
    · exact h'.own i hi p (.inr (.inr (.inl e)))
    · rcases List.mem_append.1 hp with e | hp
      · exact fun hm => by
          have := (h.nd i hi).lt p hm
          have := (hx p e).1
          omega
      · exact h'.own i hi p (.inr (.inr (.inr hp)))
  · rcases List.mem_append.1 hp with e | hp
    · obtain ⟨e1, e2⟩ := hx p e
      exact ⟨e2, by omega, by omega, by omega⟩
    · exact h'.out p hp
/-- The blocks of what is heard. -/
def hdB (f : Nat → Hd) : List Nat := (List.range 8).flatMap fun i => (f i).X.ownBlock.toList ++ (f i).Y.ownBlock.toList
theorem hdB_mem {f : Nat → Hd} {b : Nat} : b ∈ hdB f ↔ ∃ i, i < 8 ∧ ((f i).X.ownBlock = some b ∨ (f i).Y.ownBlock = some b) := by
  unfold hdB
  simp only [List.mem_flatMap, List.mem_range, List.mem_append, Option.mem_toList]
/-- What the star told. -/
structure SC (N : Nat) (u : WM) (f : Nat → Hd) (S : Nat) (W : World) : Prop where
  eq : ∀ i, i < N → (f i).A = (u.hear N i).a ∧ (f i).B = (u.hear N i).b ∧ (f i).o = (u.hear N i).o
  own : ∀ i, i < N → OwnsL W S (f i).X (u.hear N i).x ∧ OwnsL W S (f i).Y (u.hear N i).y
  all : ∀ i, i < 8 → (∃ l, OwnsL W S (f i).X l) ∧ ∃ l, OwnsL W S (f i).Y l
  n8 : N ≤ 8
theorem SC.forms {N : Nat} {u : WM} {f : Nat → Hd} {S : Nat} {W : World} (h : SC N u f S W) (i : Nat) (hi : i < 8) : (∃ A n c, (f i).X = .slice A n c) ∧ ∃ A n c, (f i).Y = .slice A n c := by
  obtain ⟨⟨l, h1⟩, l', h2⟩ := h.all i hi
  obtain ⟨A, c, e, -⟩ := h1.sees.at_
  obtain ⟨A', c', e', -⟩ := h2.sees.at_
  exact ⟨⟨A, _, c, e⟩, A', _, c', e'⟩
theorem SC.keep {N : Nat} {u : WM} {f : Nat → Hd} {S : Nat} {W W' : World} (h : SC N u f S W) (hb : ∀ b, b ∈ hdB f → W'.heap[b]? = W.heap[b]?) : SC N u f S W' := by
  refine ⟨h.eq, fun i hi => ?_, fun i hi => ?_, h.n8⟩
  · have h8 : i < 8 := Nat.lt_of_lt_of_le hi h.n8
    exact ⟨(h.own i hi).1.same fun b hb' => hb b (hdB_mem.2 ⟨i, h8, .inl hb'⟩), (h.own i hi).2.same fun b hb' => hb b (hdB_mem.2 ⟨i, h8, .inr hb'⟩)⟩
  · obtain ⟨⟨l, h1⟩, l', h2⟩ := h.all i hi
    exact ⟨⟨l, h1.same fun b hb' => hb b (hdB_mem.2 ⟨i, hi, .inl hb'⟩)⟩, l', h2.same fun b hb' => hb b (hdB_mem.2 ⟨i, hi, .inr hb'⟩)⟩
theorem slot_wd {B : Nat} {E : List Nat} {N x : Nat} {u : WM} {q : WP} {W : World} {V : Nat → Option Addr} {c : Nat → Nat} (ok : WOk N u) (h : WIn B E N q W x (u.sent1 N)) (hv : ∀ i, i < 8 → SeesL W W.heap.size (.slice (V i) (u.bs N i).length (c i)) (u.bs N i)) (hg : ∀ i, i < 8 → bytesL (u.bs N i) ∧ (u.bs N i).length ≤ 16) :
    Calls Tryz.prog 58 #[.pointer (some ⟨q.gs, 0, none⟩), s8 fun i => .slice (V i) (u.bs N i).length (c i), ints8 (u.at_ N), .slice none 0 0] W fun e w' => ∃ f, e = .returned (.tuple #[.agg (hdC f), .int .i64 0]) ∧ SC N u f W.heap.size w' ∧ WIn B (hdB f ++ E) N q w' x (u.took N 0) ∧ Bw B E W w' := by
  obtain ⟨n4, n8⟩ := ok.n4
  have hb : ∀ j, j < N → bytesL (u.bs N j) ∧ (u.bs N j).length ≤ 16 := fun j hj => hg j (by omega)
  obtain ⟨e1, e2⟩ := ended_is ok hb
  have hat := fun i => WM.at_bd ok i
  have hS := slot_sr q.gs N u.s V c (u.bs N) (u.at_ N) (.slice none 0 0) [] false (u.sd N) (u.who N) W h.star n8 (fun i hi => ⟨hv i hi, (hg i hi).1⟩) (fun i => by have := hat i; omega) SeesF.nil rfl (fun f hf => by cases hf) rfl rfl rfl rfl
    (by rcases WM.who_range ok with e | ⟨j, e, hj, -⟩
        · exact .inl e
        · exact .inr ⟨j, e, hj⟩)
    (by rw [ok.sn]; exact n8) (by have := ok.slot; omega) (by have := ok.now; unfold time; omega) (by have := ok.wi; omega) (by rw [e2]; exact ok.ok)
  rw [e1, e2] at hS
  refine hS.mono ?_
  rintro e w' ⟨f, rfl, hH, hG, hO⟩
  have hgl := h.star.lt
  have hSC : SC N u f W.heap.size w' := ⟨fun i hi => by
      obtain ⟨a1, a2, -, -, a5⟩ := hear_is ok hb hi (hH i (by omega))
      exact ⟨a1, a2, a5⟩, fun i hi => by
      obtain ⟨-, -, a3, a4, -⟩ := hear_is ok hb hi (hH i (by omega))
      exact ⟨a3, a4⟩, fun i hi => ⟨⟨_, (hH i hi).X⟩, _, (hH i hi).Y⟩, n8⟩
  have hw : WIn B E N q w' x (u.took N 0) := by
    have := h.star_ hO hG
    rw [WM.took_0]
    exact this
  refine ⟨f, rfl, hSC, h.boxes hw (hdB f) fun b hb' => ?_, Bw.ofOnly hO h.bas.2.2.1 hgl fun r hr => ⟨(h.out r hr).1, (h.out r hr).2.2.2⟩⟩
  obtain ⟨i, hi, hm⟩ := hdB_mem.1 hb'
  obtain ⟨⟨l, o1⟩, l', o2⟩ := hSC.all i hi
  rcases hm with hm | hm
  · exact o1.lt b hm
  · exact o2.lt b hm
/-- In the loop that has all hear: k nodes did. -/
structure TA (B : Nat) (P : List Nat) (N x : Nat) (u : WM) (nb : Nat) (gp : Nat → Nat) (ph : Nat) (f : Nat → Hd) (S : Nat) (w0 : World) (k : Nat) (E : List Nat) (q : WP) (W : World) : Prop where
  nb : q.nb = nb
  gp : q.gp = gp
  win : WIn B E N q W x (u.took N k)
  phE : ph ∈ E
  xs : ∀ b, b ∈ hdB f → b ∈ E
  ps : ∀ p, p ∈ P → p ∈ E
  H : HAt W ph f
  sc : SC N u f S W
  bw : Bw B P w0 W
theorem TA.take {B : Nat} {P : List Nat} {N x : Nat} {u : WM} {nb : Nat} {gp : Nat → Nat} {ph : Nat} {f : Nat → Hd} {S : Nat} {w0 W : World} {k : Nat} {E : List Nat} {q : WP} (h : TA B P N x u nb gp ph f S w0 k E q W) (ok : WOk N u) (hg : ∀ j, j < N → bytesL (u.bs N j) ∧ (u.bs N j).length ≤ 16) (hk : k < N) :
    Calls Tryz.prog 59 #[.pointer (some ⟨gp k, 0, none⟩), .agg #[.int .i64 (f k).A, .int .i64 (f k).B, (f k).X, (f k).Y, .int .i64 (f k).o]] W fun e w' => ∃ q', e = .returned (.tuple #[]) ∧ TA B P N x u nb gp ph f S w0 (k + 1) E q' w' := by
  have hn := h.win.nd k hk
  rw [u.took_at hk, h.gp] at hn
  obtain ⟨e1, e2, e3⟩ := h.sc.eq k hk
  obtain ⟨o1, o2⟩ := h.sc.own k hk
  rw [e1, e2, e3]
  have hby : bytesL (u.hear N k).x ∧ bytesL (u.hear N k).y := by
    unfold WM.hear WM.heard
    rcases WM.who_range ok with e | ⟨j, e, hj, -⟩
    · rw [e]; simp only [show ((-1 : Int) < 0) from by omega, if_true]; exact ⟨fun x hx => (by cases hx), fun x hx => (by cases hx)⟩
    · rw [e]; simp only [show ¬ (((j : Nat) : Int) < 0) from by omega, if_false, Int.toNat_natCast]; exact ⟨(hg j hj).1, (hg j hj).1⟩
  have hof : -1099511627776 ≤ (u.hear N k).o ∧ (u.hear N k).o ≤ 1099511627776 := by
    have a1 := WM.when_bd ok
    have a2 := WM.at_bd ok k
    unfold WM.hear
    split
    · show -1099511627776 ≤ (0 : Int) ∧ (0 : Int) ≤ 1099511627776; omega
    · show -1099511627776 ≤ u.when_ N - u.at_ N k ∧ u.when_ N - u.at_ N k ≤ 1099511627776; omega
  obtain ⟨y1, y2⟩ := ok.ty k hk
  have ytm := ok.tm k hk
  refine (nodeApi.take (u.hear N k) hn o1.sees hby.1 o2.sees hby.2 y1 y2 (by omega) hof).mono ?_
  rintro _ w' ⟨F', rfl, hn', he⟩
  have hw := h.win.eff hk (by rw [h.gp]; exact hn') he
  rw [WM.took_step] at hw
  have hold : ∀ b, b ∈ E → w'.heap[b]? = W.heap[b]? := fun b hb => he.1.block b (h.win.out b hb).1 (h.win.own k hk b (.inr (.inr (.inr hb))))
  exact ⟨{ q with F := upd' q.F k F' }, rfl, h.nb, h.gp, hw, h.phE, h.xs, h.ps, h.H.same (hold _ h.phE), h.sc.keep fun b hb => hold b (h.xs b hb), h.bw.trans ((h.win.bw_eff hk he).less h.ps)⟩
theorem Bw.ofBelow {B : Nat} {P : List Nat} {a b : World} (h : Below a.heap.size a b) (hB : B ≤ a.heap.size) (hP : ∀ p, p ∈ P → p < a.heap.size) : Bw B P a b := Bw.of h hB hP
theorem Bw.drewB {B : Nat} {P : List Nat} (a : World) : Bw B P a a.drew := ⟨(Below.refl _ _).drew, fun _ _ => rfl⟩
theorem Bw.box {B x : Nat} {P : List Nat} (a : World) (o : Obj) (h1 : B ≤ x) (h2 : x < a.heap.size) (hP : ∀ p, p ∈ P → p < a.heap.size) : Bw B P a (a.alloc o).drew := Bw.of (((Below.refl a.heap.size a).alloc (Nat.le_refl _) o).drew) (by omega) hP
/-- What was heard lies in a block made behind the slot. -/
theorem TA.behind {B : Nat} {P E : List Nat} {N x : Nat} {u : WM} {q : WP} {f : Nat → Hd} {S : Nat} {w0 w5 : World} (hw : WIn B (hdB f ++ E) N q w5 x (u.took N 0)) (sc : SC N u f S w5) (hP : ∀ p, p ∈ P → p ∈ E) (bw : Bw B P w0 w5) :
    TA B P N x u q.nb q.gp w5.heap.size f S w0 0 (w5.heap.size :: (hdB f ++ E)) q ((w5.alloc (.cells (hdC fun _ => hdz) 121)).setCells w5.heap.size 0 (hdC f).toList) := by
  obtain ⟨hH, hB⟩ := hear_lies w5 w5.heap.size rfl f 121
  have hl := hw.lt
  have hbs := hw.bas
  refine ⟨rfl, rfl, (hw.box (.cells (hdC fun _ => hdz) 121)).only (.inl (by simp)) (Only.setCells _ 0 (Only.refl _ _)), by simp, fun b hb => by simp [hb], fun p hp => by simp [hP p hp], hH, sc.keep fun b hb => hB.block b (hw.out b (by simp [hb])).1, bw.trans (Bw.ofBelow hB (by omega) fun p hp => (hw.out p (by simp [hP p hp])).1)⟩
/-- It lies in a block made ahead of it. -/
theorem TA.ahead {B : Nat} {P E : List Nat} {N x : Nat} {u : WM} {q : WP} {f : Nat → Hd} {S ph : Nat} {w0 w5 : World} (hw : WIn B (hdB f ++ E) N q w5 x (u.took N 0)) (sc : SC N u f S w5) (hph : ph ∈ E) (hS : ph < S) (hP : ∀ p, p ∈ P → p ∈ E ∧ p ≠ ph) (hB : B ≤ ph) (bw : Bw B P w0 w5) (ht : w5.there ph 0 (hdC f).size) :
    TA B P N x u q.nb q.gp ph f S w0 0 (hdB f ++ E) q (w5.setCells ph 0 (hdC f).toList) := by
  have o : Only ph w5 (w5.setCells ph 0 (hdC f).toList) := Only.setCells _ 0 (Only.refl _ _)
  refine ⟨rfl, rfl, hw.only (.inl (by simp [hph])) o, by simp [hph], fun b hb => by simp [hb], fun p hp => by simp [(hP p hp).1], World.rangeAt_setCells_same _ _ _ _ (by rw [Array.length_toList]; exact ht), sc.keep fun b hb => o.block b (hw.out b (by simp [hb])).1 (fun e => ?_), bw.trans (Bw.ofOnly o hB (hw.out ph (by simp [hph])).1 fun r hr => ⟨(hw.out r (by simp [(hP r hr).1])).1, (hP r hr).2⟩)⟩
  cases e
  obtain ⟨i, hi, hm⟩ := hdB_mem.1 hb
  obtain ⟨⟨l, o1⟩, l', o2⟩ := sc.all i hi
  rcases hm with hm | hm
  · have := (o1.lt _ hm).1; omega
  · have := (o2.lt _ hm).1; omega
end Go.Proofs.YtjoioojckekfhaaGreat
