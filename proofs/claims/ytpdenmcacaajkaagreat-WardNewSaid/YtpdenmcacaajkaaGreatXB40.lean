/- Texts WdE, WdG in one. For what each says in front of its theorems. -/
import Derived.Test.YtpdenmcacaajkaaGreatXB39
/-! ### WdE -/
namespace Go.Proofs.YtpdenmcacaajkaaGreat
open Go.RowKit

theorem Eff.bw {F F' : List Nat} {B : Nat} {P : List Nat} {w w' : World} (e : Eff F F' w w') (hF : ∀ f, f ∈ F → B ≤ f ∧ f ∉ P) (hB : B ≤ w.heap.size) (hP : ∀ p, p ∈ P → p < w.heap.size) : Bw B P w w' :=
  ⟨e.1.below (fun f hf => (hF f hf).1) hB, fun p hp => e.1.block p (hP p hp) fun hm => (hF p hm).2 hp⟩
theorem Bw.trans {B : Nat} {P : List Nat} {a b c : World} (h : Bw B P a b) (k : Bw B P b c) : Bw B P a c := ⟨h.b.trans k.b, fun p hp => (k.k p hp).trans (h.k p hp)⟩
theorem Bw.less {B : Nat} {P P' : List Nat} {a b : World} (h : Bw B P a b) (hP : ∀ p, p ∈ P' → p ∈ P) : Bw B P' a b := ⟨h.b, fun p hp => h.k p (hP p hp)⟩
theorem Bw.ofOnly {B p : Nat} {P : List Nat} {a b : World} (o : Only p a b) (hB : B ≤ p) (hs : p < a.heap.size) (hP : ∀ r, r ∈ P → r < a.heap.size ∧ r ≠ p) : Bw B P a b :=
  ⟨o.below hB hs, fun r hr => o.block r (hP r hr).1 (by intro e; cases e; exact (hP _ hr).2 rfl)⟩
section
variable {B : Nat} {P : List Nat} {N : Nat} {q : WP} {W W' : World} {x : Nat} {u : WM}
theorem WIn.bw_eff (h : WIn B P N q W x u) {i : Nat} (hi : i < N) {F' : List Nat} (e : Eff (q.F i) F' W W') : Bw B P W W' :=
  e.bw (fun f hf => ⟨h.bas.2.2.2 i hi f hf, fun hp => h.own i hi f (.inr (.inr (.inr hp))) hf⟩) (by have := h.bas.1; have := h.blk.lt; omega) (fun p hp => (h.out p hp).1)
theorem WIn.bw_below (h : WIn B P N q W x u) (b : Below W.heap.size W W') : Bw B P W W' :=
  Bw.of b (by have := h.bas.1; have := h.blk.lt; omega) (fun p hp => (h.out p hp).1)
end
/-- In the loop that has all send: k nodes did. -/
structure SA (B : Nat) (P : List Nat) (N x : Nat) (u : WM) (nb gs ps : Nat) (w0 : World) (k : Nat) (q : WP) (V : Nat → Option Addr) (c : Nat → Nat) (W : World) : Prop where
  nb : q.nb = nb
  gs : q.gs = gs
  win : WIn B ((ps + 1) :: ps :: P) N q W x (u.sent1 k)
  Y : Blk W ps (sl8 V c (u.bsK k)) 188
  Z : Blk W (ps + 1) (i8 (u.atK k)) 66
  own : ∀ i, i < 8 → OwnsL W (ps + 2) (.slice (V i) (u.bsK k i).length (c i)) (u.bsK k i)
  ok : ∀ i, i < 8 → bytesL (u.bsK k i) ∧ (u.bsK k i).length ≤ 16
  far : ∀ i, i < k → ∀ b, (Value.slice (V i) (u.bsK k i).length (c i)).ownBlock = some b → ∀ j, k ≤ j → j < N → b ∉ q.F j
  rest : ∀ i, k ≤ i → V i = none ∧ c i = 0
  bw : Bw B P w0 W
  pB : B ≤ ps
  pP : ∀ r, r ∈ P → r < ps
/-- The next one did, too; what it answered is not stored yet. -/
structure SB (B : Nat) (P : List Nat) (N x : Nat) (u : WM) (nb gs ps : Nat) (w0 : World) (k : Nat) (q : WP) (V : Nat → Option Addr) (c : Nat → Nat) (A' : Option Addr) (c' : Nat) (W : World) : Prop where
  nb : q.nb = nb
  gs : q.gs = gs
  win : WIn B ((ps + 1) :: ps :: P) N q W x (u.sent1 (k + 1))
  Y : Blk W ps (sl8 V c (u.bsK k)) 188
  Z : Blk W (ps + 1) (i8 (u.atK k)) 66
  own : ∀ i, i < 8 → OwnsL W (ps + 2) (.slice (V i) (u.bsK k i).length (c i)) (u.bsK k i)
  new : OwnsL W (ps + 2) (.slice A' (u.ms k).sent.length c') (u.ms k).sent
  ok : ∀ i, i < 8 → bytesL (u.bsK k i) ∧ (u.bsK k i).length ≤ 16
  okn : bytesL (u.ms k).sent ∧ (u.ms k).sent.length ≤ 16
  far : ∀ i, i < k → ∀ b, (Value.slice (V i) (u.bsK k i).length (c i)).ownBlock = some b → ∀ j, k + 1 ≤ j → j < N → b ∉ q.F j
  farn : ∀ b, (Value.slice A' (u.ms k).sent.length c').ownBlock = some b → ∀ j, k + 1 ≤ j → j < N → b ∉ q.F j
  rest : ∀ i, k ≤ i → V i = none ∧ c i = 0
  bw : Bw B P w0 W
  pB : B ≤ ps
  pP : ∀ r, r ∈ P → r < ps
section
variable {B : Nat} {P : List Nat} {N x : Nat} {u : WM} {nb gs ps : Nat} {w0 W W' : World} {k : Nat} {q : WP} {V : Nat → Option Addr} {c : Nat → Nat} {A' : Option Addr} {c' : Nat}
theorem SA.below (h : SA B P N x u nb gs ps w0 k q V c W) (b : Below W.heap.size W W') : SA B P N x u nb gs ps w0 k q V c W' :=
  ⟨h.nb, h.gs, h.win.below b, h.Y.below b h.Y.lt, h.Z.below b h.Z.lt, fun i hi => (h.own i hi).below b (Nat.le_refl _), h.ok, h.far, h.rest, h.bw.trans ((h.win.less (fun _ hp => List.mem_cons_of_mem _ (List.mem_cons_of_mem _ hp))).bw_below b), h.pB, h.pP⟩
theorem SB.below (h : SB B P N x u nb gs ps w0 k q V c A' c' W) (b : Below W.heap.size W W') : SB B P N x u nb gs ps w0 k q V c A' c' W' :=
  ⟨h.nb, h.gs, h.win.below b, h.Y.below b h.Y.lt, h.Z.below b h.Z.lt, fun i hi => (h.own i hi).below b (Nat.le_refl _), h.new.below b (Nat.le_refl _), h.ok, h.okn, h.far, h.farn, h.rest, h.bw.trans ((h.win.less (fun _ hp => List.mem_cons_of_mem _ (List.mem_cons_of_mem _ hp))).bw_below b), h.pB, h.pP⟩
theorem SA.send (h : SA B P N x u nb gs ps w0 k q V c W) (hk : k < N) : Calls Tryz.prog 33 #[.pointer (some ⟨q.gp k, 0, none⟩)] W fun e w' => ∃ A' c' q', e = .returned (.slice A' (u.ms k).sent.length c') ∧ q'.gp = q.gp ∧ NAt (q'.F k) w' (q.gp k) (u.ms k).sendS ∧ SB B P N x u nb gs ps w0 k q' V c A' c' w' := by
  have hn := h.win.nd k hk
  rw [u.sent1_at k] at hn
  refine (sendOwn hn).mono ?_
  rintro _ w' ⟨v, F', rfl, ho, hn', he⟩
  obtain ⟨A', c', rfl, -⟩ := ho.sees.at_
  have hY := h.Y.lt
  have hZ := h.Z.lt
  have nY : ps ∉ q.F k := h.win.own k hk ps (.inr (.inr (.inr (by simp))))
  have nZ : ps + 1 ∉ q.F k := h.win.own k hk (ps + 1) (.inr (.inr (.inr (by simp))))
  have hw := h.win.eff hk hn' he
  rw [WM.sent1_step] at hw
  have hold : ∀ i, i < 8 → OwnsL w' (ps + 2) (.slice (V i) (u.bsK k i).length (c i)) (u.bsK k i) := fun i hi => by
    have ho := h.own i hi
    by_cases e : i < k
    · exact ho.same fun b hb => he.1.block b (ho.lt b hb).2 (h.far i e b hb k (Nat.le_refl _) hk)
    · obtain ⟨e1, e2⟩ := h.rest i (by omega)
      rw [show u.bsK k i = [] by unfold WM.bsK; rw [if_neg e], e1, e2]
      exact OwnsL.nil
  refine ⟨A', c', { q with F := upd' q.F k F' }, rfl, rfl, by show NAt (upd' q.F k F' k) w' (q.gp k) _; rw [upd'_same]; exact hn', ⟨h.nb, h.gs, hw, (he.1.block _ hY nY).trans h.Y, (he.1.block _ hZ nZ).trans h.Z, hold, ho.base (by have := hZ; omega), h.ok, sentAt_good hn', fun i hi b hb j hj hjN => ?_, fun b hb j hj hjN => ?_, h.rest, h.bw.trans ((h.win.less (fun _ hp => List.mem_cons_of_mem _ (List.mem_cons_of_mem _ hp))).bw_eff hk he), h.pB, h.pP⟩⟩
  · show b ∉ upd' q.F k F' j
    rw [upd'_other _ _ _ (show j ≠ k by omega)]
    exact h.far i hi b hb j (by omega) hjN
  · show b ∉ upd' q.F k F' j
    rw [upd'_other _ _ _ (show j ≠ k by omega)]
    intro hm
    have h1 := (ho.lt b hb).1
    have h2 := (h.win.nd j hjN).lt b hm
    omega
/-- What was answered is stored. -/
theorem SB.store (h : SB B P N x u nb gs ps w0 k q V c A' c' W) (hk : k < N) (hN : N ≤ 8) : SA B P N x u nb gs ps w0 (k + 1) q (put8 V k A') (put8 c k c') ((W.setCell ⟨ps, k, none⟩ (.slice A' (u.ms k).sent.length c')).setCell ⟨ps + 1, k, none⟩ (.int .i64 (u.ms k).sendS.tm)) := by
  have o1 : Only ps W (W.setCell ⟨ps, k, none⟩ (.slice A' (u.ms k).sent.length c')) := (Only.refl _ _).set k _
  have o2 : Only (ps + 1) (W.setCell ⟨ps, k, none⟩ (.slice A' (u.ms k).sent.length c')) ((W.setCell ⟨ps, k, none⟩ (.slice A' (u.ms k).sent.length c')).setCell ⟨ps + 1, k, none⟩ (.int .i64 (u.ms k).sendS.tm)) := (Only.refl _ _).set k _
  have Y1 := (h.Y.set k (.slice A' (u.ms k).sent.length c')).eq (sl8_set V c (u.bsK k) k (by omega) A' c' (u.ms k).sent)
  rw [WM.bsK_step] at Y1
  have Y2 := Y1.other ⟨ps + 1, k, none⟩ (by show ps ≠ ps + 1; omega) (.int .i64 (u.ms k).sendS.tm)
  have Z2 := ((h.Z.other ⟨ps, k, none⟩ (by show ps + 1 ≠ ps; omega) (.slice A' (u.ms k).sent.length c')).set k (.int .i64 (u.ms k).sendS.tm)).eq (WM.atK_step u k (by omega))
  have kp : ∀ {v l}, OwnsL W (ps + 2) v l → OwnsL ((W.setCell ⟨ps, k, none⟩ (.slice A' (u.ms k).sent.length c')).setCell ⟨ps + 1, k, none⟩ (.int .i64 (u.ms k).sendS.tm)) (ps + 2) v l := fun ho => (ho.only o1 (by omega)).only o2 (by omega)
  have hz1 := o1.size
  have hYl := h.Y.lt
  have hZl := h.Z.lt
  have e : ∀ i, u.bsK (k + 1) i = if i = k then (u.ms k).sent else u.bsK k i := fun i => by rw [← WM.bsK_step]; rfl
  refine ⟨h.nb, h.gs, (h.win.only (.inl (by simp)) o1).only (.inl (by simp)) o2, Y2, Z2, fun i hi => ?_, fun i hi => ?_, fun i hi b hb => ?_, fun i hi => ?_, ?_, h.pB, h.pP⟩
  · rw [e i]
    unfold put8
    by_cases ei : i = k
    · subst ei; simp only [if_true]; exact kp h.new
    · simp only [if_neg ei]; exact kp (h.own i hi)
  · rw [e i]
    by_cases ei : i = k
    · rw [if_pos ei]; exact h.okn
    · rw [if_neg ei]; exact h.ok i hi
  · rw [e i] at hb
    unfold put8 at hb
    by_cases ei : i = k
    · simp only [if_pos ei] at hb
      exact h.farn b hb
    · simp only [if_neg ei] at hb
      exact h.far i (by omega) b hb
  · unfold put8
    rw [if_neg (by omega), if_neg (by omega)]
    exact h.rest i (by omega)
  · have hP : ∀ r, r ∈ P → r < W.heap.size ∧ r ≠ ps ∧ r ≠ ps + 1 := fun r hr => by
      obtain ⟨h1, -⟩ := h.win.out r (by simp [hr])
      refine ⟨h1, fun er => ?_, fun er => ?_⟩
      · have := h.pP r hr; omega
      · have := h.pP r hr; omega
    exact h.bw.trans ((Bw.ofOnly o1 h.pB hYl fun r hr => ⟨(hP r hr).1, (hP r hr).2.1⟩).trans (Bw.ofOnly o2 (by have := h.pB; omega) (by omega) fun r hr => ⟨Nat.lt_of_lt_of_le (hP r hr).1 hz1, (hP r hr).2.2⟩))
end
end Go.Proofs.YtpdenmcacaajkaaGreat

/-! ### WdG -/
namespace Go.Proofs.YtpdenmcacaajkaaGreat
open Go.RowKit

/-- Made blocks are foreign. -/
theorem WIn.boxes {B : Nat} {E : List Nat} {N : Nat} {q : WP} {W W' : World} {x : Nat} {u u' : WM} (h : WIn B E N q W x u) (h' : WIn B E N q W' x u') (xs : List Nat) (hx : ∀ b, b ∈ xs → W.heap.size ≤ b ∧ b < W'.heap.size) : WIn B (xs ++ E) N q W' x u' := by
  obtain ⟨l1, l2, l3⟩ := h.lt
  refine ⟨h'.blk, h'.nlt, h'.ptr, h'.star, h'.nd, fun i hi p hp => ?_, h'.dis, h'.ne, fun p hp => ?_, h'.cap, h'.bas⟩
  · rcases hp with e | e | e | hp
    · exact h'.own i hi p (.inl e)
    · exact h'.own i hi p (.inr (.inl e))
    · exact h'.own i hi p (.inr (.inr (.inl e)))
    · rcases List.mem_append.1 hp with e | hp
      · exact fun hm => by
          have := (h.nd i hi).lt p hm
          have := (hx p e).1
          omega
      · exact h'.own i hi p (.inr (.inr (.inr hp)))
  · rcases List.mem_append.1 hp with e | hp
    · obtain ⟨e1, e2⟩ := hx p e
      exact ⟨e2, by omega, by omega, by omega⟩
    · exact h'.out p hp
/-- The blocks of what is heard. -/
def hdB (f : Nat → Hd) : List Nat := (List.range 8).flatMap fun i => (f i).X.ownBlock.toList ++ (f i).Y.ownBlock.toList
theorem hdB_mem {f : Nat → Hd} {b : Nat} : b ∈ hdB f ↔ ∃ i, i < 8 ∧ ((f i).X.ownBlock = some b ∨ (f i).Y.ownBlock = some b) := by
  unfold hdB
  simp only [List.mem_flatMap, List.mem_range, List.mem_append, Option.mem_toList]
/-- What the star told. -/
structure SC (N : Nat) (u : WM) (f : Nat → Hd) (S : Nat) (W : World) : Prop where
  eq : ∀ i, i < N → (f i).A = (u.hear N i).a ∧ (f i).B = (u.hear N i).b ∧ (f i).o = (u.hear N i).o
  own : ∀ i, i < N → OwnsL W S (f i).X (u.hear N i).x ∧ OwnsL W S (f i).Y (u.hear N i).y
  all : ∀ i, i < 8 → (∃ l, OwnsL W S (f i).X l) ∧ ∃ l, OwnsL W S (f i).Y l
  n8 : N ≤ 8
theorem SC.forms {N : Nat} {u : WM} {f : Nat → Hd} {S : Nat} {W : World} (h : SC N u f S W) (i : Nat) (hi : i < 8) : (∃ A n c, (f i).X = .slice A n c) ∧ ∃ A n c, (f i).Y = .slice A n c := by
  obtain ⟨⟨l, h1⟩, l', h2⟩ := h.all i hi
  obtain ⟨A, c, e, -⟩ := h1.sees.at_
  obtain ⟨A', c', e', -⟩ := h2.sees.at_
  exact ⟨⟨A, _, c, e⟩, A', _, c', e'⟩
theorem SC.keep {N : Nat} {u : WM} {f : Nat → Hd} {S : Nat} {W W' : World} (h : SC N u f S W) (hb : ∀ b, b ∈ hdB f → W'.heap[b]? = W.heap[b]?) : SC N u f S W' := by
  refine ⟨h.eq, fun i hi => ?_, fun i hi => ?_, h.n8⟩
  · have h8 : i < 8 := Nat.lt_of_lt_of_le hi h.n8
    exact ⟨(h.own i hi).1.same fun b hb' => hb b (hdB_mem.2 ⟨i, h8, .inl hb'⟩), (h.own i hi).2.same fun b hb' => hb b (hdB_mem.2 ⟨i, h8, .inr hb'⟩)⟩
  · obtain ⟨⟨l, h1⟩, l', h2⟩ := h.all i hi
    exact ⟨⟨l, h1.same fun b hb' => hb b (hdB_mem.2 ⟨i, hi, .inl hb'⟩)⟩, l', h2.same fun b hb' => hb b (hdB_mem.2 ⟨i, hi, .inr hb'⟩)⟩
theorem slot_wd {B : Nat} {E : List Nat} {N x : Nat} {u : WM} {q : WP} {W : World} {V : Nat → Option Addr} {c : Nat → Nat} (ok : WOk N u) (h : WIn B E N q W x (u.sent1 N)) (hv : ∀ i, i < 8 → SeesL W W.heap.size (.slice (V i) (u.bs N i).length (c i)) (u.bs N i)) (hg : ∀ i, i < 8 → bytesL (u.bs N i) ∧ (u.bs N i).length ≤ 16) :
    Calls Tryz.prog 139 #[.pointer (some ⟨q.gs, 0, none⟩), s8 fun i => .slice (V i) (u.bs N i).length (c i), ints8 (u.at_ N), .slice none 0 0] W fun e w' => ∃ f, e = .returned (.tuple #[.agg (hdC f), .int .i64 0]) ∧ SC N u f W.heap.size w' ∧ WIn B (hdB f ++ E) N q w' x (u.took N 0) ∧ Bw B E W w' := by
  obtain ⟨n4, n8⟩ := ok.n4
  have hb : ∀ j, j < N → bytesL (u.bs N j) ∧ (u.bs N j).length ≤ 16 := fun j hj => hg j (by omega)
  obtain ⟨e1, e2⟩ := ended_is ok hb
  have hat := fun i => WM.at_bd ok i
  have hS := slot_sr q.gs N u.s V c (u.bs N) (u.at_ N) (.slice none 0 0) [] false (u.sd N) (u.who N) W h.star n8 (fun i hi => ⟨hv i hi, (hg i hi).1⟩) (fun i => by have := hat i; omega) SeesF.nil rfl (fun f hf => by cases hf) rfl rfl rfl rfl
    (by rcases WM.who_range ok with e | ⟨j, e, hj, -⟩
        · exact .inl e
        · exact .inr ⟨j, e, hj⟩)
    (by rw [ok.sn]; exact n8) (by have := ok.slot; omega) (by have := ok.now; unfold time; omega) (by have := ok.wi; omega) (by rw [e2]; exact ok.ok)
  rw [e1, e2] at hS
  refine hS.mono ?_
  rintro e w' ⟨f, rfl, hH, hG, hO⟩
  have hgl := h.star.lt
  have hSC : SC N u f W.heap.size w' := ⟨fun i hi => by
      obtain ⟨a1, a2, -, -, a5⟩ := hear_is ok hb hi (hH i (by omega))
      exact ⟨a1, a2, a5⟩, fun i hi => by
      obtain ⟨-, -, a3, a4, -⟩ := hear_is ok hb hi (hH i (by omega))
      exact ⟨a3, a4⟩, fun i hi => ⟨⟨_, (hH i hi).X⟩, _, (hH i hi).Y⟩, n8⟩
  have hw : WIn B E N q w' x (u.took N 0) := by
    have := h.star_ hO hG
    rw [WM.took_0]
    exact this
  refine ⟨f, rfl, hSC, h.boxes hw (hdB f) fun b hb' => ?_, Bw.ofOnly hO h.bas.2.2.1 hgl fun r hr => ⟨(h.out r hr).1, (h.out r hr).2.2.2⟩⟩
  obtain ⟨i, hi, hm⟩ := hdB_mem.1 hb'
  obtain ⟨⟨l, o1⟩, l', o2⟩ := hSC.all i hi
  rcases hm with hm | hm
  · exact o1.lt b hm
  · exact o2.lt b hm
/-- In the loop that has all hear: k nodes did. -/
structure TA (B : Nat) (P : List Nat) (N x : Nat) (u : WM) (nb : Nat) (gp : Nat → Nat) (ph : Nat) (f : Nat → Hd) (S : Nat) (w0 : World) (k : Nat) (E : List Nat) (q : WP) (W : World) : Prop where
  nb : q.nb = nb
  gp : q.gp = gp
  win : WIn B E N q W x (u.took N k)
  phE : ph ∈ E
  xs : ∀ b, b ∈ hdB f → b ∈ E
  ps : ∀ p, p ∈ P → p ∈ E
  H : HAt W ph f
  sc : SC N u f S W
  bw : Bw B P w0 W
theorem TA.take {B : Nat} {P : List Nat} {N x : Nat} {u : WM} {nb : Nat} {gp : Nat → Nat} {ph : Nat} {f : Nat → Hd} {S : Nat} {w0 W : World} {k : Nat} {E : List Nat} {q : WP} (h : TA B P N x u nb gp ph f S w0 k E q W) (ok : WOk N u) (hg : ∀ j, j < N → bytesL (u.bs N j) ∧ (u.bs N j).length ≤ 16) (hk : k < N) :
    Calls Tryz.prog 36 #[.pointer (some ⟨gp k, 0, none⟩), .agg #[.int .i64 (f k).A, .int .i64 (f k).B, (f k).X, (f k).Y, .int .i64 (f k).o]] W fun e w' => ∃ q', e = .returned (.tuple #[]) ∧ TA B P N x u nb gp ph f S w0 (k + 1) E q' w' := by
  have hn := h.win.nd k hk
  rw [u.took_at hk, h.gp] at hn
  obtain ⟨e1, e2, e3⟩ := h.sc.eq k hk
  obtain ⟨o1, o2⟩ := h.sc.own k hk
  rw [e1, e2, e3]
  have hby : bytesL (u.hear N k).x ∧ bytesL (u.hear N k).y := by
    unfold WM.hear WM.heard
    rcases WM.who_range ok with e | ⟨j, e, hj, -⟩
    · rw [e]; simp only [show ((-1 : Int) < 0) from by omega, if_true]; exact ⟨fun x hx => (by cases hx), fun x hx => (by cases hx)⟩
    · rw [e]; simp only [show ¬ (((j : Nat) : Int) < 0) from by omega, if_false, Int.toNat_natCast]; exact ⟨(hg j hj).1, (hg j hj).1⟩
  have hof : -1099511627776 ≤ (u.hear N k).o ∧ (u.hear N k).o ≤ 1099511627776 := by
    have a1 := WM.when_bd ok
    have a2 := WM.at_bd ok k
    unfold WM.hear
    split
    · show -1099511627776 ≤ (0 : Int) ∧ (0 : Int) ≤ 1099511627776; omega
    · show -1099511627776 ≤ u.when_ N - u.at_ N k ∧ u.when_ N - u.at_ N k ≤ 1099511627776; omega
  obtain ⟨y1, y2⟩ := ok.ty k hk
  have ytm := ok.tm k hk
  refine (nodeApi.take (u.hear N k) hn o1.sees hby.1 o2.sees hby.2 y1 y2 (by omega) hof).mono ?_
  rintro _ w' ⟨F', rfl, hn', he⟩
  have hw := h.win.eff hk (by rw [h.gp]; exact hn') he
  rw [WM.took_step] at hw
  have hold : ∀ b, b ∈ E → w'.heap[b]? = W.heap[b]? := fun b hb => he.1.block b (h.win.out b hb).1 (h.win.own k hk b (.inr (.inr (.inr hb))))
  exact ⟨{ q with F := upd' q.F k F' }, rfl, h.nb, h.gp, hw, h.phE, h.xs, h.ps, h.H.same (hold _ h.phE), h.sc.keep fun b hb => hold b (h.xs b hb), h.bw.trans ((h.win.bw_eff hk he).less h.ps)⟩
theorem Bw.ofBelow {B : Nat} {P : List Nat} {a b : World} (h : Below a.heap.size a b) (hB : B ≤ a.heap.size) (hP : ∀ p, p ∈ P → p < a.heap.size) : Bw B P a b := Bw.of h hB hP
theorem Bw.drewB {B : Nat} {P : List Nat} (a : World) : Bw B P a a.drew := ⟨(Below.refl _ _).drew, fun _ _ => rfl⟩
theorem Bw.box {B x : Nat} {P : List Nat} (a : World) (o : Obj) (h1 : B ≤ x) (h2 : x < a.heap.size) (hP : ∀ p, p ∈ P → p < a.heap.size) : Bw B P a (a.alloc o).drew := Bw.of (((Below.refl a.heap.size a).alloc (Nat.le_refl _) o).drew) (by omega) hP
/-- What was heard lies in a block made behind the slot. -/
theorem TA.behind {B : Nat} {P E : List Nat} {N x : Nat} {u : WM} {q : WP} {f : Nat → Hd} {S : Nat} {w0 w5 : World} (hw : WIn B (hdB f ++ E) N q w5 x (u.took N 0)) (sc : SC N u f S w5) (hP : ∀ p, p ∈ P → p ∈ E) (bw : Bw B P w0 w5) :
    TA B P N x u q.nb q.gp w5.heap.size f S w0 0 (w5.heap.size :: (hdB f ++ E)) q ((w5.alloc (.cells (hdC fun _ => hdz) 189)).setCells w5.heap.size 0 (hdC f).toList) := by
  obtain ⟨hH, hB⟩ := hear_lies w5 w5.heap.size rfl f 189
  have hl := hw.lt
  have hbs := hw.bas
  refine ⟨rfl, rfl, (hw.box (.cells (hdC fun _ => hdz) 189)).only (.inl (by simp)) (Only.setCells _ 0 (Only.refl _ _)), by simp, fun b hb => by simp [hb], fun p hp => by simp [hP p hp], hH, sc.keep fun b hb => hB.block b (hw.out b (by simp [hb])).1, bw.trans (Bw.ofBelow hB (by omega) fun p hp => (hw.out p (by simp [hP p hp])).1)⟩
/-- It lies in a block made ahead of it. -/
theorem TA.ahead {B : Nat} {P E : List Nat} {N x : Nat} {u : WM} {q : WP} {f : Nat → Hd} {S ph : Nat} {w0 w5 : World} (hw : WIn B (hdB f ++ E) N q w5 x (u.took N 0)) (sc : SC N u f S w5) (hph : ph ∈ E) (hS : ph < S) (hP : ∀ p, p ∈ P → p ∈ E ∧ p ≠ ph) (hB : B ≤ ph) (bw : Bw B P w0 w5) (ht : w5.there ph 0 (hdC f).size) :
    TA B P N x u q.nb q.gp ph f S w0 0 (hdB f ++ E) q (w5.setCells ph 0 (hdC f).toList) := by
  have o : Only ph w5 (w5.setCells ph 0 (hdC f).toList) := Only.setCells _ 0 (Only.refl _ _)
  refine ⟨rfl, rfl, hw.only (.inl (by simp [hph])) o, by simp [hph], fun b hb => by simp [hb], fun p hp => by simp [(hP p hp).1], World.rangeAt_setCells_same _ _ _ _ (by rw [Array.length_toList]; exact ht), sc.keep fun b hb => o.block b (hw.out b (by simp [hb])).1 (fun e => ?_), bw.trans (Bw.ofOnly o hB (hw.out ph (by simp [hph])).1 fun r hr => ⟨(hw.out r (by simp [(hP r hr).1])).1, (hP r hr).2⟩)⟩
  cases e
  obtain ⟨i, hi, hm⟩ := hdB_mem.1 hb
  obtain ⟨⟨l, o1⟩, l', o2⟩ := sc.all i hi
  rcases hm with hm | hm
  · have := (o1.lt _ hm).1; omega
  · have := (o2.lt _ hm).1; omega
end Go.Proofs.YtpdenmcacaajkaaGreat
