/- AuditFew holds: faults that stand too near one another are not fair, far apart they are. For all arguments. -/
import Derived.Test.YtkaeikjfegjpjaaAB10
namespace Go.Proofs.Ytkaeikjfegjpjaa
open Go.ChangeShapes Go.WideShapes Go.ChangeAt Go.RowKit
open Tb (D T)

def aF (k : Int) (fb : Nat) : AcV := ⟨⟨5, 0, 0, [], [⟨k, 1, 0, []⟩]⟩, .slice none 0 0, .slice (some ⟨fb, 0, none⟩) 1 1⟩
def aL (k : Int) (fb q : Nat) : List AcV := aF k fb :: (List.replicate q [acZ 5, acZ 3]).flatten
theorem aL_length (k : Int) (fb q : Nat) : (aL k fb q).length = 1 + 2 * q := by
  simp [aL]
  omega
theorem aL_succ (k : Int) (fb q : Nat) : aL k fb (q + 1) = aL k fb q ++ [acZ 5, acZ 3] := by
  simp [aL, List.replicate_succ']
/-- The acts themselves. -/
def xF (k : Int) : Ac := ⟨5, 0, 0, [], [⟨k, 1, 0, []⟩]⟩
def xL (k : Int) (q : Nat) : List Ac := xF k :: (List.replicate q [⟨5, 0, 0, [], []⟩, ⟨3, 0, 0, [], []⟩]).flatten
theorem aL_x (k : Int) (fb q : Nat) : (aL k fb q).map AcV.x = xL k q := by
  unfold aL xL
  rw [List.map_cons, List.map_flatten, List.map_replicate]
  rfl
theorem few_fold (r : Nat) (q c : Nat) : ((List.replicate q ([⟨5, 0, 0, [], []⟩, ⟨3, 0, 0, [], []⟩] : List Ac)).flatten).foldl (auStep r 10) (some c) = some (c + q) := by
  induction q generalizing c with
  | zero => rfl
  | succ q ih =>
    rw [List.replicate_succ, List.flatten_cons, List.foldl_append]
    show List.foldl (auStep r 10) (some (c + 1)) _ = _
    rw [ih]
    congr 1
    omega
theorem few_one (k : Int) (hk : 1 ≤ k ∧ k ≤ 5) : fsFair 10 [⟨k, 1, 0, []⟩] = true := by
  have e : fsFair 10 [⟨k, 1, 0, []⟩] = ftFair 10 ⟨k, 1, 0, []⟩ := by simp [fsFair]
  rw [e, ftFair_iff]
  have m : Ft.may ⟨k, 1, 0, []⟩ = true ↔ _ := ftMay_iff k 1 0 0
  rw [m]
  simp only
  refine ⟨⟨by omega, by omega, by omega, ?_, by omega, by omega, by omega⟩, fun _ => (by first | trivial | rfl), fun h => by omega⟩
  split <;> omega
theorem few_fair (n : Nat) (k : Int) (q : Nat) (h4 : 4 ≤ n) (h8 : n ≤ 8) (hk : 1 ≤ k ∧ k ≤ 5) : auFair (gsmT n 1) (xL k q) = true ∧ auFair (gsmT n 1) (xL k q ++ [xF k]) = decide (3 * n ≤ q) := by
  have hi := some_is n 1 h4 h8 (by omega)
  have hn : (gsmT n 1).ns.length = n := gsmL_length n
  have h1 : auStep (3 * n) 10 (some (3 * n)) (xF k) = some 0 := by
    show (if (5 : Int) = 3 ∨ (5 : Int) = 4 then some (3 * n) else if (5 : Int) ≠ 5 then none else if 1 = 0 then some (3 * n + 1) else if 3 * n < 3 * n ∨ fsFair 10 [⟨k, 1, 0, []⟩] = false then none else some 0) = some 0
    rw [few_one k hk]
    simp
  have h2 : auAt (3 * n) 10 (xL k q) (xL k q).length = some q := by
    unfold auAt
    rw [List.take_length]
    unfold xL
    rw [List.foldl_cons, h1, few_fold, Nat.zero_add]
  constructor
  · unfold auFair
    rw [hi, hn]
    show (true && (auAt (3 * n) 10 (xL k q) (xL k q).length).isSome) = true
    rw [h2]
    rfl
  · unfold auFair
    rw [hi, hn]
    show (true && (auAt (3 * n) 10 (xL k q ++ [xF k]) (xL k q ++ [xF k]).length).isSome) = _
    unfold auAt
    unfold auAt at h2
    rw [List.take_length] at h2 ⊢
    rw [List.foldl_append, h2]
    show (true && (if (5 : Int) = 3 ∨ (5 : Int) = 4 then some q else if (5 : Int) ≠ 5 then none else if 1 = 0 then some (q + 1) else if q < 3 * n ∨ fsFair 10 [⟨k, 1, 0, []⟩] = false then none else some 0).isSome) = _
    rw [few_one k hk]
    by_cases h : q < 3 * n
    · rw [decide_eq_false (by omega)]; simp [h]
    · rw [decide_eq_true (by omega)]; simp [h]
/-- What holds through the law's last line: the list, the act f, its fault. -/
structure FewG (k : Int) (q b : Nat) (g cap : Nat) (w0 W : World) : Prop where
  own : ∀ j u, ((aL k b q).flatMap acc)[j]? = some u → W.cell? ⟨g, j, none⟩ = some u
  glt : g < W.heap.size
  gne : b < g
  act : Blk W (b + 1) #[.int .i64 5, .int .i64 0, .int .i64 0, .slice none 0 0, .slice (some ⟨b, 0, none⟩) 1 1] 35
  flt : Blk W b #[.int .i64 k, .int .i64 1, .int .i64 0, .slice none 0 0] 32
  bel : Below b w0 W
  len : 1 + 2 * q ≤ cap ∧ cap ≤ maxLen
theorem FewG.below {k : Int} {q b g cap : Nat} {w0 W W' : World} (h : FewG k q b g cap w0 W) (hb : Below W.heap.size W W') : FewG k q b g cap w0 W' :=
  ⟨fun j u hj => (hb.cell (p := ⟨g, j, none⟩) h.glt).trans (h.own j u hj), Nat.lt_of_lt_of_le h.glt hb.size, h.gne, h.act.below hb h.act.lt, h.flt.below hb h.flt.lt, h.bel.trans (hb.mono (Nat.le_of_lt h.flt.lt)), h.len⟩
theorem FewG.see {k : Int} {q b g cap : Nat} {w0 W : World} (h : FewG k q b g cap w0 W) : SeesAc W W.heap.size (.slice (some ⟨g, 0, none⟩) (1 + 2 * q) cap) (xL k q) := by
  rw [← aL_x k b q]
  have hok : ∀ i, i < (aL k b q).length → AcOk W W.heap.size ((aL k b q).getD i default) := acs_ok (fun y hy => by
    unfold aL at hy
    rcases List.mem_cons.1 hy with rfl | hy
    · exact ⟨SeesL.nil, SeesF.ofBlk h.flt ⟨k, 1, 0, []⟩ rfl rfl rfl rfl SeesL.nil bytesL_nil, bytesL_nil⟩
    · obtain ⟨l, hl, hy⟩ := List.mem_flatten.1 hy
      rw [List.eq_of_mem_replicate hl] at hy
      simp only [List.mem_cons, List.not_mem_nil, or_false] at hy
      rcases hy with rfl | rfl <;> exact acZ_ok _ _ _)
  have hlen : ((aL k b q).map AcV.x).length = 1 + 2 * q := by rw [List.length_map, aL_length]
  have hg : ∀ i, i < 1 + 2 * q → ((aL k b q).map AcV.x).getD i default = ((aL k b q).getD i default).x := fun i hi => by
    have : i < (aL k b q).length := by rw [aL_length]; exact hi
    simp [List.getD_eq_getElem?_getD, this]
  refine ⟨⟨_, cap, by rw [hlen], by rw [hlen]; exact h.len.1, h.len.2, fun _ => ⟨g, 0, rfl, h.glt, fun i hi => ?_⟩⟩, fun x hx => ?_⟩
  · rw [hlen] at hi
    have hi' : i < (aL k b q).length := by rw [aL_length]; exact hi
    obtain ⟨a1, a2, -⟩ := hok i hi'
    rw [hg i hi, Nat.zero_add]
    have e := fun j hj u hu => h.own (i * 5 + j) u ((accs_getD _ i hi' j hj).trans hu)
    exact ⟨by have := e 0 (by omega) _ rfl; rw [Nat.add_zero] at this; exact this, e 1 (by omega) _ rfl, e 2 (by omega) _ rfl, ⟨_, e 3 (by omega) _ rfl, a1⟩, _, e 4 (by omega) _ rfl, a2⟩
  · obtain ⟨y, hy, rfl⟩ := List.mem_map.1 hx
    obtain ⟨i, hi, rfl⟩ := List.getElem_of_mem hy
    have := (hok i hi).2.2
    rwa [show (aL k b q).getD i default = (aL k b q)[i] by simp [List.getD_eq_getElem?_getD, hi]] at this
theorem FewG.push {k : Int} {q b g cap : Nat} {w0 W W' : World} {v' : Value} {n : Nat} (h : FewG k q b g cap w0 W) (hx : Ext W W' (.slice (some ⟨g, 0, none⟩) n cap) v') (hb1 : b + 1 < g) (hk : ∀ j u, ((aL k b q).flatMap acc)[j]? = some u → W'.cell? ⟨g, j, none⟩ = some u) : FewG k q b g cap w0 W' :=
  ⟨hk, Nat.lt_of_lt_of_le h.glt hx.size, h.gne, h.act.ext hx (by simp [Value.ownBlock]; omega), h.flt.ext hx (by simp [Value.ownBlock]; omega), h.bel.trans (hx.toBelow (Nat.le_of_lt h.flt.lt) (fun j hj => by simp [Value.ownBlock] at hj; omega)), h.len⟩
theorem FewG.more {k : Int} {q b g cap : Nat} {w0 W : World} {v : Value} {B : Nat} (h : FewG k q b g cap w0 W) (ho : W.ownsRow B 35 5 v (1 + 2 * q + 1) ((aL k b q).flatMap acc ++ acc (aF k b))) : SeesAc W W.heap.size v (xL k q ++ [xF k]) := by
  have ho' : OwnsAc W B v (aL k b q ++ [aF k b]) := OwnsAc.joined (by rw [aL_length]; simpa using ho)
  have := ho'.sees (acs_ok (fun y hy => by
    have hone : AcOk W W.heap.size (aF k b) := ⟨SeesL.nil, SeesF.ofBlk h.flt ⟨k, 1, 0, []⟩ rfl rfl rfl rfl SeesL.nil bytesL_nil, bytesL_nil⟩
    rcases List.mem_append.1 hy with hy | hy
    · unfold aL at hy
      rcases List.mem_cons.1 hy with rfl | hy
      · exact hone
      · obtain ⟨l, hl, hy⟩ := List.mem_flatten.1 hy
        rw [List.eq_of_mem_replicate hl] at hy
        simp only [List.mem_cons, List.not_mem_nil, or_false] at hy
        rcases hy with rfl | rfl <;> exact acZ_ok _ _ _
    · rw [List.mem_singleton.1 hy]; exact hone))
  rwa [List.map_append, aL_x] at this
theorem Blk.src {W : World} {p : Nat} {y : AcV} {t : TypeId} (h : Blk W p (acc y).toArray t) (j : Nat) (u : Value) (hj : (acc y)[j]? = some u) : W.cell? ((⟨p, 0, none⟩ : Addr).add j) = some u := by
  have := h.cell j (x := u) (by simpa using hj)
  by_cases h0 : j = 0
  · subst h0; simpa [Addr.add] using this
  · simpa [Addr.add, h0] using this
theorem OwnsD.ext {w w' : World} {B : Nat} {v u u' : Value} {l : List D} (h : OwnsD w B v l) (hx : Ext w w' u u') (hu : ∀ j, u.ownBlock = some j → j < B) : OwnsD w' B v l :=
  World.ownsRow.kept (row := u.ownBlock) h hx.grown (by
    by_cases e : v.ownBlock = none
    · exact .inl e
    · refine .inr fun h2 => ?_
      obtain ⟨j, hj⟩ := Option.ne_none_iff_exists'.1 e
      have := (h.lt j hj).1
      have := hu j (h2 ▸ hj)
      omega)
set_option maxRecDepth 100000 in
set_option maxHeartbeats 4000000 in
theorem core_auditFew (n q k : Int) (w : World) :
    Calls Try.prog 4 #[.int .i64 n, .int .i64 q, .int .i64 k] w fun e w' => e = .returned (.bool true) ∧ Below w.heap.size w w' := by
  by_cases call : 4 ≤ n ∧ n ≤ 8 ∧ 0 ≤ q ∧ q ≤ 40 ∧ 1 ≤ k ∧ k ≤ 5
  case neg =>
    go_enter Try.func4, Try.ntmps4
    go_wp2
    all_goals first
      | (exfalso; omega)
      | (go_ret; exact ⟨rfl, Below.refl _ _⟩)
      | skip
  obtain ⟨n4, n8, q0, q40, k1, k5⟩ := call
  obtain ⟨N, rfl⟩ : ∃ t : Nat, n = t := ⟨n.toNat, by omega⟩
  obtain ⟨M, rfl⟩ : ∃ t : Nat, q = t := ⟨q.toNat, by omega⟩
  have r1 : decide (((N : Nat) : Int) < 4) = false := decide_eq_false (by omega)
  have r2 : decide ((8 : Int) < ((N : Nat) : Int)) = false := decide_eq_false (by omega)
  have r3 : decide (((M : Nat) : Int) < 0) = false := decide_eq_false (by omega)
  have r4 : decide ((40 : Int) < ((M : Nat) : Int)) = false := decide_eq_false (by omega)
  have r5 : decide (k < (1 : Int)) = false := decide_eq_false (by omega)
  have r6 : decide ((5 : Int) < k) = false := decide_eq_false (by omega)
  obtain ⟨m1, m2⟩ := few_fair N k M (by omega) (by omega) ⟨k1, k5⟩
  go_enter Try.func4, Try.ntmps4
  go_wp2_with fail
  have hb3 := (((Below.refl w.heap.size w).alloc (Nat.le_refl _) (.cells #[.int .i64 k, .int .i64 1, .int .i64 0, .slice none 0 0] 32)).alloc (by simp) (.cells #[.int .i64 5, .int .i64 0, .int .i64 0, .slice none 0 0, .slice (some ⟨w.heap.size, 0, none⟩) 1 1] 35)).alloc (by simp; omega) (.cells #[.int .i64 5, .int .i64 0, .int .i64 0, .slice none 0 0, .slice (some ⟨w.heap.size, 0, none⟩) 1 1] 35)
  have f3 := ((Blk.new w w.heap.size rfl #[.int .i64 k, .int .i64 1, .int .i64 0, .slice none 0 0] 32).alloc (.cells #[.int .i64 5, .int .i64 0, .int .i64 0, .slice none 0 0, .slice (some ⟨w.heap.size, 0, none⟩) 1 1] 35)).alloc (.cells #[.int .i64 5, .int .i64 0, .int .i64 0, .slice none 0 0, .slice (some ⟨w.heap.size, 0, none⟩) 1 1] 35)
  have a3 := (Blk.new (w.alloc (.cells #[.int .i64 k, .int .i64 1, .int .i64 0, .slice none 0 0] 32)) (w.heap.size + 1) (by simp) #[.int .i64 5, .int .i64 0, .int .i64 0, .slice none 0 0, .slice (some ⟨w.heap.size, 0, none⟩) 1 1] 35).alloc (.cells #[.int .i64 5, .int .i64 0, .int .i64 0, .slice none 0 0, .slice (some ⟨w.heap.size, 0, none⟩) 1 1] 35)
  have l3 := Blk.new ((w.alloc (.cells #[.int .i64 k, .int .i64 1, .int .i64 0, .slice none 0 0] 32)).alloc (.cells #[.int .i64 5, .int .i64 0, .int .i64 0, .slice none 0 0, .slice (some ⟨w.heap.size, 0, none⟩) 1 1] 35)) (w.heap.size + 1 + 1) (by simp) #[.int .i64 5, .int .i64 0, .int .i64 0, .slice none 0 0, .slice (some ⟨w.heap.size, 0, none⟩) 1 1] 35
  have own3 : OwnsAc _ (w.heap.size + 1 + 1) (.slice (some ⟨w.heap.size + 1 + 1, 0, none⟩) 1 1) (aL k w.heap.size 0) := OwnsAc.blk (l := aL k w.heap.size 0) l3 (Nat.le_refl _) (by rw [aL_length]; unfold maxLen; omega)
  clear l3
  generalize ((w.alloc (.cells #[.int .i64 k, .int .i64 1, .int .i64 0, .slice none 0 0] 32)).alloc (.cells #[.int .i64 5, .int .i64 0, .int .i64 0, .slice none 0 0, .slice (some ⟨w.heap.size, 0, none⟩) 1 1] 35)).alloc (.cells #[.int .i64 5, .int .i64 0, .int .i64 0, .slice none 0 0, .slice (some ⟨w.heap.size, 0, none⟩) 1 1] 35) = w3 at *
  have own3 := Lib.hid own3
  go_loopw [8, 9] (fun v i wr => ∃ j : Nat, j ≤ M ∧ i = .int .i64 j ∧ OwnsAc wr (w.heap.size + 1 + 1) v (aL k w.heap.size j) ∧ Blk wr (w.heap.size + 1) #[.int .i64 5, .int .i64 0, .int .i64 0, .slice none 0 0, .slice (some ⟨w.heap.size, 0, none⟩) 1 1] 35 ∧ Blk wr w.heap.size #[.int .i64 k, .int .i64 1, .int .i64 0, .slice none 0 0] 32 ∧ Below w.heap.size w wr) (fun _ i _ => M - (intOf i).toNat)
  case atStart => exact ⟨0, by omega, rfl, own3.out, a3, f3, hb3⟩
  case round =>
    clear own3 a3 f3 hb3
    obtain ⟨j, hj, rfl, own, hA, hF, hB⟩ := hrel
    by_cases hlt : j < M
    · have q1 : decide ((j : Int) < (M : Nat)) = true := by simp; omega
      have hP := Blk.new wr wr.heap.size rfl #[.int .i64 5, .int .i64 0, .int .i64 0, .slice none 0 0, .slice none 0 0, .int .i64 3, .int .i64 0, .int .i64 0, .slice none 0 0, .slice none 0 0] 35
      have hsrc := Lib.hid (src_acs _ [acZ 5, acZ 3] _ 2 2 rfl hP (fun y hy => by
        simp only [List.mem_cons, List.not_mem_nil, or_false] at hy
        rcases hy with rfl | rfl <;> exact ⟨rfl, rfl⟩))
      have hroom : (aL k w.heap.size j).length + 2 ≤ maxLen ∧ ((aL k w.heap.size j).length + 2) * 72 ≤ 140737488355328 := by rw [aL_length]; exact ⟨by unfold maxLen; omega, by omega⟩
      have own1 := Lib.hid (own.alloc (.cells #[.int .i64 5, .int .i64 0, .int .i64 0, .slice none 0 0, .slice none 0 0, .int .i64 3, .int .i64 0, .int .i64 0, .slice none 0 0, .slice none 0 0] 35))
      have hA1 := Lib.hid (hA.alloc (.cells #[.int .i64 5, .int .i64 0, .int .i64 0, .slice none 0 0, .slice none 0 0, .int .i64 3, .int .i64 0, .int .i64 0, .slice none 0 0, .slice none 0 0] 35))
      have hF1 := Lib.hid (hF.alloc (.cells #[.int .i64 5, .int .i64 0, .int .i64 0, .slice none 0 0, .slice none 0 0, .int .i64 3, .int .i64 0, .int .i64 0, .slice none 0 0, .slice none 0 0] 35))
      have hB1 := Lib.hid (hB.alloc hB.size (.cells #[.int .i64 5, .int .i64 0, .int .i64 0, .slice none 0 0, .slice none 0 0, .int .i64 3, .int .i64 0, .int .i64 0, .slice none 0 0, .slice none 0 0] 35))
      have hsz : w.heap.size + 1 + 1 ≤ (wr.alloc (.cells #[.int .i64 5, .int .i64 0, .int .i64 0, .slice none 0 0, .slice none 0 0, .int .i64 3, .int .i64 0, .int .i64 0, .slice none 0 0, .slice none 0 0] 35)).heap.size := by have := hA.lt; simp; omega
      have hlt1 := own1.out.lt
      have hU := Lib.hid (aL_succ k w.heap.size j)
      clear hP own hA hF hB m1 m2
      go_wp2_with (at_builtin; go_loud (refine wpList_pushC _ rfl (.tmp 43) (.tmp 46) 25 rfl (w.heap.size + 1 + 1) 35 _ 5 72 info_act rfl (by omega) Try.underlying25 _ (aL k w.heap.size j).length _ own1.out rfl _ 2 _ rfl hsrc.out hsz hroom.1 hroom.2 ?_))
      intro v2 w2 ho2 hx2
      have own2 := OwnsAc.joined (l := aL k w.heap.size j) (m := [acZ 5, acZ 3]) ho2
      rw [← hU.out] at own2
      have hA2 := Lib.hid (hA1.out.ext hx2 (fun e => by have := (hlt1 _ e).1; omega))
      have hF2 := Lib.hid (hF1.out.ext hx2 (fun e => by have := (hlt1 _ e).1; omega))
      have hB2 := Lib.hid (hB1.out.trans (hx2.toBelow (B := w.heap.size) (by omega) (fun i hi => by have := (hlt1 i hi).1; omega)))
      have own2 := Lib.hid own2
      clear hA1 hF1 hB1 own1 hsrc hx2 ho2 hlt1
      go_wp2
      go_roundw
      case rel => exact ⟨j + 1, by omega, by go_num, own2.out, hA2.out, hF2.out, hB2.out⟩
      case measure => simp [intOf]; omega
    · obtain rfl : j = M := by omega
      have q1 : decide ((j : Int) < (j : Nat)) = false := by simp
      obtain ⟨g, c, rfl, hg1, hg2, hlc, hcm⟩ : ∃ g c, u8 = Value.slice (some ⟨g, 0, none⟩) (1 + 2 * j) c ∧ w.heap.size + 1 + 1 ≤ g ∧ g < wr.heap.size ∧ 1 + 2 * j ≤ c ∧ c ≤ maxLen := by
        rcases own.form with ⟨-, h⟩ | ⟨g, c, h1, h2, h3, h4, h5⟩
        · rw [aL_length] at h; omega
        · rw [aL_length] at h1 h4
          exact ⟨g, c, h1, h2, h3, h4, h5⟩
      have hG : FewG k j w.heap.size g c w wr := ⟨fun i u hi => by
        have := World.ownsRow.cells own (g := g) rfl i u hi
        by_cases h0 : i = 0
        · subst h0; simpa [Addr.add] using this
        · simpa [Addr.add, h0] using this, hg2, by omega, hA, hF, hB, ⟨hlc, hcm⟩⟩
      have hO : wr.ownsRow (w.heap.size + 1 + 1) 35 5 (.slice (some ⟨g, 0, none⟩) (1 + 2 * j) c) (1 + 2 * j) ((aL k w.heap.size j).flatMap acc) := by
        have : OwnsAc wr _ _ _ := own
        unfold OwnsAc at this
        rwa [aL_length] at this
      have hO0 := Lib.hid (show wr.drew.ownsRow _ _ _ _ _ _ from hO)
      have hO1 := Lib.hid (show (wr.alloc (.cells #[.int .i64 5, .int .i64 0, .int .i64 0, .slice none 0 0, .slice (some ⟨w.heap.size, 0, none⟩) 1 1] 35)).drew.ownsRow _ _ _ _ _ _ from World.ownsRow.alloc hO (.cells #[.int .i64 5, .int .i64 0, .int .i64 0, .slice none 0 0, .slice (some ⟨w.heap.size, 0, none⟩) 1 1] 35))
      have hG0 := Lib.hid (hG.below (Below.refl _ wr).drew)
      have hG1 := Lib.hid (hG.below ((Below.refl _ wr).alloc (Nat.le_refl _) (.cells #[.int .i64 5, .int .i64 0, .int .i64 0, .slice none 0 0, .slice (some ⟨w.heap.size, 0, none⟩) 1 1] 35)).drew)
      have hp1 := Lib.hid (Blk.new wr wr.heap.size rfl #[.int .i64 5, .int .i64 0, .int .i64 0, .slice none 0 0, .slice (some ⟨w.heap.size, 0, none⟩) 1 1] 35).drew
      have hroom : 1 + 2 * j + 1 ≤ maxLen ∧ (1 + 2 * j + 1) * 72 ≤ 140737488355328 := ⟨by unfold maxLen; omega, by omega⟩
      have hsm := fun W => Lib.hid (show Calls Try.prog 16 #[.int .i64 (N : Nat), .int .i64 1] W fun e w' => ∃ v, e = .returned (.agg #[v, .int .i64 1, .int .i64 10, .int .i64 13]) ∧ OwnsD w' W.heap.size v (gsmL N) ∧ Below W.heap.size W w' from some_au N 1 (by omega) (by omega) W)
      have hbd : (xL k j).length < 1000000 := by rw [← aL_x k 0 j, List.length_map, aL_length]; omega
      have key : ∀ r : Bool, decide (3 * N ≤ j) = r → decide ((3 * (N : Int)) ≤ (j : Nat)) = r := fun r h => by rw [← h, decide_eq_decide]; omega
      generalize hr : decide (3 * N ≤ j) = r at *
      have r58 := key r rfl
      have e1 : (r == r) = true := by cases r <;> rfl
      have hFa := fun W v u (h : SeesT W W.heap.size v (gsmL N)) (hu : SeesAc W W.heap.size u (xL k j ++ [xF k])) => Lib.hid (show Calls Try.prog 11 #[.agg #[v, .int .i64 1, .int .i64 10, .int .i64 13], u] W fun e w' => e = .returned (.bool r) ∧ Below W.heap.size W w' by
        have := Fair_au (gsmT N 1) v u (xL k j ++ [xF k]) W h hu (by rw [List.length_append, ← aL_x k 0 j, List.length_map, aL_length, List.length_singleton]; omega)
        rw [m2] at this
        exact this)
      have hFb := fun W v (h : SeesT W W.heap.size v (gsmL N)) (hu : SeesAc W W.heap.size (.slice (some ⟨g, 0, none⟩) (1 + 2 * j) c) (xL k j)) => Lib.hid (show Calls Try.prog 11 #[.agg #[v, .int .i64 1, .int .i64 10, .int .i64 13], .slice (some ⟨g, 0, none⟩) (1 + 2 * j) c] W fun e w' => e = .returned (.bool true) ∧ Below W.heap.size W w' by
        have := Fair_au (gsmT N 1) v _ (xL k j) W h hu hbd
        rw [m1] at this
        exact this)
      have hK := fun W => Lib.hid (known_au W)
      have z3 : IntKind.i64.wrap (3 * (N : Int)) = 3 * N := IntWalk.i64_in _ (by omega)
      have HS : ∀ W, FewG k j w.heap.size g c w W → W.cell? ⟨w.heap.size + 1, 0, none⟩ = some (.int .i64 5) ∧ W.cell? ⟨w.heap.size + 1, 1, none⟩ = some (.int .i64 0) ∧ W.cell? ⟨w.heap.size + 1, 2, none⟩ = some (.int .i64 0) ∧ W.cell? ⟨w.heap.size + 1, 3, none⟩ = some (.slice none 0 0) ∧ W.cell? ⟨w.heap.size + 1, 4, none⟩ = some (.slice (some ⟨w.heap.size, 0, none⟩) 1 1) := fun W h => ⟨h.act.cell 0 rfl, h.act.cell 1 rfl, h.act.cell 2 rfl, h.act.cell 3 rfl, h.act.cell 4 rfl⟩
      have HS := Lib.hid HS
      have hb1g : w.heap.size + 1 < g := by omega
      have hgw : ∀ (n cap : Nat) (jj : Nat), Value.ownBlock (.slice (some ⟨g, 0, none⟩) n cap) = some jj → jj < wr.heap.size := fun n cap jj h => by simp [Value.ownBlock] at h; omega
      have hgw := Lib.hid hgw
      clear own hA hF hB hG hO m1 m2 key hbd hr
      have S0 := HS.out _ hG0.out
      have hone := Lib.hid (show ∀ u ∈ acc (aF k w.heap.size), u.oneCell' = true by
        intro u hu
        simp only [acc, aF, List.mem_cons, List.not_mem_nil, or_false] at hu
        rcases hu with rfl | rfl | rfl | rfl | rfl <;> rfl)
      go_wp2_with fail
      go_region_held3 (fun W => W.cell? ⟨w.heap.size + 1, 0, none⟩ = some (.int .i64 5) ∧ W.cell? ⟨w.heap.size + 1, 1, none⟩ = some (.int .i64 0) ∧ W.cell? ⟨w.heap.size + 1, 2, none⟩ = some (.int .i64 0) ∧ W.cell? ⟨w.heap.size + 1, 3, none⟩ = some (.slice none 0 0) ∧ W.cell? ⟨w.heap.size + 1, 4, none⟩ = some (.slice (some ⟨w.heap.size, 0, none⟩) 1 1))
        (first | exact S0 | exact HS.out _ hG1.out | exact Ss | exact S2 | exact S3 | exact S5 | exact S6 | exact HS.out _ (hgs.out.below ((Below.refl _ _).alloc (Nat.le_refl _) _)))
        (first
          | (go_at_call 15; refine (hK _).out.mono ?_; rintro e w6 ⟨rfl, b6⟩; have hg6 := Lib.hid (hg5.out.below b6); have S6 := HS.out _ hg6.out)
          | (go_at_call 16; refine (hsm _).out.mono ?_; rintro e ws ⟨vs, rfl, hts, bs⟩; (first
              | (have hgs := Lib.hid (hg3.out.below bs); have hts := Lib.hid hts)
              | (have hgs := Lib.hid (hg2.out.below bs); have hvv := Lib.hid ((hv2.out.below bs).more bs.size); have hts := Lib.hid hts)
              | (have hgs := Lib.hid (hG1.out.below bs); have hoo := Lib.hid (World.ownsRow.kept (row := none) hO1.out ⟨bs.os, bs.tape, bs.output, bs.size, fun k hk _ => bs.block k hk⟩ (.inr (by simp [Value.ownBlock]))); have hpp := Lib.hid (hp1.out.below bs hp1.out.lt); have hts := Lib.hid (OwnsD.base (B := wr.heap.size) hts (by simp)))
              | (have hgs := Lib.hid (hG0.out.below bs); have hoo := Lib.hid (World.ownsRow.kept (row := none) hO0.out ⟨bs.os, bs.tape, bs.output, bs.size, fun k hk _ => bs.block k hk⟩ (.inr (by simp [Value.ownBlock]))); have hts := Lib.hid (OwnsD.base (B := wr.heap.size) hts (Nat.le_refl _)))); have Ss := HS.out _ hgs.out)
          | (go_at_call 11; (first
              | (with_reducible refine (hFb _ _ hts.out.sees hgs.out.see).out.mono ?_; rintro e w5 ⟨rfl, b5⟩; have hg5 := Lib.hid (hgs.out.below b5); have S5 := HS.out _ hg5.out)
              | (with_reducible refine (hFa _ _ _ hts.out.sees hvv.out).out.mono ?_; rintro e w3 ⟨rfl, b3⟩; have hg3 := Lib.hid (hgs.out.below b3); have S3 := HS.out _ hg3.out)
              | (refine (hFa _ _ _ ht2.out.sees hv2.out).out.mono ?_; rintro e w3 ⟨rfl, b3⟩; have hg3 := Lib.hid (hg2.out.below b3); have S3 := HS.out _ hg3.out)))
          | ((refine step_pushK _ rfl (.tmp 50) (.tmp 52) 25 rfl (w.heap.size + 1 + 1) 35 (.agg #[.int .i64 0, .int .i64 0, .int .i64 0, .slice none 0 0, .slice none 0 0]) 5 72 info_act rfl (by omega) Try.underlying25 g (1 + 2 * j) c ((aL k w.heap.size j).flatMap acc) ?_ rfl ⟨wr.heap.size, 0, none⟩ 1 1 (acc (aF k w.heap.size)) rfl rfl ?_ hone.out ?_ hroom.1 hroom.2 ?_); (focus (exact hO1.out)); (focus (exact Blk.src hp1.out)); (focus (have hq := (hG1.out).glt; omega)); intro v2 w2 ho2 hx2 hk2; have hg2 := Lib.hid ((hG1.out).push hx2 hb1g hk2); have hv2 := Lib.hid (hg2.out.more ho2); have S2 := HS.out _ hg2.out)
          | ((refine step_pushK _ rfl (.tmp 50) (.tmp 52) 25 rfl (w.heap.size + 1 + 1) 35 (.agg #[.int .i64 0, .int .i64 0, .int .i64 0, .slice none 0 0, .slice none 0 0]) 5 72 info_act rfl (by omega) Try.underlying25 g (1 + 2 * j) c ((aL k w.heap.size j).flatMap acc) ?_ rfl ⟨wr.heap.size, 0, none⟩ 1 1 (acc (aF k w.heap.size)) rfl rfl ?_ hone.out ?_ hroom.1 hroom.2 ?_); (focus (exact hoo.out)); (focus (exact Blk.src hpp.out)); (focus (have hq := (hgs.out).glt; omega)); intro v2 w2 ho2 hx2 hk2; have hg2 := Lib.hid ((hgs.out).push hx2 hb1g hk2); have ht2 := Lib.hid (OwnsD.ext hts.out hx2 (hgw.out _ _)); have hv2 := Lib.hid (hg2.out.more ho2); have S2 := HS.out _ hg2.out)
          | ((refine step_pushK _ rfl (.tmp 50) (.tmp 52) 25 rfl (w.heap.size + 1 + 1) 35 (.agg #[.int .i64 0, .int .i64 0, .int .i64 0, .slice none 0 0, .slice none 0 0]) 5 72 info_act rfl (by omega) Try.underlying25 g (1 + 2 * j) c ((aL k w.heap.size j).flatMap acc) ?_ rfl ⟨ws.heap.size, 0, none⟩ 1 1 (acc (aF k w.heap.size)) rfl rfl ?_ hone.out ?_ hroom.1 hroom.2 ?_); (focus (exact World.ownsRow.alloc hoo.out (.cells #[.int .i64 5, .int .i64 0, .int .i64 0, .slice none 0 0, .slice (some ⟨w.heap.size, 0, none⟩) 1 1] 35))); (focus (exact Blk.src (Blk.new ws _ rfl #[.int .i64 5, .int .i64 0, .int .i64 0, .slice none 0 0, .slice (some ⟨w.heap.size, 0, none⟩) 1 1] 35))); (focus (have hq := (hgs.out.below ((Below.refl _ _).alloc (Nat.le_refl _) (.cells #[.int .i64 5, .int .i64 0, .int .i64 0, .slice none 0 0, .slice (some ⟨w.heap.size, 0, none⟩) 1 1] 35))).glt; omega)); intro v2 w2 ho2 hx2 hk2; have hg2 := Lib.hid ((hgs.out.below ((Below.refl _ _).alloc (Nat.le_refl _) (.cells #[.int .i64 5, .int .i64 0, .int .i64 0, .slice none 0 0, .slice (some ⟨w.heap.size, 0, none⟩) 1 1] 35))).push hx2 hb1g hk2); have ht2 := Lib.hid (OwnsD.ext (hts.out.alloc (.cells #[.int .i64 5, .int .i64 0, .int .i64 0, .slice none 0 0, .slice (some ⟨w.heap.size, 0, none⟩) 1 1] 35)) hx2 (hgw.out _ _)); have hv2 := Lib.hid (hg2.out.more ho2); have S2 := HS.out _ hg2.out)
          | fail)
      all_goals
        go_wp2
        go_ret
        exact ⟨rfl, hg6.out.bel⟩
theorem walk_auditFew (n q k : Int) (w : World) (_h_n : -9223372036854775808 ≤ n ∧ n ≤ 9223372036854775807) (_h_q : -9223372036854775808 ≤ q ∧ q ≤ 9223372036854775807) (_h_k : -9223372036854775808 ≤ k ∧ k ≤ 9223372036854775807) :
    Calls Try.prog 4 #[.int .i64 n, .int .i64 q, .int .i64 k] w fun e w' => e = .returned (.bool true) ∧ Below w.heap.size w w' := core_auditFew n q k w

/-! ### THE ROW's STEP around the walk. -/
theorem own_auditFew : ownKnob Try.prog.godebug = none := by kernel_rfl
theorem laidOut_auditFew : laidOutB Try.prog = true := by kernel_rfl
set_option maxRecDepth 100000 in
theorem lifted_auditFew (os : Os) (started : os.Started) (H : Type) (enc : TypeId × Value → H) :
    ReturnsInHanded {} Try.checked os 4 .any (Rows.auditFewSpec.pre6 enc Try.prog Try.f4 Rows.auditFewRow.domain false) (Rows.auditFewSpec.post enc Try.prog Try.f4 false true false false) := by
  refine returnsInHanded_of_change (C := Try.checked) own_auditFew started (by kernel_rfl) Try.func4
    (ChangeSpec.witness6 (enc := enc) (C := Try.checked) false ⟨#[], #[.int .i64 0, .int .i64 0, .int .i64 0], []⟩ 8 (by kernel_rfl) (by kernel_rfl) (by kernel_rfl) (by kernel_rfl)) ?_
  intro W base args ds gs before hval0 hW hcnd _
  have hval : ∀ (j : Nat) t v, Try.f4.params[j]? = some t → args[j]? = some v → Value.okWide Try.prog W .any base t v := hval0
  have hW' := hW
  obtain ⟨p, q, hA0, hV, rfl, hfz, hnd⟩ := hW
  have hA : DataW.TrodAll enc Try.prog W 0 (fun _ => true) true Try.f4.params.toList args.toList ds p := hA0
  rw [Try.params4] at hA hval
  obtain ⟨v0, vs0, d0, ds0, p0, q0, hargs, rfl, rfl, h0, r0⟩ := trodAll_cons hA
  obtain ⟨v1, vs1, d1, ds1, p1, q1, rfl, rfl, rfl, h1, r1⟩ := trodAll_cons r0
  obtain ⟨v2, vs2, d2, ds2, p2, q2, rfl, rfl, rfl, h2, r2⟩ := trodAll_cons r1
  obtain ⟨rfl, rfl, rfl⟩ := trodAll_nil r2
  obtain rfl : args = #[v0, v1, v2] := by cases args; simp_all
  obtain ⟨rfl, rfl⟩ := trodVars_none hV
  obtain ⟨a0, rfl, rfl, rfl, w0⟩ := open_int Try.underlying3 (hval 0 3 v0 rfl rfl) h0
  obtain ⟨a1, rfl, rfl, rfl, w1⟩ := open_int Try.underlying3 (hval 1 3 v1 rfl rfl) h1
  obtain ⟨a2, rfl, rfl, rfl, w2⟩ := open_int Try.underlying3 (hval 2 3 v2 rfl rfl) h2
  clear hA0 hval0
  refine (walk_auditFew a0 a1 a2 W (bounds_i64 w0) (bounds_i64 w1) (bounds_i64 w2)).mono fun e W' ⟨he, bel⟩ => ?_
  subst he
  exact ⟨_, rfl, _, _, _, [], _, [], hW', trodAll_mk1 (shut_bool Try.underlying4 _), (trodAll_cons_mk (shut_int Try.underlying3 w0) (trodAll_cons_mk (shut_int Try.underlying3 w1) (trodAll_cons_mk (shut_int Try.underlying3 w2) trodAll_mk0))), rfl, bel.frame _, fun h => by cases h⟩

theorem over_auditFew : Rows.auditFewRow.holds Try.pinned (OpenSpec.ofChange Rows.auditFewSpec) :=
  OpenClaim.holds_of_wide 4 Try.f4 rfl rfl rfl rfl rfl rfl rfl ⟨rfl, rfl, rfl, rfl, rfl⟩ rfl rfl rfl rfl rfl (by kernel_rfl) Try.func4 (by kernel_rfl)
    (of_decide_eq_true (by kernel_rfl)) (by unfold Func.isWrapper; first | (rw [if_pos (by decide +kernel)]; kernel_rfl) | (rw [if_neg (by decide +kernel)]; exact ⟨rfl, rfl⟩))
    (fun os started H enc _ => lifted_auditFew os started H enc)

theorem proved_auditFew : Rows.AuditFewSaid := over_auditFew
end Go.Proofs.Ytkaeikjfegjpjaa
