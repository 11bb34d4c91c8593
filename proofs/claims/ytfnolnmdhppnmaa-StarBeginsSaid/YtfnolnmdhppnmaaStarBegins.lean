/- StarBegins holds: of several that begin at once one is heard, and both guardians know its slot. For all arguments. -/
import Derived.Deep.QuietTactic
import Derived.BigQuiet
import Derived.Test.YtfnolnmdhppnmaaSB32
namespace Go.Proofs.Ytfnolnmdhppnmaa
open Go.RowKit
open Tb (D T)
open Fr (St F)

/-- A cold frame of node i. -/
def coldF (i : Nat) : F := ⟨3, ⟨0, (i : Nat), (2 ^ i : Nat)⟩, []⟩
theorem coldF_is {i : Nat} (hi : i < 8) : (coldF i).is = true := by
  rcases (by omega : i = 0 ∨ i = 1 ∨ i = 2 ∨ i = 3 ∨ i = 4 ∨ i = 5 ∨ i = 6 ∨ i = 7) with rfl | rfl | rfl | rfl | rfl | rfl | rfl | rfl <;> decide
theorem coldF_ok {i : Nat} (hi : i < 8) : bytesL (coldF i).bytes := Fr.F.bytes_ok (coldF_is hi) (fun x hx => by cases hx)
theorem coldF_len {i : Nat} (hi : i < 8) : (coldF i).bytes.length ≤ 50 ∧ 0 < (coldF i).bytes.length := by
  rcases (by omega : i = 0 ∨ i = 1 ∨ i = 2 ∨ i = 3 ∨ i = 4 ∨ i = 5 ∨ i = 6 ∨ i = 7) with rfl | rfl | rfl | rfl | rfl | rfl | rfl | rfl <;> decide +kernel
theorem enc_cold {i : Nat} (hi : i < 8) (W : World) :
    Calls Try.prog 19 #[.agg #[.int .i64 3, .int .i64 0, .int .i64 (i : Nat), .int .i64 (2 ^ i : Nat), .slice none 0 0]] W fun e w' => ∃ v, e = .returned (.tuple #[v, .int .i64 0]) ∧ OwnsL w' W.heap.size v (coldF i).bytes ∧ Below W.heap.size W w' := by
  have h := encode_ref (coldF i) (.slice none 0 0) W SeesL.nil (fun x hx => by cases hx)
  unfold Enc at h
  rw [(encR_is (coldF_is hi)).1, (encR_is (coldF_is hi)).2] at h
  exact h
theorem tells_cold {i : Nat} (hi : i < 8) (n : Nat) : tells (coldF i).bytes n = decide (((i : Nat) : Int) < (n : Int)) ∧ (Fr.res (coldF i).bytes z0).st.s = (i : Nat) := by
  obtain ⟨h1, h2, h3⟩ := Fr.back (coldF_is hi) z0 z0_may
  have h4 : Fr.sumB (coldF i).bytes z0 = true := h3.2 (fun h => absurd h (by show ¬ (3 : Int) = 1; omega))
  have hr : Fr.res (coldF i).bytes z0 = coldF i := by
    unfold Fr.res
    rw [h1, h4, h2]
    simp only [Bool.and_self, if_true]
    rw [if_neg (show ¬ (coldF i).k = 1 by show ¬ (3 : Int) = 1; omega)]
  have he : Fr.err (coldF i).bytes z0 = 0 := by simp [Fr.err, h1, h4]
  unfold tells
  rw [hr, he]
  refine ⟨?_, rfl⟩
  have e1 : decide ((coldF i).k = 1) = false := decide_eq_false (show ¬ (3 : Int) = 1 by omega)
  rw [e1]
  simp only [decide_true, Bool.not_false, Bool.and_self, Bool.true_and]
  rfl
theorem ended_cold (s : G) (hkn : s.kn = false) (sl : Nat) (hsl : sl < s.n) (hn : s.n ≤ 8) (at_ : Int) : s.ended (coldF sl).bytes at_ = s.told sl at_ := by
  obtain ⟨h1, h2⟩ := tells_cold (i := sl) (by omega) s.n
  unfold G.ended
  rw [hkn]
  simp only [Bool.false_eq_true, if_false]
  unfold G.learnt
  rw [h1, h2, if_pos (by simp; omega)]
  unfold G.on G.told
  simp only [Int.toNat_natCast]
  by_cases e : sl + 1 = s.n
  · rw [if_pos e, e, termV_nil, Int.add_zero, Nat.mod_self]
  · rw [if_neg e, Nat.mod_eq_of_lt (by omega)]
/-- What of several that begin all hear: the first one's. -/
theorem slot_first (n k : Nat) (bs : Nat → List Int) (hk : k < n) (h4 : 4 ≤ n) (h8 : n ≤ 8) (hl : ∀ i, bytesL (bs i)) (h0 : 0 < (bs k).length) (hj : ∀ j, j < k → bs j = []) (g : Nat) (A : Nat → Option Addr) (c : Nat → Nat) (W : World) (hG : GsAt W g n (newG (someT n 1)) (newG (someT n 1)))
    (hv : ∀ i, i < 8 → SeesL W W.heap.size (.slice (A i) (bs i).length (c i)) (bs i)) :
    Calls Try.prog 14 #[.pointer (some ⟨g, 0, none⟩), s8 fun i => .slice (A i) (bs i).length (c i), ints8 fun _ => 0, .slice none 0 0] W fun e w' => ∃ f, e = .returned (.tuple #[.agg (hdC f), .int .i64 0]) ∧
      (∀ i, i < 8 → Hears w' W.heap.size (m0 n bs fun _ => 0) (rn (bs k)) (rq (bs k)) (rq (bs k)) (k : Nat) (fun _ => 0) i (f i)) ∧ GsAt w' g n ((newG (someT n 1)).ended (tl (rn (bs k)) (rq (bs k))) 0) ((newG (someT n 1)).ended (tl (rn (bs k)) (rq (bs k))) 0) ∧ Only g W w' := by
  have hS := slot_sr g n (newG (someT n 1)) A c bs (fun _ => 0) (.slice none 0 0) [] false (m0 n bs fun _ => 0) (k : Nat) W hG h8
      (fun i hi => ⟨hv i hi, hl i⟩) (fun i => by simp) SeesF.nil rfl (fun f hf => by cases hf) rfl rfl rfl
      (by
        unfold G.pass
        rw [show (newG (someT n 1)).kn = false from rfl]
        simp only [Bool.false_eq_true, if_false]
        refine fst_hit (k := k) (by show k < (someL n).length; rw [someL_length]; omega) ?_ (fun j hj' => ?_)
        · rw [sF_m0 n _ _ k hk]
          exact decide_eq_true h0
        · rw [sF_m0 n _ _ j (by omega), hj j hj']
          rfl)
      (.inr ⟨k, rfl, hk⟩) (by show (someL n).length ≤ 8; rw [someL_length]; exact h8) (by show 0 < 8; omega) (by unfold time newG; simp) (by show 0 ≤ (4 : Int) * 1 + 6 ∧ (4 : Int) * 1 + 6 ≤ _; omega)
      (by rw [show prV false (k : Int) = (k : Int) from rfl, whenV_m0 n _ _ k hk]; exact newG_ok n 1 h4 h8 (by omega) 0 (by omega))
  rw [show prV false (k : Int) = (k : Int) from rfl, hn_m0 n _ _ k hk, hq_m0 n _ _ k hk, whenV_m0 n _ _ k hk] at hS
  exact hS
/-- Nobody begins. -/
theorem slot_none (n : Nat) (bs : Nat → List Int) (h4 : 4 ≤ n) (h8 : n ≤ 8) (hl : ∀ i, bytesL (bs i)) (hj : ∀ j, j < n → bs j = []) (g : Nat) (A : Nat → Option Addr) (c : Nat → Nat) (W : World) (hG : GsAt W g n (newG (someT n 1)) (newG (someT n 1)))
    (hv : ∀ i, i < 8 → SeesL W W.heap.size (.slice (A i) (bs i).length (c i)) (bs i)) :
    Calls Try.prog 14 #[.pointer (some ⟨g, 0, none⟩), s8 fun i => .slice (A i) (bs i).length (c i), ints8 fun _ => 0, .slice none 0 0] W fun e w' => ∃ f r, e = .returned (.tuple #[.agg (hdC f), .int .i64 0]) ∧
      (∀ i, i < 8 → Hears w' W.heap.size (m0 n bs fun _ => 0) 0 r r (-1) (fun _ => 0) i (f i)) ∧ GsAt w' g n (newG (someT n 1)) (newG (someT n 1)) ∧ Only g W w' := by
  have hS := slot_sr g n (newG (someT n 1)) A c bs (fun _ => 0) (.slice none 0 0) [] false (m0 n bs fun _ => 0) (-1) W hG h8
      (fun i hi => ⟨hv i hi, hl i⟩) (fun i => by simp) SeesF.nil rfl (fun f hf => by cases hf) rfl rfl rfl
      (by
        unfold G.pass
        rw [show (newG (someT n 1)).kn = false from rfl]
        simp only [Bool.false_eq_true, if_false]
        refine fst_none (fun j hj' => ?_)
        have hj' : j < n := by rw [← someL_length n]; exact hj'
        rw [sF_m0 n _ _ j hj', hj j hj']
        rfl)
      (.inl rfl) (by show (someL n).length ≤ 8; rw [someL_length]; exact h8) (by show 0 < 8; omega) (by unfold time newG; simp) (by show 0 ≤ (4 : Int) * 1 + 6 ∧ (4 : Int) * 1 + 6 ≤ _; omega)
      (by rw [show prV false (-1 : Int) = (-1 : Int) from rfl, show whenV (m0 n bs fun _ => 0) (-1) = 0 from rfl]; exact newG_ok n 1 h4 h8 (by omega) 0 (by omega))
  rw [show prV false (-1 : Int) = (-1 : Int) from rfl, show hn (m0 n bs fun _ => 0) (-1) = 0 from rfl, show whenV (m0 n bs fun _ => 0) (-1) = 0 from rfl, tl_none, ended_not _ rfl (tells_short (by simp) _)] at hS
  refine hS.mono ?_
  rintro e w' ⟨f, rfl, hH, hG', hO⟩
  exact ⟨f, _, rfl, hH, hG', hO⟩
end Go.Proofs.Ytfnolnmdhppnmaa

namespace Go.Proofs.Ytfnolnmdhppnmaa
open Go.ChangeShapes Go.WideShapes Go.ChangeAt Go.RowKit
open Tb (D T)

/-- What all send, once it was looked at those from j on. -/
def bJ (f : Nat → Bool) (N j i : Nat) : List Int := if (j ≤ i ∧ i < N) ∧ f i = true then (coldF i).bytes else []
def sl8 (A : Nat → Option Addr) (c : Nat → Nat) (b : Nat → List Int) : Array Value := #[.slice (A 0) (b 0).length (c 0), .slice (A 1) (b 1).length (c 1), .slice (A 2) (b 2).length (c 2), .slice (A 3) (b 3).length (c 3), .slice (A 4) (b 4).length (c 4), .slice (A 5) (b 5).length (c 5), .slice (A 6) (b 6).length (c 6), .slice (A 7) (b 7).length (c 7)]
def put8 {α : Type} (g : Nat → α) (k : Nat) (x : α) (i : Nat) : α := if i = k then x else g i
theorem sl8_get (A : Nat → Option Addr) (c : Nat → Nat) (b : Nat → List Int) (k : Nat) (hk : k < 8) : (sl8 A c b)[k]? = some (.slice (A k) (b k).length (c k)) := by
  rcases (by omega : k = 0 ∨ k = 1 ∨ k = 2 ∨ k = 3 ∨ k = 4 ∨ k = 5 ∨ k = 6 ∨ k = 7) with rfl | rfl | rfl | rfl | rfl | rfl | rfl | rfl <;> rfl
theorem sl8_set (A : Nat → Option Addr) (c : Nat → Nat) (b : Nat → List Int) (k : Nat) (hk : k < 8) (A' : Option Addr) (c' : Nat) (l : List Int) : (sl8 A c b).setIfInBounds k (.slice A' l.length c') = sl8 (put8 A k A') (put8 c k c') (put8 b k l) := by
  rcases (by omega : k = 0 ∨ k = 1 ∨ k = 2 ∨ k = 3 ∨ k = 4 ∨ k = 5 ∨ k = 6 ∨ k = 7) with rfl | rfl | rfl | rfl | rfl | rfl | rfl | rfl <;> simp [sl8, put8]
theorem bJ_on (f : Nat → Bool) (N j : Nat) (hj : j < N) (hf : f j = true) : put8 (bJ f N (j + 1)) j (coldF j).bytes = bJ f N j := by
  funext i
  unfold put8 bJ
  by_cases e : i = j
  · subst e; rw [if_pos rfl, if_pos ⟨⟨Nat.le_refl _, hj⟩, hf⟩]
  · rw [if_neg e]
    by_cases h : (j ≤ i ∧ i < N) ∧ f i = true
    · rw [if_pos h, if_pos ⟨⟨by omega, h.1.2⟩, h.2⟩]
    · rw [if_neg h, if_neg (fun g => h ⟨⟨by omega, g.1.2⟩, g.2⟩)]
theorem bJ_off (f : Nat → Bool) (N j : Nat) (hf : f j = false) : bJ f N (j + 1) = bJ f N j := by
  funext i
  unfold bJ
  by_cases e : i = j
  · subst e; rw [if_neg (by omega), if_neg (by rw [hf]; simp)]
  · by_cases h : (j ≤ i ∧ i < N) ∧ f i = true
    · rw [if_pos h, if_pos ⟨⟨by omega, h.1.2⟩, h.2⟩]
    · rw [if_neg h, if_neg (fun g => h ⟨⟨by omega, g.1.2⟩, g.2⟩)]
theorem bJ_end (f : Nat → Bool) (N i : Nat) : bJ f N N i = [] := by unfold bJ; rw [if_neg (by omega)]
theorem bJ_ok (f : Nat → Bool) (N j i : Nat) (h8 : N ≤ 8) : bytesL (bJ f N j i) := by
  unfold bJ
  split
  · exact coldF_ok (by omega)
  · exact fun x hx => by cases hx
/-- The first of those from j on. -/
def isFst (f : Nat → Bool) (N j : Nat) (p : Int) : Prop := (p = -1 ∧ ∀ i, j ≤ i → i < N → f i = false) ∨ ∃ k : Nat, p = k ∧ j ≤ k ∧ k < N ∧ f k = true ∧ ∀ i, j ≤ i → i < k → f i = false
theorem isFst_on {f : Nat → Bool} {N j : Nat} (hj : j < N) (hf : f j = true) : isFst f N j (j : Nat) := .inr ⟨j, rfl, Nat.le_refl _, hj, hf, fun i h1 h2 => by omega⟩
theorem isFst_off {f : Nat → Bool} {N j : Nat} {p : Int} (h : isFst f N (j + 1) p) (hf : f j = false) : isFst f N j p := by
  rcases h with ⟨rfl, h⟩ | ⟨k, rfl, h1, h2, h3, h4⟩
  · exact .inl ⟨rfl, fun i h1 h2 => by
      by_cases e : i = j
      · subst e; exact hf
      · exact h i (by omega) h2⟩
  · exact .inr ⟨k, rfl, by omega, h2, h3, fun i g1 g2 => by
      by_cases e : i = j
      · subst e; exact hf
      · exact h4 i (by omega) g2⟩
theorem pow8 : ∀ I : Fin 8, wrap64 ((2 : Int) ^ I.val) = ((2 ^ I.val : Nat) : Int) := by decide +kernel
set_option maxRecDepth 100000 in
set_option maxHeartbeats 4000000 in
theorem core_starBegins (n : Int) (f : Nat → Bool) (w : World) :
    Calls Try.prog 9 #[.int .i64 n, bools8 f] w fun e w' => e = .returned (.bool true) ∧ Below w.heap.size w w' := by
  have X := Blk.new w w.heap.size rfl (b8 f) 49
  have hb0 := (Below.refl w.heap.size w).alloc (Nat.le_refl _) (.cells (b8 f) 49)
  unfold b8 at X hb0
  unfold bools8
  by_cases call : 4 ≤ n ∧ n ≤ 8
  case neg =>
    go_enter Try.func9, Try.ntmps9
    go_wp2
    all_goals first
      | (exfalso; omega)
      | (go_ret; exact ⟨rfl, hb0⟩)
      | skip
  obtain ⟨n4, n8⟩ := call
  obtain ⟨N, rfl⟩ : ∃ t : Nat, n = t := ⟨n.toNat, by omega⟩
  have q1 : decide (((N : Nat) : Int) < 4) = false := decide_eq_false (by omega)
  have q2 : decide ((8 : Int) < ((N : Nat) : Int)) = false := decide_eq_false (by omega)
  have hKn := fun W => Lib.hid (known_sr W)
  have hs := fun W => Lib.hid (show Calls Try.prog 16 #[.int .i64 (N : Nat), .int .i64 1] W fun e w' => ∃ v, e = .returned (.agg #[v, .int .i64 1, .int .i64 10, .int .i64 13]) ∧ OwnsD w' W.heap.size v (someL N) ∧ Below W.heap.size W w' from some_sr N 1 (by omega) (by omega) W)
  have hN := fun v W B (h : OwnsD W B v (someL N)) => Lib.hid (show Calls Try.prog 18 #[.agg #[v, .int .i64 1, .int .i64 10, .int .i64 13]] W fun e w' => ∃ g, e = .returned (.tuple #[.pointer (some ⟨g, 0, none⟩), .int .i64 0]) ∧ W.heap.size ≤ g ∧ GsAt w' g N (newG (someT N 1)) (newG (someT N 1)) ∧ Below W.heap.size W w' from by
    have := new_sr (someT N 1) v W h.sees (some_is N 1 (by omega) (by omega) (by omega))
    rw [show (someT N 1).ns.length = N from someL_length N] at this
    exact this)
  have hE := fun (i : Nat) (hi : i < 8) W => Lib.hid (enc_cold hi W)
  go_enter Try.func9, Try.ntmps9
  go_wp2_with fail
  generalize w.alloc (.cells #[.bool (f 0), .bool (f 1), .bool (f 2), .bool (f 3), .bool (f 4), .bool (f 5), .bool (f 6), .bool (f 7)] 49) = w0 at *
  refine (hs w0).out.mono ?_
  rintro e w1 ⟨v1, rfl, ho1, hb1⟩
  have X1 := X.below hb1 X.lt
  have hb01 := hb0.trans (hb1.mono hb0.size)
  go_wp2_with fail
  refine (hN v1 w1 _ ho1).out.mono ?_
  rintro e w2 ⟨g, rfl, hg, hG, hb2⟩
  have X2 := X1.below hb2 X1.lt
  have hb02 := hb01.trans (hb2.mono hb01.size)
  have hXg : w.heap.size < w1.heap.size := X1.lt
  have hgl := hG.lt
  have hgw := hb01.size
  clear hs hN hb0 hb1 hb01 X X1 ho1 hb2
  have Y := Blk.new w2 w2.heap.size rfl (sl8 (fun _ => none) (fun _ => 0) (bJ f N N)) 31
  rw [show sl8 (fun _ => none) (fun _ => 0) (bJ f N N) = #[.slice none 0 0, .slice none 0 0, .slice none 0 0, .slice none 0 0, .slice none 0 0, .slice none 0 0, .slice none 0 0, .slice none 0 0] by simp [sl8, bJ_end]] at Y
  have hbY := (Below.refl w2.heap.size w2).alloc (Nat.le_refl _) (.cells #[.slice none 0 0, .slice none 0 0, .slice none 0 0, .slice none 0 0, .slice none 0 0, .slice none 0 0, .slice none 0 0, .slice none 0 0] 31)
  have X3 := X2.below hbY X2.lt
  have hG3 := hG.below hbY hG.lt
  have hb03 := hb02.trans (hbY.mono hb02.size)
  have hzY : (w2.alloc (.cells #[.slice none 0 0, .slice none 0 0, .slice none 0 0, .slice none 0 0, .slice none 0 0, .slice none 0 0, .slice none 0 0, .slice none 0 0] 31)).heap.size = w2.heap.size + 1 := by simp
  have h1 : IntKind.i64.wrap ((N : Int) - 1) = (N : Int) - 1 := IntWalk.i64_in _ (by omega)
  clear hbY X2 hG hb02
  go_wp2_with fail
  generalize w2.alloc (.cells #[.slice none 0 0, .slice none 0 0, .slice none 0 0, .slice none 0 0, .slice none 0 0, .slice none 0 0, .slice none 0 0, .slice none 0 0] 31) = w3 at *
  go_loopw [8, 9] (fun p i wr => ∃ (j : Nat) (q : Int) (A : Nat → Option Addr) (c : Nat → Nat), j ≤ N ∧ i = .int .i64 ((j : Int) - 1) ∧ p = .int .i64 q ∧ isFst f N j q ∧ Blk wr w2.heap.size (sl8 A c (bJ f N j)) 31 ∧ (∀ i, i < 8 → OwnsL wr (w2.heap.size + 1) (.slice (A i) (bJ f N j i).length (c i)) (bJ f N j i)) ∧ Only w2.heap.size w3 wr) (fun _ i _ => (intOf i + 1).toNat)
  case atStart =>
    refine ⟨N, -1, fun _ => none, fun _ => 0, Nat.le_refl _, rfl, rfl, .inl ⟨rfl, fun i h1 h2 => by omega⟩, ?_, fun i hi => ?_, Only.refl _ _⟩
    · rw [show sl8 (fun _ => none) (fun _ => 0) (bJ f N N) = #[.slice none 0 0, .slice none 0 0, .slice none 0 0, .slice none 0 0, .slice none 0 0, .slice none 0 0, .slice none 0 0, .slice none 0 0] by simp [sl8, bJ_end]]
      exact Y
    · rw [bJ_end]; exact OwnsL.nil
  case round =>
    clear Y
    obtain ⟨j, q, A, c, hj, rfl, rfl, hf, Y, hO, hOn⟩ := hrel
    by_cases hlt : 0 < j
    · obtain ⟨j, rfl⟩ : ∃ k, j = k + 1 := ⟨j - 1, by omega⟩
      have ej : (((j + 1 : Nat) : Int) - 1) = (j : Int) := by omega
      rw [ej]
      have r1 : decide ((0 : Int) ≤ (j : Int)) = true := decide_eq_true (by omega)
      have i8 : (j : Int) < 8 := by omega
      have z1 : IntKind.i64.wrap ((j : Int) - 1) = (j : Int) - 1 := IntWalk.i64_in _ (by omega)
      have x0 := (X3.only hOn (by omega)).cell j (b8_get f j (by omega))
      cases hfj : f j
      · rw [hfj] at x0
        have hf' := isFst_off hf hfj
        rw [bJ_off f N j hfj] at Y
        simp only [bJ_off f N j hfj] at hO
        have hO := Lib.hid hO
        go_wp2_with fail
        go_roundw
        case rel => exact ⟨j, q, A, c, by omega, rfl, rfl, hf', Y, hO.out, hOn⟩
        case measure => simp [intOf]
      · rw [hfj] at x0
        have hEj := hE j (by omega) wr
        clear hE
        have ew : wrap64 (2 ^ j) = ((2 ^ j : Nat) : Int) := pow8 ⟨j, by omega⟩
        rw [← ew] at hEj
        clear ew
        have hf' := isFst_on (N := N) (by omega) hfj
        have bon := bJ_on f N j (by omega) hfj
        have hO := Lib.hid hO
        have hgY := Y.lt
        go_wp2_with fail
        refine hEj.out.mono ?_
        rintro e w4 ⟨v, rfl, ho, hb4⟩
        obtain ⟨Av, cv, rfl, -⟩ := ho.sees.at_
        have Y4 := Y.below hb4 hgY
        have y0 := Y4.cell j (sl8_get A c (bJ f N (j + 1)) j (by omega))
        have f0 := Y4.frozen j
        have hS5 : Only w2.heap.size w4 (w4.setCell ⟨w2.heap.size, j, none⟩ (.slice Av (coldF j).bytes.length cv)) := (Only.refl _ _).set j _
        have Y5 := Lib.hid ((Y4.set j (.slice Av (coldF j).bytes.length cv)).eq (sl8_set A c (bJ f N (j + 1)) j (by omega) Av cv (coldF j).bytes))
        rw [bon] at Y5
        have hO5 : Hid (∀ i, i < 8 → OwnsL (w4.setCell ⟨w2.heap.size, j, none⟩ (.slice Av (coldF j).bytes.length cv)) (w2.heap.size + 1) (.slice (put8 A j Av i) (bJ f N j i).length (put8 c j cv i)) (bJ f N j i)) := Lib.hid fun i hi => by
          rw [← bon]
          by_cases e : i = j
          · subst e
            simp only [put8, if_true]
            exact (ho.base hgY).only hS5 (Nat.lt_succ_self _)
          · simp only [put8, if_neg e]
            exact ((hO.out i hi).below hb4 (Nat.le_refl _)).only hS5 (Nat.lt_succ_self _)
        have hOn5 := Lib.hid ((hOn.trans (only_of_below _ hb4)).trans hS5)
        clear Y4 Y hS5 hO hOn hb4 ho bon
        go_wp2_with fail
        go_roundw
        case rel => exact ⟨j, (j : Nat), _, _, by omega, rfl, rfl, hf', Y5.out, hO5.out, hOn5.out⟩
        case measure => simp [intOf]
    · obtain rfl : j = 0 := by omega
      have r1 : decide ((0 : Int) ≤ ((0 : Nat) : Int) - 1) = false := rfl
      have y0 := Y.cell 0 (x := .slice (A 0) (bJ f N 0 0).length (c 0)) rfl
      have y1 := Y.cell 1 (x := .slice (A 1) (bJ f N 0 1).length (c 1)) rfl
      have y2 := Y.cell 2 (x := .slice (A 2) (bJ f N 0 2).length (c 2)) rfl
      have y3 := Y.cell 3 (x := .slice (A 3) (bJ f N 0 3).length (c 3)) rfl
      have y4 := Y.cell 4 (x := .slice (A 4) (bJ f N 0 4).length (c 4)) rfl
      have y5 := Y.cell 5 (x := .slice (A 5) (bJ f N 0 5).length (c 5)) rfl
      have y6 := Y.cell 6 (x := .slice (A 6) (bJ f N 0 6).length (c 6)) rfl
      have y7 := Y.cell 7 (x := .slice (A 7) (bJ f N 0 7).length (c 7)) rfl
      have hGr : GsAt wr g N (newG (someT N 1)) (newG (someT N 1)) := ⟨hG3.1.only hOn (by omega), hG3.2⟩
      have hbr := hb03.trans (hOn.below (by have := hb03.size; omega) (by omega))
      have hgr := hGr.lt
      have hsee : ∀ i, i < 8 → SeesL wr wr.heap.size (.slice (A i) (bJ f N 0 i).length (c i)) (bJ f N 0 i) := fun i hi => (hO i hi).sees
      have Yr := Lib.hid Y
      have hOr := Lib.hid hO
      have hgY := Y.lt
      clear hE X3 hG3 hb03 Y hO hOn hzY h1
      rcases hf with ⟨rfl, hno⟩ | ⟨k, rfl, -, hk, hfk, hbf⟩
      · have hS := slot_none N (bJ f N 0) (by omega) (by omega) (fun i => bJ_ok f N 0 i (by omega)) (fun j hj => by unfold bJ; rw [if_neg (by rw [hno j (by omega) hj]; simp)]) g A c wr hGr hsee
        unfold s8 ints8 at hS
        have hS := Lib.hid hS
        clear hsee Yr hOr
        go_wp2_with fail
        clear y0 y1 y2 y3 y4 y5 y6 y7
        refine hS.out.mono ?_
        rintro e w5 ⟨h, r, rfl, hH, hG5, hO⟩
        have hl' := hear_lies w5 w5.heap.size rfl h 27
        have hth := hdz_there w5 w5.heap.size rfl 27
        have h40 : 40 = (hdC h).size := rfl
        rw [hdz_lit] at hl' hth
        rw [h40] at hth
        clear h40
        obtain ⟨hHA, hB6⟩ := hl'
        have hone := Lib.hid (hdC_one h (fun i hi => (hH i hi).forms.1) (fun i hi => (hH i hi).forms.2))
        have hin := infoHeard8
        have hb5 := Lib.hid (hbr.trans (hO.below (by omega) hgr))
        have hGu : Hid (∀ W, Below w5.heap.size w5 W → ∀ i, i < 2 → Hid (Calls Try.prog 17 #[.pointer (some ⟨g, 0, none⟩), .int .i64 (i : Nat)] W fun e w' => e = .returned (.tuple #[.int .i64 ((newG (someT N 1)).slot : Nat), .bool false]) ∧ Below W.heap.size W w')) := Lib.hid fun W hb i hi => Lib.hid (by
          have hq := guard_sr g N _ _ i W (hG5.below hb hG5.lt) hi
          rw [ite_self] at hq
          exact hq)
        have HF : Hid (∀ W, HAt W w5.heap.size h → W.cell? ⟨w5.heap.size, 0, none⟩ = some (.int .i64 0)) := Lib.hid fun W hh => by
          have e0 := (hh.get 0 (by omega)).1
          rw [(hH 0 (by omega)).quiet.1] at e0
          exact e0
        clear hH hG5 hO hS hbr hGr
        go_wp2_with (refine wpList_store_mid rfl _ _ _ rfl _ _ (hdC h) rfl rfl hth hin hone.out ?_; clear hth; generalize World.setCells _ _ _ _ = w6 at hHA hB6 ⊢)
        have hg0 := hGu.out w6 hB6 0 (by omega)
        have hlt5 : Hid (w5.heap.size < w6.heap.size) := Lib.hid hHA.ltG
        go_wp2_with fail
        refine hg0.out.mono ?_
        rintro e w7 ⟨rfl, hb7⟩
        have hB7 := hB6.trans (hb7.mono hB6.size)
        have hA7 := hHA.below hb7 hlt5.out
        have hlt7 : Hid (w5.heap.size < w7.heap.size) := Lib.hid hA7.ltG
        have hg1 := hGu.out w7 hB7 1 (by omega)
        clear hg0 hHA hb7 hB6 hGu
        go_wp2_with fail
        refine hg1.out.mono ?_
        rintro e w8 ⟨rfl, hb8⟩
        have hB8 := hB7.trans (hb8.mono hB7.size)
        have hA8 := hA7.below hb8 hlt7.out
        clear hg1 hA7 hb8 hB7
        have e0 := HF.out w8 hA8
        have hk := hKn w8
        have hbb := Lib.hid (hb5.out.trans (hB8.mono hb5.out.size))
        clear hKn
        go_wp2_with fail
        refine hk.out.mono ?_
        rintro e w9 ⟨rfl, hb9⟩
        have hbz := Lib.hid (hbb.out.trans (hb9.mono hbb.out.size))
        go_wp2_with fail
        go_ret
        exact ⟨rfl, hbz.out⟩
      · have hbk : bJ f N 0 k = (coldF k).bytes := by unfold bJ; rw [if_pos ⟨⟨by omega, hk⟩, hfk⟩]
        obtain ⟨hl50, hl0⟩ := coldF_len (i := k) (by omega)
        have hS := slot_first N k (bJ f N 0) hk (by omega) (by omega) (fun i => bJ_ok f N 0 i (by omega)) (by rw [hbk]; exact hl0) (fun j hj => by unfold bJ; rw [if_neg (by rw [hbf j (by omega) hj]; simp)]) g A c wr hGr hsee
        have hlbk : (bJ f N 0 k).length ≤ 50 ∧ 0 < (bJ f N 0 k).length := by rw [hbk]; exact ⟨hl50, hl0⟩
        have hok := bJ_ok f N 0 k (by omega)
        have hnn : (newG (someT N 1)).n = N := someL_length N
        rw [tl_rq _ hok hlbk.1, hbk, ended_cold _ rfl k (by rw [hnn]; exact hk) (by rw [hnn]; omega)] at hS
        have hsl : ((newG (someT N 1)).told k 0).slot = (k + 1) % N := by show (k + 1) % (newG (someT N 1)).n = _; rw [hnn]
        have hkn : ((newG (someT N 1)).told k 0).kn = true := rfl
        unfold s8 ints8 at hS
        have hS := Lib.hid hS
        clear hsee hnn
        go_wp2_with fail
        clear y0 y1 y2 y3 y4 y5 y6 y7
        refine hS.out.mono ?_
        rintro e w5 ⟨h, rfl, hH, hG5, hO⟩
        have hl' := hear_lies w5 w5.heap.size rfl h 27
        have hth := hdz_there w5 w5.heap.size rfl 27
        have h40 : 40 = (hdC h).size := rfl
        rw [hdz_lit] at hl' hth
        rw [h40] at hth
        clear h40
        obtain ⟨hHA, hB6⟩ := hl'
        have hone := Lib.hid (hdC_one h (fun i hi => (hH i hi).forms.1) (fun i hi => (hH i hi).forms.2))
        have hin := infoHeard8
        have hb5 := Lib.hid (hbr.trans (hO.below (by omega) hgr))
        have hGu : Hid (∀ W, Below w5.heap.size w5 W → ∀ i, i < 2 → Hid (Calls Try.prog 17 #[.pointer (some ⟨g, 0, none⟩), .int .i64 (i : Nat)] W fun e w' => e = .returned (.tuple #[.int .i64 ((k + 1) % N : Nat), .bool true]) ∧ Below W.heap.size W w')) := Lib.hid fun W hb i hi => Lib.hid (by
          have hq := guard_sr g N _ _ i W (hG5.below hb hG5.lt) hi
          rw [ite_self, hsl, hkn] at hq
          exact hq)
        obtain ⟨-, -, ox, -⟩ := (hH 0 (by omega)).is (by omega)
        obtain ⟨-, -, -, oy⟩ := (hH (N - 1) (by omega)).is (by omega)
        rw [tl_rq _ (coldF_ok (by omega)) hl50] at ox oy
        have Y5 := Yr.out.only hO (by omega)
        have ob := (hOr.out k (by omega)).only hO (by omega)
        rw [hbk] at ob
        obtain ⟨Ax, cx, hx, -⟩ := ox.sees.at_
        obtain ⟨Ay, cy, hy, -⟩ := oy.sees.at_
        rw [hx] at ox
        rw [hy] at oy
        have HF : Hid (∀ W, HAt W w5.heap.size h → Below w5.heap.size w5 W → (W.cell? ⟨w5.heap.size, 2, none⟩ = some (.slice Ax (coldF k).bytes.length cx) ∧ (convert 22 9 (.slice Ax (coldF k).bytes.length cx)).run Try.prog W = .ok (.string (textL (coldF k).bytes)) W) ∧ (W.cell? ⟨w5.heap.size, (N - 1) * 5 + 3, none⟩ = some (.slice Ay (coldF k).bytes.length cy) ∧ (convert 22 9 (.slice Ay (coldF k).bytes.length cy)).run Try.prog W = .ok (.string (textL (coldF k).bytes)) W) ∧ W.cell? ⟨w2.heap.size, k, none⟩ = some (.slice (A k) (coldF k).bytes.length (c k)) ∧ (convert 22 9 (.slice (A k) (coldF k).bytes.length (c k))).run Try.prog W = .ok (.string (textL (coldF k).bytes)) W) := Lib.hid fun W hh hb => by
          have e0 := (hh.get 0 (by omega)).2.2.1
          have en := (hh.get (N - 1) (by omega)).2.2.2.1
          rw [hx] at e0
          rw [hy] at en
          have eb := (Y5.below hb (Nat.lt_of_lt_of_le hgY hO.size)).cell k (sl8_get A c (bJ f N 0) k (by omega))
          rw [hbk] at eb
          exact ⟨⟨e0, run_textL (ox.below hb (Nat.le_refl _)).sees⟩, ⟨en, run_textL (oy.below hb (Nat.le_refl _)).sees⟩, eb, run_textL (ob.below hb (Nat.le_refl _)).sees⟩
        clear hH hG5 hO hS hbr hGr ox oy hx hy Y5 ob Yr hOr hok hlbk hsl hkn hbk hl50
        go_wp2_with (refine wpList_store_mid rfl _ _ _ rfl _ _ (hdC h) rfl rfl hth hin hone.out ?_; clear hth; generalize World.setCells _ _ _ _ = w6 at hHA hB6 ⊢)
        have hg0 := hGu.out w6 hB6 0 (by omega)
        have hlt5 : Hid (w5.heap.size < w6.heap.size) := Lib.hid hHA.ltG
        go_wp2_with fail
        refine hg0.out.mono ?_
        rintro e w7 ⟨rfl, hb7⟩
        have hB7 := hB6.trans (hb7.mono hB6.size)
        have hA7 := hHA.below hb7 hlt5.out
        have hlt7 : Hid (w5.heap.size < w7.heap.size) := Lib.hid hA7.ltG
        have hg1 := hGu.out w7 hB7 1 (by omega)
        clear hg0 hHA hb7 hB6 hGu
        go_wp2_with fail
        refine hg1.out.mono ?_
        rintro e w8 ⟨rfl, hb8⟩
        have hB8 := hB7.trans (hb8.mono hB7.size)
        have hA8 := hA7.below hb8 hlt7.out
        clear hg1 hA7 hb8 hB7
        have hk := hKn w8.drew
        have hbb := Lib.hid ((hb5.out.trans (hB8.mono hb5.out.size)).drew)
        have hAd := hA8.below (Below.drew (Below.refl (w5.heap.size + 1) w8)) (Nat.lt_succ_self _)
        have hBd := hB8.drew
        have hlt8 : Hid (w5.heap.size < w8.drew.heap.size) := Lib.hid hAd.ltG
        have hmod : ((k : Int) + 1) % (N : Int) = (((k + 1) % N : Nat) : Int) := by simp
        have hk1 : IntKind.i64.wrap ((k : Int) + 1) = (k : Int) + 1 := IntWalk.i64_in _ (by omega)
        have hN0 : ¬ ((N : Nat) : Int) = 0 := by omega
        have hNb : (((N : Nat) : Int) == 0) = false := by rw [beq_eq_false_iff_ne]; omega
        have hN9 : N ≠ 0 := by omega
        have hk0 : (0 : Int) ≤ (k : Int) + 1 := by omega
        have htm : ((k : Int) + 1).tmod (N : Int) = (((k + 1) % N : Nat) : Int) := by rw [Int.tmod_eq_emod_of_nonneg hk0]; exact hmod
        have hN1 : IntKind.i64.wrap ((N : Int) - 1) = ((N - 1 : Nat) : Int) := by rw [IntWalk.i64_in _ (by omega)]; omega
        have iN : (((N - 1 : Nat) : Int)) < 8 := by omega
        have ik : (k : Int) < 8 := by omega
        generalize (k + 1) % N = K1 at *
        generalize textL (coldF k).bytes = TX at *
        generalize (coldF k).bytes.length = LX at *
        have S0 := HF.out w8.drew hAd hBd
        clear hKn hA8 hB8
        go_wp2_with fail
        go_region_held3 (fun W => (W.cell? ⟨w5.heap.size, 2, none⟩ = some (.slice Ax LX cx) ∧ (convert 22 9 (.slice Ax LX cx)).run Try.prog W = .ok (.string TX) W) ∧ (W.cell? ⟨w5.heap.size, (N - 1) * 5 + 3, none⟩ = some (.slice Ay LX cy) ∧ (convert 22 9 (.slice Ay LX cy)).run Try.prog W = .ok (.string TX) W) ∧ W.cell? ⟨w2.heap.size, k, none⟩ = some (.slice (A k) LX (c k)) ∧ (convert 22 9 (.slice (A k) LX (c k))).run Try.prog W = .ok (.string TX) W)
          ((first | exact S0 | exact S1))
          (first
            | (go_at_call 15; refine hk.out.mono ?_; rintro e w9 ⟨rfl, hb9⟩; have hbz := Lib.hid (hbb.out.trans (hb9.mono hbb.out.size)); have S1 := HF.out w9 (hAd.below hb9 hlt8.out) (hBd.trans (hb9.mono hBd.size)))
            | fail)
        all_goals
          go_wp2
          go_ret
          exact ⟨rfl, hbz.out⟩
theorem walk_starBegins (n : Int) (y0 y1 y2 y3 y4 y5 y6 y7 : Bool) (w : World) (_h_n : -9223372036854775808 ≤ n ∧ n ≤ 9223372036854775807) :
    Calls Try.prog 9 #[.int .i64 n, bools8 (bs8 y0 y1 y2 y3 y4 y5 y6 y7)] w fun e w' => e = .returned (.bool true) ∧ Below w.heap.size w w' := core_starBegins n _ w

/-! ### THE ROW's STEP around the walk. -/
theorem own_starBegins : ownKnob Try.prog.godebug = none := by kernel_rfl
theorem laidOut_starBegins : laidOutB Try.prog = true := by kernel_rfl
set_option maxRecDepth 100000 in
theorem lifted_starBegins (os : Os) (started : os.Started) (H : Type) (enc : TypeId × Value → H) :
    ReturnsInHanded {} Try.checked os 9 .any (Rows.starBeginsSpec.pre6 enc Try.prog Try.f9 Rows.starBeginsRow.domain false) (Rows.starBeginsSpec.post enc Try.prog Try.f9 false true false false) := by
  refine returnsInHanded_of_change (C := Try.checked) own_starBegins started (by kernel_rfl) Try.func9
    (ChangeSpec.witness6 (enc := enc) (C := Try.checked) false ⟨#[], #[.int .i64 0, .agg #[.bool false, .bool false, .bool false, .bool false, .bool false, .bool false, .bool false, .bool false]], []⟩ 8 (by kernel_rfl) (by kernel_rfl) (by kernel_rfl) (by kernel_rfl)) ?_
  intro W base args ds gs before hval0 hW hcnd _
  have hval : ∀ (j : Nat) t v, Try.f9.params[j]? = some t → args[j]? = some v → Value.okWide Try.prog W .any base t v := hval0
  have hW' := hW
  obtain ⟨p, q, hA0, hV, rfl, hfz, hnd⟩ := hW
  have hA : DataW.TrodAll enc Try.prog W 0 (fun _ => true) true Try.f9.params.toList args.toList ds p := hA0
  rw [Try.params9] at hA hval
  obtain ⟨v0, vs0, d0, ds0, p0, q0, hargs, rfl, rfl, h0, r0⟩ := trodAll_cons hA
  obtain ⟨v1, vs1, d1, ds1, p1, q1, rfl, rfl, rfl, h1, r1⟩ := trodAll_cons r0
  obtain ⟨rfl, rfl, rfl⟩ := trodAll_nil r1
  obtain rfl : args = #[v0, v1] := by cases args; simp_all
  obtain ⟨rfl, rfl⟩ := trodVars_none hV
  obtain ⟨a0, rfl, rfl, rfl, w0⟩ := open_int Try.underlying3 (hval 0 3 v0 rfl rfl) h0
  obtain ⟨y1_0, y1_1, y1_2, y1_3, y1_4, y1_5, y1_6, y1_7, rfl⟩ := sees_bools8 Try.underlying49 (by kernel_rfl) Try.underlying4 (by kernel_rfl) (hval 1 49 v1 rfl rfl) h1
  have k1 := h1
  have lt1 : ∀ x ∈ p1, x.block < W.heap.size := by obtain ⟨m, hm⟩ := k1; exact DataW.trod_lt m _ _ _ hm
  clear hA0 hval0
  refine (walk_starBegins a0 y1_0 y1_1 y1_2 y1_3 y1_4 y1_5 y1_6 y1_7 W (bounds_i64 w0)).mono fun e W' ⟨he, bel⟩ => ?_
  subst he
  exact ⟨_, rfl, _, _, _, [], _, [], hW', trodAll_mk1 (shut_bool Try.underlying4 _), (trodAll_cons_mk (shut_int Try.underlying3 w0) (trodAll_cons_mk (Below.trod laidOut_starBegins (by kernel_rfl) (of_decide_eq_true (by kernel_rfl)) k1 bel lt1) trodAll_mk0)), rfl, bel.frame _, fun h => by cases h⟩

theorem over_starBegins : Rows.starBeginsRow.holds Try.pinned (OpenSpec.ofChange Rows.starBeginsSpec) :=
  OpenClaim.holds_of_wide 9 Try.f9 rfl rfl rfl rfl rfl rfl rfl ⟨rfl, rfl, rfl, rfl, rfl⟩ rfl rfl rfl rfl rfl (by kernel_rfl) Try.func9 (by kernel_rfl)
    (of_decide_eq_true (by kernel_rfl)) (by unfold Func.isWrapper; first | (rw [if_pos (by decide +kernel)]; kernel_rfl) | (rw [if_neg (by decide +kernel)]; exact ⟨rfl, rfl⟩))
    (fun os started H enc _ => lifted_starBegins os started H enc)

theorem proved_starBegins : Rows.StarBeginsSaid := over_starBegins
end Go.Proofs.Ytfnolnmdhppnmaa
