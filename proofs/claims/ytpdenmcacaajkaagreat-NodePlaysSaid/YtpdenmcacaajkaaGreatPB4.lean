/- Texts FrE, FrF, FrG in one. For what each says in front of its theorems. -/
import Derived.Laws.ResultCell
import Derived.Deep.CutBlock
import Derived.Test.YtpdenmcacaajkaaGreatPB3
/-! ### FrE -/
namespace Go.Proofs.YtpdenmcacaajkaaGreat
open Go.RowKit
open Fr (St F)

/-- From nought up to m. -/
def wi (n m : Int) : Bool := decide (0 ≤ n) && decide (n ≤ m)
theorem within_any (n m : Int) (w : World) : Calls Tryz.prog 163 #[.int .i64 n, .int .i64 m] w fun e w' => e = .returned (.bool (wi n m)) ∧ w = w' := by
  unfold wi
  by_cases h : 0 ≤ n
  all_goals
    go_enter Tryz.func163, Tryz.ntmps163
    go_wp2
    go_ret
    exact ⟨by simp [*] <;> omega, rfl⟩
theorem isKind_any (k : Int) (w : World) : Calls Tryz.prog 142 #[.int .i64 k] w fun e w' => e = .returned (.bool (decide (1 ≤ k) && decide (k ≤ 3))) ∧ w = w' := by
  have hcase : k = 1 ∨ (k ≠ 1 ∧ k = 2) ∨ (k ≠ 1 ∧ k ≠ 2) := by omega
  rcases hcase with h | ⟨h, h'⟩ | ⟨h, h'⟩
  all_goals
    go_enter Tryz.func142, Tryz.ntmps142
    go_wp2
    go_ret
    refine ⟨?_, rfl⟩
  · subst h; rfl
  · subst h'; rfl
  · by_cases h3 : k = 3
    · subst h3; rfl
    · have : (decide (1 ≤ k) && decide (k ≤ 3)) = false := by simp; omega
      rw [this]
      simp [*]
theorem kindOf_any (A : Option Addr) (c : Nat) (l : List Int) (B : Nat) (w : World) (hs : Sees w B A l.length (bv l)) (hl : bytesL l) (hlen : l.length ≤ maxLen) : Calls Tryz.prog 165 #[.slice A l.length c] w fun e w' => e = .returned (.int .i64 (Fr.kd l)) ∧ w = w' := by
  unfold maxLen at hlen
  have hb := hl.getD 0
  rcases Nat.eq_zero_or_pos l.length with h0 | h0
  · have h1 : Fr.kd l = 0 := by rw [List.length_eq_zero_iff.1 h0]; rfl
    rw [h1, h0]
    go_enter Tryz.func165, Tryz.ntmps165
    go_wp2
    go_ret
    exact ⟨rfl, rfl⟩
  · obtain ⟨b, off, rfl, hbb, hc⟩ := hs h0
    have hc := hc 0 h0
    rw [Nat.add_zero] at hc
    unfold bv at hc
    unfold Fr.kd
    generalize l.getD 0 0 = x at *
    go_enter Tryz.func165, Tryz.ntmps165
    go_wp2
    go_ret
    exact ⟨rfl, rfl⟩
theorem isState_any (s : St) (w : World) : Calls Tryz.prog 143 #[stV s] w fun e w' => e = .returned (.bool s.may) ∧ Below w.heap.size w w' := by
  obtain ⟨r, s, m⟩ := s
  have hm : St.may ⟨r, s, m⟩ = (wi r 65535 && wi s 7 && wi m 255) := by
    unfold St.may wi
    have : decide (s < 8) = decide (s ≤ 7) := by congr 1; exact propext (by omega)
    rw [this]
    simp only [Bool.and_assoc]
  rw [hm]
  clear hm
  have h1 := fun n m W => Lib.hid (within_any n m W)
  unfold stV
  cases b1 : wi r 65535 <;> cases b2 : wi s 7
  all_goals
    go_enter Tryz.func143, Tryz.ntmps143
    go_wp2_with (go_at_call 163; refine (h1 _ _ _).out.mono ?_; rintro e w1 ⟨rfl, rfl⟩)
    go_ret
    exact ⟨by simp [*], (Below.refl _ _).alloc (Nat.le_refl _) _⟩
theorem spell_any (s : St) (hs : s.may = true) (w : World) :
    Calls Tryz.prog 110 #[stV s] w fun e w' => ∃ v, e = .returned v ∧ OwnsL w' w.heap.size v s.bytes ∧ Below w.heap.size w w' := by
  obtain ⟨⟨h1, h2⟩, ⟨h3, h4⟩, h5, h6⟩ := s.may_iff.1 hs
  obtain ⟨r, s, m⟩ := s
  simp only at h1 h2 h3 h4 h5 h6
  unfold stV
  clear hs
  go_enter Tryz.func110, Tryz.ntmps110
  go_wp2
  go_ret
  exact ⟨_, rfl, owns_lit _ _ rfl _ [r / 256, r % 256, s, m] rfl _ (by simp) (by simp [maxLen]) _ _ _ (by simp) rfl rfl, ((Below.refl _ _).alloc (Nat.le_refl _) _).alloc (by simp) _⟩
theorem or_pair (x y : Int) (hx : 0 ≤ x ∧ x < 256) (hy : 0 ≤ y ∧ y < 256) : bits BinOp.or IntKind.i64 (x * 256) y = x * 256 + y := by
  obtain ⟨X, rfl⟩ := Int.eq_ofNat_of_zero_le hx.1
  obtain ⟨Y, rfl⟩ := Int.eq_ofNat_of_zero_le hy.1
  have h1 : X < 256 := by omega
  have h2 : Y < 256 := by omega
  show IntKind.i64.wrap ((BitVec.ofInt 64 ((X : Int) * 256) ||| BitVec.ofInt 64 (Y : Int)).toNat : Int) = _
  have e : (X : Int) * 256 = ((X * 256 : Nat) : Int) := by omega
  rw [e, BitVec.toNat_or, BitVec.toNat_ofInt, BitVec.toNat_ofInt, IntKind.wrap_i64]
  have e1 : ((((X * 256 : Nat) : Int) % ((2 ^ 64 : Nat) : Int))).toNat = X <<< 8 := by rw [Nat.shiftLeft_eq]; omega
  have e2 : (((Y : Int) % ((2 ^ 64 : Nat) : Int))).toNat = Y := by omega
  rw [e1, e2, ← Nat.shiftLeft_add_eq_or_of_lt (b := Y) (i := 8) (by omega) X, Nat.shiftLeft_eq]
  omega
theorem pair_any (b off c : Nat) (n : Nat) (x y : Int) (w : World) (hn : 2 ≤ n) (hn2 : n ≤ maxLen) (h0 : w.cell? ⟨b, off, none⟩ = some (.int .u8 x)) (h1 : w.cell? ⟨b, off + 1, none⟩ = some (.int .u8 y)) (hx : 0 ≤ x ∧ x < 256) (hy : 0 ≤ y ∧ y < 256) :
    Calls Tryz.prog 167 #[.slice (some ⟨b, off, none⟩) n c] w fun e w' => e = .returned (.int .i64 (x * 256 + y)) ∧ ∃ m, w.drewN m = w' := by
  unfold maxLen at hn2
  have ho := or_pair x y hx hy
  go_enter Tryz.func167, Tryz.ntmps167
  go_wp2
  go_quiet (fail)
  go_wp2
  go_ret
  exact ⟨rfl, _, rfl⟩

theorem is_dev (f : F) (v : Value) (w : World) (B : Nat) (hv : SeesL w B v f.d) :
    Calls Tryz.prog 109 #[frV f v] w fun e w' => e = .returned (.bool f.is) ∧ Below w.heap.size w w' := by
  obtain ⟨A, c, rfl, h1, h2, -, -⟩ := hv.at_
  unfold maxLen at h2
  obtain ⟨k, ⟨r, s, m⟩, d⟩ := f
  simp only at h1
  have hK := fun W => Lib.hid (isKind_any k W)
  have hm := fun W => Lib.hid (isState_any ⟨r, s, m⟩ W)
  have hr : ∀ b c : Bool, b = (⟨r, s, m⟩ : St).may → c = (decide (1 ≤ k) && decide (k ≤ 3)) → F.is ⟨k, ⟨r, s, m⟩, d⟩ = (c && b && decide (d.length ≤ 8)) := fun b c hb hc => by rw [hb, hc]; rfl
  generalize (⟨r, s, m⟩ : St).may = b at *
  generalize (decide (1 ≤ k) && decide (k ≤ 3)) = q at *
  rw [hr b q rfl rfl]
  clear hr
  unfold frV
  generalize d.length = n at *
  cases q <;> cases b
  all_goals
    go_enter Tryz.func109, Tryz.ntmps109
    go_wp2_with fail
    refine (hK _).out.mono ?_
    rintro e w1 ⟨rfl, rfl⟩
    go_wp2_with (go_at_call 143; refine (hm _).out.mono ?_; rintro e w1 ⟨rfl, hb⟩; have hc := bcell hb; have hz := hb.size; simp only [World.size_alloc] at hz; have hb := ((Below.refl w.heap.size w).alloc (Nat.le_refl _) _).trans (hb.mono (by simp)))
    go_ret
    first
      | exact ⟨by simp <;> omega, hb⟩
      | exact ⟨by simp <;> omega, (Below.refl _ _).alloc (Nat.le_refl _) _⟩

theorem seed_dev (s : St) (w : World) : Calls Tryz.prog 145 #[stV s] w fun e w' => e = .returned (.int .i64 (s.seed : Nat)) ∧ Below w.heap.size w w' := by
  have hm := fun W => isState_any s W
  have hst := fun h W => spell_any s h W
  have hsd : s.may = true → s.seed = Fr.sumL 32767 s.bytes := fun h => by rw [St.seed, if_pos h]
  have hsd0 : s.may = false → s.seed = 0 := fun h => by rw [St.seed, if_neg (by rw [h]; decide)]
  have hok : s.may = true → ∀ k, 0 ≤ s.bytes.getD k 0 ∧ s.bytes.getD k 0 < 256 := fun h k => (St.bytes_ok h).getD k
  have h32 : Cr.sd 32767 = 32767 := by decide
  have hsum := fun A c W (h : Sees W W.heap.size A s.bytes.length (bv s.bytes)) hz => sum_one A s.bytes.length c (fun k => s.bytes.getD k 0) 32767 W 37 W.heap.size rfl h hz (by simp [St.bytes, maxLen])
  simp only [Fr.sum_all, h32] at hsum
  cases hb : s.may
  · rw [hb] at hm
    rw [hsd0 hb]
    clear hst hsd hsd0 hok hsum h32 hb
    have hm := fun W => Lib.hid (hm W)
    unfold stV at hm ⊢
    go_enter Tryz.func145, Tryz.ntmps145
    go_wp2_with (go_at_call 143; refine (hm _).out.mono ?_; rintro e w1 ⟨rfl, hb⟩; have hb := ((Below.refl w.heap.size w).alloc (Nat.le_refl _) _).trans (hb.mono (by simp)))
    go_ret
    exact ⟨rfl, hb⟩
  · rw [hb] at hm
    have hm := fun W => Lib.hid (hm W)
    have hst := fun W => Lib.hid (hst hb W)
    have hok := Lib.hid (hok hb)
    have hsum := fun A c W h hz => Lib.hid (hsum A c W h hz)
    rw [hsd hb]
    generalize s.bytes = l at *
    clear hsd hsd0 h32 hb
    unfold stV at hm hst ⊢
    go_enter Tryz.func145, Tryz.ntmps145
    go_wp2_with (go_at_call 143; refine (hm _).out.mono ?_; rintro e w1 ⟨rfl, hb⟩; have hc := bcell hb; have hz := hb.size; simp only [World.size_alloc] at hz; have hb := ((Below.refl w.heap.size w).alloc (Nat.le_refl _) _).trans (hb.mono (by simp)))
    clear hm
    refine (hst _).out.mono ?_
    rintro e w2 ⟨v, rfl, ho, hb2⟩
    have hb := hb.trans (hb2.mono hb.size)
    obtain ⟨A, c, rfl, -, -, g, -⟩ := ho.sees.at_
    clear ho hst hc hb2
    go_wp2_with fail
    refine (hsum A c w2 g (fun k _ => hok.out k)).out.mono ?_
    rintro e w3 ⟨rfl, rfl⟩
    go_wp2
    go_ret
    exact ⟨rfl, hb.alloc hb.size _⟩
end Go.Proofs.YtpdenmcacaajkaaGreat

/-! ### FrF -/
namespace Go.Proofs.YtpdenmcacaajkaaGreat
open Go.RowKit
open Fr (St F)

theorem SeesL.alloc {w : World} {B : Nat} {v : Value} {l : List Int} (h : SeesL w B v l) (o : Obj) : SeesL (w.alloc o) B v l := ⟨by
  obtain ⟨A, c, rfl, h1, h2, h3, h4⟩ := h.at_
  refine ⟨A, c, rfl, h1, h2, fun h0 => ?_, h4⟩
  obtain ⟨b, off, e, hb, hc⟩ := h3 h0
  exact ⟨b, off, e, hb, fun k hk => Lib.cell?_alloc_some o (hc k hk)⟩⟩
theorem clone_any (v : Value) (l : List Int) (w : World) (B : Nat) (hv : SeesL w B v l) (hlen : l.length ≤ 140737488355328) :
    Calls Tryz.prog 64 #[v] w fun e w' => ∃ v', e = .returned v' ∧ OwnsL w' w.heap.size v' l ∧ Below w.heap.size w w' := by
  obtain ⟨A, c, rfl, h1, h2, h3, h4⟩ := hv.at_
  cases A with
  | none =>
    obtain ⟨hl, rfl⟩ := h4 rfl
    have hl' := List.length_eq_zero_iff.1 hl
    subst hl'
    clear h1 h2 h3 h4 hl hv hlen
    have hq := Lib.run_eql_slice_nil (P := Tryz.prog) w 37 5 none 0 0 0 0 Tryz.underlying37
    go_enter Tryz.func64, Tryz.ntmps64
    go_wp2
    go_ret
    exact ⟨_, rfl, OwnsL.nil, Below.refl _ _⟩
  | some a =>
    have hv := Lib.hid hv
    have hq := Lib.run_eql_slice_nil (P := Tryz.prog) w 37 5 (some a) l.length c 0 0 Tryz.underlying37
    clear h3 h4
    go_enter Tryz.func64, Tryz.ntmps64
    go_wp2_with (at_builtin; refine wpList_appendL _ rfl (.tmp 5) (.tmp 6) 37 rfl w.heap.size infoU8 Tryz.underlying37 _ [] w (owns_empty w _ rfl _ _ (Nat.le_refl _) rfl) ((Below.refl _ _).alloc (Nat.le_refl _) _) rfl _ _ l rfl (SeesL.alloc hv.out _) (by simp) (by simp only [List.length_nil]; omega) ?_)
    intro v' w1 ho hb
    go_wp2
    go_ret
    exact ⟨_, rfl, ho, hb⟩

theorem sumf_any (k : Int) (s : St) (v : Value) (l : List Int) (w : World) (hv : SeesL w w.heap.size v l) (hl : bytesL l) :
    Calls Tryz.prog 111 #[.int .i64 k, stV s, v] w fun e w' => e = .returned (.int .i64 (Fr.sumL (if k = 1 then s.seed else 0) l : Nat)) ∧ Below w.heap.size w w' := by
  obtain ⟨A, c, rfl, h1, h2, h3, -⟩ := hv.at_
  have hsum := fun a W (g : Nat) (hg : g = W.heap.size) (hb : Below w.heap.size w W) => sum_one A l.length c (fun k => l.getD k 0) a W 37 g hg ((h3.below hb).more hb.size) (fun k _ => hl.getD k) (by omega)
  simp only [Fr.sum_all] at hsum
  have hsum := fun a W g hg hb => Lib.hid (hsum a W g hg hb)
  have hseed := fun W => Lib.hid (seed_dev s W)
  have hlt := s.seed_lt
  have hbx := (Below.refl w.heap.size w).alloc (Nat.le_refl _) (.cells #[.int .i64 s.r, .int .i64 s.s, .int .i64 s.m] 101)
  clear hl hv
  unfold stV at hseed ⊢
  by_cases hk : k = 1
  · rw [if_pos hk]
    have hsd := Lib.hid (show Cr.sd (s.seed : Nat) = s.seed from Cr.sd_of hlt)
    generalize s.seed = q at *
    go_enter Tryz.func111, Tryz.ntmps111
    go_wp2_with fail
    refine (hseed _).out.mono ?_
    rintro e w1 ⟨rfl, hb⟩
    have hb := hbx.trans (hb.mono hbx.size)
    clear hbx hseed
    go_wp2_with fail
    refine (hsum _ _ _ rfl hb).out.mono ?_
    rintro e w2 ⟨rfl, rfl⟩
    go_wp2
    go_ret
    exact ⟨by show Ending.returned (.int .i64 (Fr.sumL (Cr.sd (q : Nat)) l : Nat)) = _; rw [hsd.out], hb.alloc hb.size _⟩
  · rw [if_neg hk]
    have hs0 := fun W g hg hb => (hsum 0 W g hg hb).out
    simp only [show Cr.sd 0 = 0 from rfl] at hs0
    have hs1 := fun W g hg hb => Lib.hid (hs0 W g hg hb)
    clear hsum hs0
    go_enter Tryz.func111, Tryz.ntmps111
    go_wp2_with fail
    refine (hs1 _ _ (by simp) hbx).out.mono ?_
    rintro e w2 ⟨rfl, rfl⟩
    go_wp2
    go_ret
    exact ⟨rfl, hbx.alloc hbx.size _⟩

theorem results_cell {fn : Func} {p : Tmp} {ty : TypeId} (h : fn.results = #[.cell p ty]) (tmps : Array Value) (P : Program) (w : World) :
    (results fn tmps).run P w = ((asAddr (tmps.getD p undef)).run P w).andThen fun a w₁ => (loadVar ty a).run P w₁ := by
  simp only [results, h]
  simp [Sem.run_bind, Result.andThen]
theorem read_any (b off n c : Nat) (x0 x1 x2 x3 : Int) (w : World) (hn : 4 ≤ n) (hn2 : n ≤ maxLen) (hbb : b < w.heap.size) (h0 : w.cell? ⟨b, off, none⟩ = some (.int .u8 x0)) (h1 : w.cell? ⟨b, off + 1, none⟩ = some (.int .u8 x1)) (h2 : w.cell? ⟨b, off + 2, none⟩ = some (.int .u8 x2)) (h3 : w.cell? ⟨b, off + 3, none⟩ = some (.int .u8 x3))
    (hx0 : 0 ≤ x0 ∧ x0 < 256) (hx1 : 0 ≤ x1 ∧ x1 < 256) (hx2 : 0 ≤ x2 ∧ x2 < 256) (hx3 : 0 ≤ x3 ∧ x3 < 256) :
    Calls Tryz.prog 166 #[.slice (some ⟨b, off, none⟩) n c] w fun e w' => e = .returned (stV ⟨x0 * 256 + x1, x2, x3⟩) ∧ Below w.heap.size w w' := by
  have hp := fun W (hb : Below w.heap.size w W) => Lib.hid (pair_any b off c n x0 x1 W (by omega) hn2 ((bcell hb _ _ hbb).trans h0) ((bcell hb _ _ hbb).trans h1) hx0 hx1)
  have CS := fun (W : World) (hb : Below w.heap.size w W) => (⟨(bcell hb _ _ hbb).trans h2, (bcell hb _ _ hbb).trans h3⟩ : W.cell? ⟨b, off + 2, none⟩ = some (.int .u8 x2) ∧ W.cell? ⟨b, off + 3, none⟩ = some (.int .u8 x3))
  unfold stV
  unfold maxLen at hn2
  have wr2 : IntKind.i64.wrap x2 = x2 := IntWalk.i64_in _ (by omega)
  have wr3 : IntKind.i64.wrap x3 = x3 := IntWalk.i64_in _ (by omega)
  have q2 : (2 : Int) < (n : Int) := by omega
  have q3 : (3 : Int) < (n : Int) := by omega
  clear h0 h1 h2 h3
  go_enter Tryz.func166, Tryz.ntmps166
  go_wp2_with fail
  go_region_held3 (fun W => W.cell? ⟨b, off + 2, none⟩ = some (.int .u8 x2) ∧ W.cell? ⟨b, off + 3, none⟩ = some (.int .u8 x3))
    ((refine CS _ ?_; repeat' (first | exact Below.refl _ _ | exact Nat.le_refl _ | (with_reducible refine Below.setCell ?_ ?_ _) | (with_reducible refine Below.alloc ?_ (Nat.le_refl _) _) | (with_reducible refine below_drewN ?_ _) | (with_reducible refine Below.drew ?_))))
    (first
      | ((go_at_call 167; refine (hp _ ?_).out.mono ?_); (repeat' (first | exact Below.refl _ _ | exact Nat.le_refl _ | (with_reducible refine Below.setCell ?_ ?_ _) | (with_reducible refine Below.alloc ?_ (Nat.le_refl _) _) | (with_reducible refine below_drewN ?_ _) | (with_reducible refine Below.drew ?_))); rintro e w3 ⟨rfl, m, rfl⟩)
      | fail)
  all_goals
    go_wp2
    (try simp only [Exit.inBlock, Exit.then])
    refine bodyPost_ret (v := .agg #[.int .i64 (x0 * 256 + x1), .int .i64 x2, .int .i64 x3]) ?_ rfl ⟨rfl, ?_⟩
    · rw [results_cell rfl]
      go_simp
    · (repeat' (first | exact Below.refl _ _ | exact Nat.le_refl _ | (with_reducible refine Below.setCell ?_ ?_ _) | (with_reducible refine Below.alloc ?_ (Nat.le_refl _) _) | (with_reducible refine below_drewN ?_ _) | (with_reducible refine Below.drew ?_)))
end Go.Proofs.YtpdenmcacaajkaaGreat

/-! ### FrG -/
namespace Go.Proofs.YtpdenmcacaajkaaGreat
open Go.RowKit
open Fr (St F)

set_option maxRecDepth 100000 in
set_option maxHeartbeats 2000000 in
theorem encode_dev (f : F) (v : Value) (w : World) (hv : SeesL w w.heap.size v f.d) (hd : bytesL f.d) :
    Calls Tryz.prog 71 #[frV f v] w (Enc w f) := by
  have his := fun W (hb : Below w.heap.size w W) => is_dev f v W w.heap.size (hv.below hb)
  obtain ⟨A, c, rfl, c1, c2, -, -⟩ := hv.at_
  cases hi : f.is
  · rw [hi] at his
    have his := fun W hb => Lib.hid (his W hb)
    have hE : encE f = 1 := by simp [encE, hi]
    have hR : encR f = [] := by simp [encR, hi]
    unfold Enc
    rw [hE, hR]
    clear hi hE hR hv
    unfold frV at his ⊢
    go_enter Tryz.func71, Tryz.ntmps71
    go_wp2_with fail
    refine (his _ ((Below.refl _ _).alloc (Nat.le_refl _) _)).out.mono ?_
    rintro e w1 ⟨rfl, hb⟩
    have hb := ((Below.refl w.heap.size w).alloc (Nat.le_refl _) _).trans (hb.mono (by simp))
    go_wp2
    go_ret2
    exact ⟨_, rfl, OwnsL.nil, hb⟩
  · rw [hi] at his
    have his := fun W hb => Lib.hid (his W hb)
    obtain ⟨⟨k1, k3⟩, hmay, hlen⟩ := f.is_iff.1 hi
    have hE : encE f = 0 := by simp [encE, hi]
    have hR : encR f = f.body ++ Fr.two (Fr.sumL f.seed f.body) := by simp [encR, hi, F.bytes]
    have hbody := Lib.hid (F.body_ok hi hd)
    have hbl := f.body_length
    have hsl := f.seed_lt
    have hspell := fun W => Lib.hid (spell_any f.st hmay W)
    have hhl : f.hl ≤ 6 := by unfold F.hl; split <;> omega
    have hS := Fr.sumL_lt hsl f.body
    unfold Enc
    rw [hE, hR]
    have hsum := fun (V : Value) (W : World) (h : SeesL W W.heap.size V f.body) => sumf_any f.k f.st V f.body W h hbody.out
    have hss : (if f.k = 1 then f.st.seed else 0) = f.seed := rfl
    simp only [hss] at hsum
    have hblen : f.body.length ≤ 100000 := by omega
    have hbd : f.body = (if f.k = 1 then [f.k] else [f.k] ++ f.st.bytes) ++ [(f.d.length : Int)] ++ f.d := by
      unfold F.body F.head
      split <;> simp
    clear hss hbl hhl hbody hi hE hR hd
    generalize hSS : Fr.sumL f.seed f.body = S at *
    have wS : IntKind.u8.wrap ((S : Nat) / 256 : Int) = ((S / 256 : Nat) : Int) := by rw [IntKind.wrap_u8]; omega
    have wS2 : IntKind.u8.wrap ((S : Nat) : Int) = ((S % 256 : Nat) : Int) := by rw [IntKind.wrap_u8]; omega
    clear hSS hS hsl
    generalize f.body = body at *
    obtain ⟨k, st, d⟩ := f
    simp only at hv k1 k3 hmay hlen his hspell hbd hsum
    have hwr : IntKind.u8.wrap ((d.length : Nat) : Int) = d.length := by rw [IntKind.wrap_u8]; omega
    have hwk : IntKind.u8.wrap k = k := by rw [IntKind.wrap_u8]; omega
    have hvd := Lib.hid hv
    have hH := fun V W h => Lib.hid (hsum V W h)
    clear hsum hv
    have hsb : st.bytes.length = 4 := rfl
    unfold frV at his ⊢
    unfold stV at hspell hH
    generalize st.bytes = sb at *
    have hsb1 : sb.length ≤ 4 := by omega
    clear hsb
    by_cases hk : k = 1
    case' pos =>
      rw [if_pos hk] at hbd
      subst hk
    case' neg =>
      rw [if_neg hk] at hbd
      have hk' : (k != 1) = true := by simpa using hk
    case pos =>
      go_enter Tryz.func71, Tryz.ntmps71
      go_wp2_with fail
      have hbox := Lib.hid (box5 w (.int .i64 1) (.int .i64 st.r) (.int .i64 st.s) (.int .i64 st.m) (.slice A d.length c) 137)
      generalize w.alloc (.cells #[.int .i64 1, .int .i64 st.r, .int .i64 st.s, .int .i64 st.m, .slice A d.length c] 137) = w0 at *
      have hz0 : w0.heap.size ≤ w.heap.size + 1 ∧ w.heap.size + 1 ≤ w0.heap.size := by have := hbox.out.size; omega
      refine (his _ hbox.out.below).out.mono ?_
      rintro e w1 ⟨rfl, hb1⟩
      obtain ⟨z1, c10, c11, c12, c13, c14⟩ := hbox.out.cell w1 hb1
      clear his
      have hba := hb1.alloc hb1.size (.cells #[.int .u8 1] 5)
      have hoB := (owns_lit w1 5 rfl #[.int .u8 1] [1] rfl w0.heap.size hb1.size (by simp [maxLen]) w1.heap.size 1 1 rfl rfl rfl)
      obtain ⟨za, a0, a1, a2, a3, a4⟩ := hbox.out.cell _ hba
      clear hspell
      go_upto_region 6 with fail
      clear c10 c11 c12 c13 c14 z1
      generalize w1.alloc (.cells #[.int .u8 1] 5) = wb at *
      generalize w1.heap.size = g at *
      have hoX := hoB.alloc (.cells #[.int .u8 (d.length : Int)] 5)
      have hbX := hba.alloc hba.size (.cells #[.int .u8 (d.length : Int)] 5)
      have hsX := sees_lit wb 5 #[.int .u8 (d.length : Int)] [(d.length : Int)] rfl _ (Nat.lt_succ_self _) (by simp [maxLen]) wb.heap.size 1 1 rfl rfl rfl
      go_wp2_with (at_builtin; go_loud (refine wpList_appendL _ rfl (.tmp 21) (.tmp 26) 37 rfl w0.heap.size infoU8 Tryz.underlying37 _ [1] w0 hoX hbX rfl _ _ [(d.length : Int)] rfl hsX hbX.size (by simp <;> omega) ?_))
      intro v3 w3 ho3 hb3
      obtain ⟨z3, b0, b1, b2, b3, b4⟩ := hbox.out.cell w3 hb3
      clear hoX hbX hsX hoB a0 a1 a2 a3 a4
      go_wp2_with (at_builtin; go_loud (refine wpList_appendL _ rfl (.tmp 28) (.tmp 30) 37 rfl w0.heap.size infoU8 Tryz.underlying37 v3 ([1] ++ [(d.length : Int)]) w0 ho3 hb3 rfl w.heap.size (.slice A d.length c) d rfl (hvd.out.below (hbox.out.below.trans (hb3.mono (by omega)))) hb3.size (by simp <;> omega) ?_))
      intro v4 w4 ho4 hb4
      have ho4 : OwnsL w4 w0.heap.size v4 body := by rw [hbd]; simpa using ho4
      obtain ⟨z4, d0, d1, d2, d3, d4⟩ := hbox.out.cell w4 hb4
      have ho4S := ho4.sees
      clear ho3 hb3 b0 b1 b2 b3 b4
      go_wp2_with fail
      refine (hH v4 w4 ho4S).out.mono ?_
      rintro e w5 ⟨rfl, hb⟩
      have ho5 := ho4.below hb (Nat.le_refl _)
      have hb5 := hb4.trans (hb.mono hb4.size)
      clear hH ho4S ho4 hb hb4 d0 d1 d2 d3 d4
      go_wp2_with (at_builtin; go_loud (refine wpList_appendL _ rfl (.tmp 38) (.tmp 44) 37 rfl w0.heap.size infoU8 Tryz.underlying37 v4 body w0 (ho5.alloc _) (hb5.alloc hb5.size _) rfl _ _ (Fr.two S) rfl (sees_lit w5 _ _ _ (by simp [Fr.two]) _ (Nat.lt_succ_self _) (by simp [Fr.two, maxLen]) _ _ _ rfl rfl rfl) (by simp; have := hb5.size; omega) (by simp [Fr.two]; omega) ?_))
      intro v6 w6 ho6 hb6
      have hfin : OwnsL w6 w.heap.size v6 (body ++ Fr.two S) := by
        rw [hbd]
        simpa using ho6.base (B := w.heap.size) (by omega)
      have hbf := hbox.out.below.trans (hb6.mono (by omega))
      clear hwr ho6
      go_wp2
      go_ret2
      exact ⟨_, rfl, hfin, hbf⟩
    case neg =>
      go_enter Tryz.func71, Tryz.ntmps71
      go_wp2_with fail
      have hbox := Lib.hid (box5 w (.int .i64 k) (.int .i64 st.r) (.int .i64 st.s) (.int .i64 st.m) (.slice A d.length c) 137)
      generalize w.alloc (.cells #[.int .i64 k, .int .i64 st.r, .int .i64 st.s, .int .i64 st.m, .slice A d.length c] 137) = w0 at *
      have hz0 : w0.heap.size ≤ w.heap.size + 1 ∧ w.heap.size + 1 ≤ w0.heap.size := by have := hbox.out.size; omega
      refine (his _ hbox.out.below).out.mono ?_
      rintro e w1 ⟨rfl, hb1⟩
      obtain ⟨z1, c10, c11, c12, c13, c14⟩ := hbox.out.cell w1 hb1
      clear his
      go_wp2_with fail
      refine (hspell _).out.mono ?_
      rintro e wa ⟨va, rfl, hoa, hba⟩
      have hba2 := (hb1.alloc hb1.size (.cells #[.int .u8 k] 5)).trans (hba.mono (by simp; have := hb1.size; omega))
      have hob := (owns_lit w1 5 rfl #[.int .u8 k] [k] rfl w0.heap.size hb1.size (by simp [maxLen]) w1.heap.size 1 1 rfl rfl rfl).below hba (Nat.le_refl _)
      have hoaS := hoa.sees
      clear c10 c11 c12 c13 c14 hba hspell hb1 hoa
      go_wp2_with (at_builtin; go_loud (refine wpList_appendL _ rfl (.tmp 16) (.tmp 19) 37 rfl w0.heap.size infoU8 Tryz.underlying37 _ [k] w0 hob hba2 rfl wa.heap.size va sb rfl hoaS hba2.size (by simp <;> omega) ?_))
      intro vb wb hoB hbb
      obtain ⟨za, a0, a1, a2, a3, a4⟩ := hbox.out.cell wb hbb
      have hoX := hoB.alloc (.cells #[.int .u8 (d.length : Int)] 5)
      have hbX := hbb.alloc hbb.size (.cells #[.int .u8 (d.length : Int)] 5)
      have hsX := sees_lit wb 5 #[.int .u8 (d.length : Int)] [(d.length : Int)] rfl _ (Nat.lt_succ_self _) (by simp [maxLen]) wb.heap.size 1 1 rfl rfl rfl
      clear hob hoaS hba2
      go_wp2_with (at_builtin; go_loud (refine wpList_appendL _ rfl (.tmp 21) (.tmp 26) 37 rfl w0.heap.size infoU8 Tryz.underlying37 _ ([k] ++ sb) w0 hoX hbX rfl _ _ [(d.length : Int)] rfl hsX hbX.size (by simp <;> omega) ?_))
      intro v3 w3 ho3 hb3
      obtain ⟨z3, b0, b1, b2, b3, b4⟩ := hbox.out.cell w3 hb3
      clear hoX hbX hsX hoB a0 a1 a2 a3 a4
      go_wp2_with (at_builtin; go_loud (refine wpList_appendL _ rfl (.tmp 28) (.tmp 30) 37 rfl w0.heap.size infoU8 Tryz.underlying37 v3 (([k] ++ sb) ++ [(d.length : Int)]) w0 ho3 hb3 rfl w.heap.size (.slice A d.length c) d rfl (hvd.out.below (hbox.out.below.trans (hb3.mono (by omega)))) hb3.size (by simp <;> omega) ?_))
      intro v4 w4 ho4 hb4
      have ho4 : OwnsL w4 w0.heap.size v4 body := by rw [hbd]; simpa using ho4
      obtain ⟨z4, d0, d1, d2, d3, d4⟩ := hbox.out.cell w4 hb4
      have ho4S := ho4.sees
      clear ho3 hb3 b0 b1 b2 b3 b4
      go_wp2_with fail
      refine (hH v4 w4 ho4S).out.mono ?_
      rintro e w5 ⟨rfl, hb⟩
      have ho5 := ho4.below hb (Nat.le_refl _)
      have hb5 := hb4.trans (hb.mono hb4.size)
      clear hH ho4S ho4 hb hb4 d0 d1 d2 d3 d4
      go_wp2_with (at_builtin; go_loud (refine wpList_appendL _ rfl (.tmp 38) (.tmp 44) 37 rfl w0.heap.size infoU8 Tryz.underlying37 v4 body w0 (ho5.alloc _) (hb5.alloc hb5.size _) rfl _ _ (Fr.two S) rfl (sees_lit w5 _ _ _ (by simp [Fr.two]) _ (Nat.lt_succ_self _) (by simp [Fr.two, maxLen]) _ _ _ rfl rfl rfl) (by simp; have := hb5.size; omega) (by simp [Fr.two]; omega) ?_))
      intro v6 w6 ho6 hb6
      have hfin : OwnsL w6 w.heap.size v6 (body ++ Fr.two S) := by
        rw [hbd]
        simpa using ho6.base (B := w.heap.size) (by omega)
      have hbf := hbox.out.below.trans (hb6.mono (by omega))
      clear hwr ho6
      go_wp2
      go_ret2
      exact ⟨_, rfl, hfin, hbf⟩
end Go.Proofs.YtpdenmcacaajkaaGreat
