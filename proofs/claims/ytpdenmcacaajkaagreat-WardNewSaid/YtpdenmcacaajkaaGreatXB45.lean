/- Texts SrA, LineA, LineB, LineC in one. For what each says in front of its theorems. -/
import Derived.Test.YtpdenmcacaajkaaGreatRows
import Derived.WalkKit
import Derived.WalkSpells
import Derived.WalkLawsBesides
import Derived.Below
import Derived.Test.YtpdenmcacaajkaaGreatXB1
import Derived.Test.YtpdenmcacaajkaaGreatXB5
/-! ### SrA -/
namespace Go.Proofs.YtpdenmcacaajkaaGreat
open Go.RowKit

/-- A fault. -/
structure Ft where
  k : Int
  n : Int
  a : Int
  d : List Int
instance : Inhabited Ft := ⟨⟨0, 0, 0, []⟩⟩
/-- May it be? -/
def ftMay (k n a : Int) (len : Nat) : Bool := decide (1 ≤ k) && decide (k ≤ 7) && decide (0 ≤ n) && decide (n ≤ if k = 4 ∨ k = 7 then 1 else 7) && decide (-1000 ≤ a) && decide (a ≤ 1000) && decide (len ≤ 24)
theorem ftMay_iff (k n a : Int) (d : Nat) : ftMay k n a d = true ↔ 1 ≤ k ∧ k ≤ 7 ∧ 0 ≤ n ∧ n ≤ (if k = 4 ∨ k = 7 then 1 else 7) ∧ -1000 ≤ a ∧ a ≤ 1000 ∧ d ≤ 24 := by
  unfold ftMay
  simp only [Bool.and_eq_true, decide_eq_true_eq]
  omega
def Ft.may (f : Ft) : Bool := ftMay f.k f.n f.a f.d.length
/-- Faults in memory. -/
structure SeesF (W : World) (B : Nat) (v : Value) (l : List Ft) : Prop where
  at_ : ∃ A c, v = .slice A l.length c ∧ l.length ≤ c ∧ c ≤ maxLen ∧ (0 < l.length → ∃ b off, A = some ⟨b, off, none⟩ ∧ b < B ∧ ∀ i, i < l.length → W.cell? ⟨b, off + i * 4, none⟩ = some (.int .i64 (l.getD i default).k) ∧ W.cell? ⟨b, off + i * 4 + 1, none⟩ = some (.int .i64 (l.getD i default).n) ∧ W.cell? ⟨b, off + i * 4 + 2, none⟩ = some (.int .i64 (l.getD i default).a) ∧
    ∃ v, W.cell? ⟨b, off + i * 4 + 3, none⟩ = some v ∧ SeesL W B v (l.getD i default).d)
  by_ : ∀ f ∈ l, bytesL f.d
theorem SeesF.below {W W' : World} {B : Nat} {v : Value} {l : List Ft} (h : SeesF W B v l) (hb : Below B W W') : SeesF W' B v l := ⟨by
  obtain ⟨A, c, rfl, h1, h2, h3⟩ := h.at_
  refine ⟨A, c, rfl, h1, h2, fun h0 => ?_⟩
  obtain ⟨b, off, rfl, hbB, hc⟩ := h3 h0
  refine ⟨b, off, rfl, hbB, fun i hi => ?_⟩
  obtain ⟨c0, c1, c2, u, c3, hu⟩ := hc i hi
  exact ⟨(hb.cell (p := ⟨b, off + i * 4, none⟩) hbB).trans c0, (hb.cell (p := ⟨b, off + i * 4 + 1, none⟩) hbB).trans c1, (hb.cell (p := ⟨b, off + i * 4 + 2, none⟩) hbB).trans c2, u, (hb.cell (p := ⟨b, off + i * 4 + 3, none⟩) hbB).trans c3, hu.below hb⟩, h.by_⟩
theorem SeesF.more {W : World} {B B' : Nat} {v : Value} {l : List Ft} (h : SeesF W B v l) (hB : B ≤ B') : SeesF W B' v l := ⟨by
  obtain ⟨A, c, rfl, h1, h2, h3⟩ := h.at_
  refine ⟨A, c, rfl, h1, h2, fun h0 => ?_⟩
  obtain ⟨b, off, rfl, hbB, hc⟩ := h3 h0
  refine ⟨b, off, rfl, by omega, fun i hi => ?_⟩
  obtain ⟨c0, c1, c2, u, c3, hu⟩ := hc i hi
  exact ⟨c0, c1, c2, u, c3, hu.more hB⟩, h.by_⟩
theorem SeesF.nil {W : World} {B : Nat} : SeesF W B (.slice none 0 0) [] := ⟨⟨none, 0, rfl, Nat.le_refl _, Nat.zero_le _, fun h => absurd h (by simp)⟩, fun _ h => by cases h⟩

set_option maxRecDepth 100000 in
set_option maxHeartbeats 4000000 in
theorem isNone_sr (k n a : Int) (A : Option Addr) (d c : Nat) (w : World) :
    Calls Tryz.prog 155 #[.agg #[.int .i64 k, .int .i64 n, .int .i64 a, .slice A d c]] w fun e w' => e = .returned (.bool (!ftMay k n a d)) ∧ Below w.heap.size w w' := by
  have hb0 := (Below.refl w.heap.size w).alloc (Nat.le_refl _) (.cells #[.int .i64 k, .int .i64 n, .int .i64 a, .slice A d c] 206)
  have hX := Blk.new w _ rfl #[.int .i64 k, .int .i64 n, .int .i64 a, .slice A d c] 206
  have x0 := hX.cell 0 (x := .int .i64 k) rfl
  have x1 := hX.cell 1 (x := .int .i64 n) rfl
  have x2 := hX.cell 2 (x := .int .i64 a) rfl
  have x3 := hX.cell 3 (x := .slice A d c) rfl
  have K := Lib.hid (ftMay_iff k n a d)
  clear hX
  generalize ftMay k n a d = q at *
  by_cases h4 : k = 4
  · subst h4
    go_enter Tryz.func155, Tryz.ntmps155
    go_wp2
    all_goals
      go_ret
      refine ⟨?_, hb0⟩
      have K := K.out
      cases q <;> simp at K ⊢ <;> omega
  · by_cases h7 : k = 7
    · subst h7
      go_enter Tryz.func155, Tryz.ntmps155
      go_wp2
      all_goals
        go_ret
        refine ⟨?_, hb0⟩
        have K := K.out
        cases q <;> simp at K ⊢ <;> omega
    · have q4 : (k == 4) = false := by rw [beq_eq_false_iff_ne]; exact h4
      have q7 : (k == 7) = false := by rw [beq_eq_false_iff_ne]; exact h7
      go_enter Tryz.func155, Tryz.ntmps155
      go_wp2
      all_goals
        go_ret
        refine ⟨?_, hb0⟩
        have K := K.out
        cases q <;> simp at K ⊢ <;> omega

theorem ftAt (l : List Ft) (k : Nat) (hk : k < l.length) : l.getD k default ∈ l := by
  rw [List.getD_eq_getElem?_getD, List.getElem?_eq_getElem hk]
  exact List.getElem_mem hk
/-- All of the first k may be. -/
def ftAll (l : List Ft) (k : Nat) : Bool := (l.take k).all Ft.may
theorem ftAll_succ (l : List Ft) (k : Nat) (hk : k < l.length) : ftAll l (k + 1) = (ftAll l k && (l.getD k default).may) := by
  unfold ftAll
  rw [List.take_add_one, List.all_append, List.getD_eq_getElem?_getD, List.getElem?_eq_getElem hk]
  simp
theorem ftAll_more (l : List Ft) (k : Nat) (_hk : k ≤ l.length) (h : ftAll l k = false) : ftAll l l.length = false := by
  unfold ftAll at *
  rw [Bool.eq_false_iff] at h ⊢
  intro e
  refine h ?_
  rw [List.all_eq_true] at e ⊢
  intro x hx
  exact e x (by rw [List.take_length]; exact List.mem_of_mem_take hx)
set_option maxRecDepth 100000 in
set_option maxHeartbeats 4000000 in
theorem indexF_sr (v : Value) (l : List Ft) (w : World) (hs : SeesF w w.heap.size v l) :
    Calls Tryz.prog 173 #[v, .func (.func 155) #[] #[]] w fun e w' =>
      ∃ r : Int, e = .returned (.int .i64 r) ∧ decide (0 ≤ r) = !ftAll l l.length ∧ Below w.heap.size w w' := by
  obtain ⟨A, c, rfl, hlen, hc, hs⟩ := hs.at_
  unfold maxLen at hc
  have h0 : Hid (ftAll l 0 = true) := Lib.hid (by simp [ftAll])
  have hS := fun k h => Lib.hid (ftAll_succ l k h)
  have hM := fun k h => Lib.hid (ftAll_more l k h)
  go_enter Tryz.func173, Tryz.ntmps173
  go_wp2
  go_loopw [8] (fun i wr => ∃ k : Nat, k ≤ l.length ∧ i = .int .i64 k ∧ Hid (ftAll l k = true) ∧ Below w.heap.size w wr) (fun i _ => l.length - (intOf i).toNat)
  case atStart => exact ⟨0, by omega, rfl, h0, Below.refl _ _⟩
  case round =>
    obtain ⟨k, hk, rfl, hn, hb⟩ := hrel
    by_cases hlt : k < l.length
    · obtain ⟨b, off, rfl, hbb, hd⟩ := hs (by omega)
      obtain ⟨c0, c1, c2, u, c3, hu⟩ := hd k hlt
      have c0 := (hb.cell (p := ⟨b, off + k * 4, none⟩) hbb).trans c0
      have c1 := (hb.cell (p := ⟨b, off + k * 4 + 1, none⟩) hbb).trans c1
      have c2 := (hb.cell (p := ⟨b, off + k * 4 + 2, none⟩) hbb).trans c2
      have c3 := (hb.cell (p := ⟨b, off + k * 4 + 3, none⟩) hbb).trans c3
      obtain ⟨A', cc, rfl, -⟩ := hu.at_
      have q1 : decide ((k : Int) < (l.length : Nat)) = true := by simp; omega
      have hS := hS k hlt
      have hM := hM (k + 1) (by omega)
      unfold Ft.may at hS
      generalize l.getD k default = f at *
      have hcall := Lib.hid (isNone_sr f.k f.n f.a A' f.d.length cc wr)
      clear hd hu
      cases hdn : ftMay f.k f.n f.a f.d.length
      all_goals
        rw [hdn] at hcall hS
        go_wp2_with fail
        refine hcall.out.mono ?_
        rintro e w1 ⟨rfl, hb1⟩
        have hb2 := hb.trans (hb1.mono hb.size)
        clear hcall
        go_wp2
      · go_ret
        refine ⟨k, rfl, ?_, hb2⟩
        rw [hM.out (by rw [hS.out]; simp)]
        simp
      · go_roundw
        case rel => exact ⟨k + 1, by omega, by go_num, Lib.hid (by rw [hS.out, hn.out]; rfl), hb2⟩
        case measure => simp [intOf]; omega
    · obtain rfl : k = l.length := by omega
      have q1 : decide ((l.length : Int) < (l.length : Nat)) = false := by simp
      go_wp2
      go_ret
      exact ⟨-1, rfl, by rw [hn.out]; decide, hb⟩
set_option maxRecDepth 100000 in
set_option maxHeartbeats 4000000 in
theorem containsF_sr (v : Value) (l : List Ft) (w : World) (hs : SeesF w w.heap.size v l) :
    Calls Tryz.prog 154 #[v, .func (.func 155) #[] #[]] w fun e w' =>
      e = .returned (.bool (!ftAll l l.length)) ∧ Below w.heap.size w w' := by
  have hI := Lib.hid (indexF_sr v l w hs)
  generalize ftAll l l.length = h at *
  obtain ⟨A, c, rfl, -⟩ := hs.at_
  go_enter Tryz.func154, Tryz.ntmps154
  go_wp2_with fail
  refine hI.out.mono ?_
  rintro e w1 ⟨r, rfl, hr, hb⟩
  have hr2 : decide (r ≥ 0) = !h := by rw [← hr]
  clear hI
  go_wp2
  go_ret
  exact ⟨by simp [← hr], hb⟩
/-- May faults be? -/
def ftIs (l : List Ft) : Bool := decide (l.length ≤ 4) && l.all Ft.may
set_option maxRecDepth 100000 in
set_option maxHeartbeats 4000000 in
theorem is_sr (v : Value) (l : List Ft) (w : World) (hs : SeesF w w.heap.size v l) :
    Calls Tryz.prog 138 #[v] w fun e w' => e = .returned (.bool (ftIs l)) ∧ Below w.heap.size w w' := by
  have hC := Lib.hid (containsF_sr v l w hs)
  have e1 : ftAll l l.length = l.all Ft.may := by simp [ftAll]
  rw [e1] at hC
  unfold ftIs
  generalize l.all Ft.may = h at *
  obtain ⟨A, c, rfl, -⟩ := hs.at_
  by_cases h4 : l.length ≤ 4
  · have q1 : decide ((l.length : Int) ≤ 4) = true := by simp; omega
    rw [show decide (l.length ≤ 4) = true from decide_eq_true h4]
    go_enter Tryz.func138, Tryz.ntmps138
    go_wp2_with fail
    refine hC.out.mono ?_
    rintro e w1 ⟨rfl, hb⟩
    go_wp2
    go_ret
    exact ⟨by simp, hb⟩
  · have q1 : decide ((l.length : Int) ≤ 4) = false := by simp; omega
    rw [show decide (l.length ≤ 4) = false from decide_eq_false h4]
    go_enter Tryz.func138, Tryz.ntmps138
    go_wp2
    go_ret
    exact ⟨by simp, Below.refl _ _⟩
end Go.Proofs.YtpdenmcacaajkaaGreat

/-! ### LineA -/
namespace Go.Proofs.YtpdenmcacaajkaaGreat
open Go.RowKit

/-- A part that is asked for, or nothing. -/
def part (f : Bool) (a : Nat) : Nat := if f then a else 0
def parts (s : Bool) (a b : Nat) : Nat := if s then b else a

set_option maxRecDepth 100000 in
theorem keep_any (a b : Nat) (f s : Bool) (w : World) :
    Calls Tryz.prog 197 #[.complex .f64 a b, .bool f, .bool s] w fun e w' =>
      e = .returned (.complex .f64 (part f a) (part s b)) ∧ w = w' := by
  cases f <;> cases s
  all_goals
    go_enter Tryz.func197, Tryz.ntmps197
    go_wp2
    go_ret
    exact ⟨by simp [part], rfl⟩

set_option maxRecDepth 100000 in
theorem level_any (a b : Nat) (s : Bool) (w : World) :
    Calls Tryz.prog 199 #[.complex .f64 a b, .bool s] w fun e w' =>
      e = .returned (.float .f64 (parts s a b)) ∧ w = w' := by
  cases s
  all_goals
    go_enter Tryz.func199, Tryz.ntmps199
    go_wp2
    go_ret
    exact ⟨by simp [parts], rfl⟩
end Go.Proofs.YtpdenmcacaajkaaGreat

/-! ### LineB -/
namespace Go.Proofs.YtpdenmcacaajkaaGreat
open Go.RowKit

set_option maxRecDepth 100000 in
theorem infoCx : (Tryz.prog.info? 239).map (fun i => (i.zero, i.size, i.bytes)) = some (some (.complex .f64 0 0), 1, 16) := by kernel_rfl

def hi : Nat := 4607182418800017408
def lo : Nat := 13830554455654793216
def bitv (x : Int) (j : Nat) : Bool := x.toNat.testBit (7 - j)
def lvl (b : Bool) : Nat := if b then hi else lo
def drv (f s : Bool) (z : Nat → Int) (k : Nat) : Value := .complex .f64 (part f (lvl (bitv (z (k / 8)) (k % 8)))) (part s (lvl (bitv (z (k / 8)) (k % 8))))


set_option maxRecDepth 100000 in
theorem bit_test (x : Int) (j : Nat) (h0 : 0 ≤ x) (h1 : x < 256) (hj : j < 8) : (bits BinOp.and IntKind.u8 x (128 / 2 ^ j) != 0) = bitv x j := by
  obtain ⟨n, rfl⟩ := Int.eq_ofNat_of_zero_le h0
  have hn : n < 256 := by omega
  have key : ∀ j : Fin 8, ∀ n : Fin 256, (bits BinOp.and IntKind.u8 ((n.val : Nat) : Int) (128 / 2 ^ j.val) != 0) = bitv ((n.val : Nat) : Int) j.val := by decide +kernel
  exact key ⟨j, hj⟩ ⟨n, hn⟩

set_option maxRecDepth 100000 in
set_option maxHeartbeats 400000 in
theorem drive_any (A : Option Addr) (n c : Nat) (z : Nat → Int) (f s : Bool) (w : World) (h : Sees w w.heap.size A n fun k => .int .u8 (z k)) (hz : ∀ k, k < n → 0 ≤ z k ∧ z k < 256) (hn : n ≤ c) (hc : c ≤ maxLen) :
    Calls Tryz.prog 187 #[.slice A n c, .bool f, .bool s] w fun e w' =>
      ∃ v, e = .returned v ∧ Owns w' w.heap.size 239 v (8 * min n 50) (drv f s z) ∧ Below w.heap.size w w' := by
  unfold maxLen at hc
  obtain ⟨i0, hi, hz0, hz1, hz2⟩ := info_parts infoCx
  by_cases hb : n ≤ 50
  case' pos => obtain ⟨m, hm1, hm2, hm3, hm4⟩ : ∃ m, m ≤ n ∧ n ≤ m ∧ m ≤ 50 ∧ m = min n 50 := ⟨n, by omega, by omega, by omega, by omega⟩
  case' neg => obtain ⟨m, hm1, hm2, hm3, hm4⟩ : ∃ m, m ≤ 50 ∧ 50 ≤ m ∧ m ≤ n ∧ m = min n 50 := ⟨50, by omega, by omega, by omega, by omega⟩
  all_goals
    have H4 := Lib.hid hm4
    clear hm4
    go_enter Tryz.func187, Tryz.ntmps187
    go_wp2_with (at_make; refine wpList_make_own _ rfl _ _ 209 rfl w.heap.size 239 i0 (.complex .f64 0 0) 1 Tryz.underlying209 hi hz0 hz1 _ _ _ (8 * m) rfl rfl (by omega) ?b2 ?b3 (Nat.le_refl _) ?_)
    case b2 => rw [hz2]; omega
    case b3 => unfold maxLen; omega
    intro w0 hown0 hgrow0
    go_wp2
    go_loopw [7, 23] (fun v i wr => ∃ k : Nat, k ≤ m ∧ i = .int .i64 k ∧ Owns wr w.heap.size 239 v (8 * k) (drv f s z) ∧ Below w.heap.size w wr) (fun _ i _ => m - (intOf i).toNat)
    case atStart => exact ⟨0, by omega, rfl, hown0, (Below.refl _ _).grown hgrow0 (Nat.le_refl _) (fun k h => by cases h)⟩
    case round =>
      obtain ⟨k, hk, rfl, hown, hbel⟩ := hrel
      by_cases hlt : k < m
      · obtain ⟨b, off, rfl, hbb, hcell⟩ := h (by omega)
        have hx : wr.cell? ⟨b, off + k, none⟩ = some (.int .u8 (z k)) := (hbel.cell hbb).trans (hcell k (by omega))
        have hzk := hz k (by omega)
        clear hcell hgrow0 hown0
        have hdk : decide (k < n) = true := by simp; omega
        have hdk' : decide ((k : Int) < 50) = true := by simp; omega
        go_wp2
        go_loopw [7, 27] (fun v i wx => ∃ j : Nat, j ≤ 8 ∧ i = .int .i64 j ∧ Owns wx w.heap.size 239 v (8 * k + j) (drv f s z) ∧ Below w.heap.size w wx) (fun _ i _ => 8 - (intOf i).toNat)
        case atStart => exact ⟨0, by omega, rfl, hown, hbel⟩
        case round =>
          clear hown hbel
          obtain ⟨j, hj, rfl, hown, hbel⟩ := hrel
          have hB := hbel.size
          by_cases hlj : j < 8
          · have hbt := bit_test (z k) j hzk.1 hzk.2 hlj
            have hd : drv f s z (8 * k + j) = .complex .f64 (part f (lvl (bitv (z k) j))) (part s (lvl (bitv (z k) j))) := by
              unfold drv; rw [show (8 * k + j) / 8 = k by omega, show (8 * k + j) % 8 = j by omega]
            cases hv : bitv (z k) j
            all_goals
              rw [hv] at hbt hd
              have hd' := Lib.hid hd
              clear hd hv
              go_wp2_with (first
                | (go_at_call 197; refine (keep_any _ _ f s _).mono ?_; rintro e w' ⟨rfl, rfl⟩)
                | (at_builtin; go_loud (refine wpList_push _ rfl _ _ 209 rfl w.heap.size 239 (.complex .f64 0 0) 16 infoCx rfl Tryz.underlying209 _ _ _ w hown hbel rfl _ rfl rfl hB ?_ ?_ hd'.out.symm ?_)))
              · unfold maxLen; omega
              · omega
              intro v' w1 hown' hbel' _
              go_wp2
              go_roundw
              case rel => exact ⟨j + 1, by omega, by go_num, hown', hbel'⟩
              case measure => simp [intOf]; omega
          · go_wp2
            go_roundw
            case rel => exact ⟨k + 1, by omega, by go_num, by rw [show 8 * (k + 1) = 8 * k + j by omega]; exact hown, hbel⟩
            case measure => simp [intOf]; omega
      · go_wp2
        go_ret
        exact ⟨_, rfl, by rw [← H4.out, show m = k by omega]; exact hown, hbel⟩
end Go.Proofs.YtpdenmcacaajkaaGreat

/-! ### LineC -/
namespace Go.Proofs.YtpdenmcacaajkaaGreat
open Go.RowKit

end Go.Proofs.YtpdenmcacaajkaaGreat
