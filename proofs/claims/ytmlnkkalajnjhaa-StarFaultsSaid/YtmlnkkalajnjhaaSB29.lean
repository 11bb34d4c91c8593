/- Texts TbG, GdF, SrL, GdG, FrR, GdL in one. For what each says in front of its theorems. -/
import Derived.Laws.ResultCell
import Derived.Test.YtmlnkkalajnjhaaSB28
/-! ### TbG -/
namespace Go.Proofs.Ytmlnkkalajnjhaa
open Go.RowKit
open Tb (D T)

theorem two_ok (n : Int) (h : 0 ≤ n ∧ n ≤ 65535) : IntKind.u8.wrap (n / 256) = n / 256 ∧ IntKind.u8.wrap n = n % 256 := by
  rw [IntKind.wrap_u8, IntKind.wrap_u8]
  omega
/-- A node of the call's own goes behind a list. -/
theorem info_def : (Try.prog.info? 80).map (fun i => (i.zero, i.size, i.bytes)) = some (some (.agg #[.bool false, .bool false, .int .i64 0, .int .i64 0]), 4, 24) := by kernel_rfl
theorem OwnsD.snoc {w : World} {B : Nat} {v : Value} {l : List D} {d : D} (h : w.ownsRow B 80 4 v (l.length + 1) (l.flatMap dc ++ dc d)) : OwnsD w B v (l ++ [d]) := by
  unfold OwnsD
  rw [List.length_append, List.flatMap_append]
  simpa using h
theorem defs_room {n : Nat} (h : n ≤ 100000) : n + 1 ≤ maxLen ∧ (n + 1) * 24 ≤ 140737488355328 := ⟨by unfold maxLen; omega, by omega⟩
theorem src_def (w : World) (d : D) (g n c : Nat) (hn : n = 1) (hd : AtD w g 0 d) : Src w (.slice (some ⟨g, 0, none⟩) n c) 4 1 (dc d) := by
  subst hn
  refine .inr ⟨_, c, rfl, rfl, fun j x hj => ?_, fun x hx => ?_⟩
  · match j, hj with
    | 0, hj => simp [dc] at hj; subst hj; exact hd.c0
    | 1, hj => simp [dc] at hj; subst hj; exact hd.c1
    | 2, hj => simp [dc] at hj; subst hj; exact hd.c2
    | 3, hj => simp [dc] at hj; subst hj; exact hd.c3
    | j + 4, hj => simp [dc] at hj
  · simp only [dc, List.mem_cons, List.not_mem_nil, or_false] at hx
    rcases hx with rfl | rfl | rfl | rfl <;> rfl
theorem atD_new (w : World) (d : D) (t : TypeId) (g : Nat) (hg : g = w.heap.size) : AtD (w.alloc (.cells #[.bool d.sy, .bool d.inf, .int .i64 d.li, .int .i64 d.sz] t)) g 0 d :=
  ⟨by rw [World.cell?_alloc_at _ _ _ _ hg]; rfl, by rw [World.cell?_alloc_at _ _ _ _ hg]; rfl, by rw [World.cell?_alloc_at _ _ _ _ hg]; rfl, by rw [World.cell?_alloc_at _ _ _ _ hg]; rfl⟩
end Go.Proofs.Ytmlnkkalajnjhaa

/-! ### GdF -/
namespace Go.Proofs.Ytmlnkkalajnjhaa
open Go.RowKit
open Tb (D T)

def someD (i : Nat) : D := ⟨decide ((i : Int) < 4) || ((i : Int) % 2 == 0), ((i : Int) % 3 == 0), 20 + 3 * ((i : Int) * 5 % 8), 4⟩
def someL (n : Nat) : List D := (List.range n).map someD
def someT (n : Nat) (dr : Int) : T := ⟨someL n, dr, 4 * dr + 6, 4 * dr + 9⟩
theorem someL_length (n : Nat) : (someL n).length = n := by simp [someL]
theorem someL_succ (n : Nat) : someL (n + 1) = someL n ++ [someD n] := by simp [someL, List.range_succ]
theorem someL_get (n k : Nat) (hk : k < n) : (someL n).getD k default = someD k := by simp [someL, List.getD_eq_getElem?_getD, hk]
theorem some_is (n : Nat) (dr : Int) (h4 : 4 ≤ n) (h8 : n ≤ 8) (hd : 0 ≤ dr ∧ dr ≤ 200) : (someT n dr).is = true := by
  have ha : Tb.are (someL n) = true := by
    rcases (by omega : n = 4 ∨ n = 5 ∨ n = 6 ∨ n = 7 ∨ n = 8) with rfl | rfl | rfl | rfl | rfl <;> decide +kernel
  simp only [T.is, Tb.rest, someT, ha, Bool.true_and, Bool.and_eq_true, Tb.wi_iff]
  omega
theorem some_few (n : Nat) (dr : Int) (h4 : n < 4) : (someT n dr).is = false := by
  have ha : Tb.are (someL n) = false := by
    rcases (by omega : n = 0 ∨ n = 1 ∨ n = 2 ∨ n = 3) with rfl | rfl | rfl | rfl <;> decide +kernel
  simp only [T.is, someT, ha, Bool.false_and]
end Go.Proofs.Ytmlnkkalajnjhaa

/-! ### SrL -/
namespace Go.Proofs.Ytmlnkkalajnjhaa
open Go.RowKit
open Tb (D T)

set_option maxRecDepth 100000 in
set_option maxHeartbeats 4000000 in
theorem some_sr (n : Nat) (dr : Int) (hn : n ≤ 8) (hd : 0 ≤ dr ∧ dr ≤ 1000) (w : World) :
    Calls Try.prog 17 #[.int .i64 (n : Nat), .int .i64 dr] w fun e w' => ∃ v, e = .returned (tabV (someT n dr) v) ∧ OwnsD w' w.heap.size v (someL n) ∧ Below w.heap.size w w' := by
  have hsu := Lib.hid someL_succ
  have hsl := Lib.hid someL_length
  have z1 : IntKind.i64.wrap (4 * dr) = 4 * dr := IntWalk.i64_in _ (by omega)
  have z2 : IntKind.i64.wrap (4 * dr + 6) = 4 * dr + 6 := IntWalk.i64_in _ (by omega)
  have z3 : IntKind.i64.wrap (4 * dr + 9) = 4 * dr + 9 := IntWalk.i64_in _ (by omega)
  unfold someT tabV
  simp only
  go_enter Try.func17, Try.ntmps17
  have hb0 := ((Below.refl w.heap.size w).alloc (Nat.le_refl _) (.cells #[.slice none 0 0, .int .i64 0, .int .i64 0, .int .i64 0] 41)).alloc (by simp) (.cells #[.slice none 0 0, .int .i64 dr, .int .i64 (4 * dr + 6), .int .i64 (4 * dr + 9)] 41)
  have hR := (Blk.new w _ rfl #[.slice none 0 0, .int .i64 0, .int .i64 0, .int .i64 0] 41).alloc (.cells #[.slice none 0 0, .int .i64 dr, .int .i64 (4 * dr + 6), .int .i64 (4 * dr + 9)] 41)
  have hT := Blk.new (w.alloc (.cells #[.slice none 0 0, .int .i64 0, .int .i64 0, .int .i64 0] 41)) (w.heap.size + 1) (by simp) #[.slice none 0 0, .int .i64 dr, .int .i64 (4 * dr + 6), .int .i64 (4 * dr + 9)] 41
  go_wp2
  generalize (w.alloc (.cells #[.slice none 0 0, .int .i64 0, .int .i64 0, .int .i64 0] 41)).alloc (.cells #[.slice none 0 0, .int .i64 dr, .int .i64 (4 * dr + 6), .int .i64 (4 * dr + 9)] 41) = w0 at *
  have hz0 : w.heap.size + 1 < w0.heap.size := hT.lt
  go_loopw [6] (fun i wr => ∃ k : Nat, ∃ v : Value, k ≤ n ∧ i = .int .i64 k ∧ OwnsD wr w0.heap.size v (someL k) ∧ Blk wr (w.heap.size + 1) #[v, .int .i64 dr, .int .i64 (4 * dr + 6), .int .i64 (4 * dr + 9)] 41 ∧ w0.heap.size ≤ wr.heap.size ∧ Below (w.heap.size + 1) w0 wr) (fun i _ => n - (intOf i).toNat)
  case atStart => exact ⟨0, _, by omega, rfl, OwnsD.nil, hT, Nat.le_refl _, Below.refl _ _⟩
  case round =>
    obtain ⟨k, v, hk, rfl, hown, hblk, hz, hb⟩ := hrel
    by_cases hlt : k < n
    · have q1 : decide ((k : Int) < (n : Nat)) = true := by simp; omega
      have q2 : decide ((k : Int) < 8) = true := by simp; omega
      have t0 := hblk.cell 0 rfl
      have tf := hblk.frozen 0
      have hlk : (someL k).length ≤ 100000 := by rw [someL_length]; omega
      have hgv : v.ownBlock ≠ some (w.heap.size + 1) := fun e => by have := (hown.lt _ e).1; omega
      have key : ∀ b : Bool, someD k = ⟨b, ((k : Int) % 3 == 0), 20 + 3 * ((k : Int) * 5 % 8), 4⟩ → ∀ (v2 : Value) (w2 : World), w2.ownsRow w0.heap.size 80 4 v2 ((someL k).length + 1) ((someL k).flatMap dc ++ dc ⟨b, ((k : Int) % 3 == 0), 20 + 3 * ((k : Int) * 5 % 8), 4⟩) →
          Ext (wr.alloc (.cells #[.bool b, .bool ((k : Int) % 3 == 0), .int .i64 (20 + 3 * ((k : Int) * 5 % 8)), .int .i64 4] 80)) w2 v v2 → ∃ g2 c2, v2 = .slice (some ⟨g2, 0, none⟩) (k + 1) c2 ∧ Blk w2 (w.heap.size + 1) #[v, .int .i64 dr, .int .i64 (4 * dr + 6), .int .i64 (4 * dr + 9)] 41 ∧
          OwnsD (w2.setCell ⟨w.heap.size + 1, 0, none⟩ (.slice (some ⟨g2, 0, none⟩) (k + 1) c2)) w0.heap.size v2 (someL (k + 1)) ∧ Blk (w2.setCell ⟨w.heap.size + 1, 0, none⟩ (.slice (some ⟨g2, 0, none⟩) (k + 1) c2)) (w.heap.size + 1) #[.slice (some ⟨g2, 0, none⟩) (k + 1) c2, .int .i64 dr, .int .i64 (4 * dr + 6), .int .i64 (4 * dr + 9)] 41 ∧
          w0.heap.size ≤ (w2.setCell ⟨w.heap.size + 1, 0, none⟩ (.slice (some ⟨g2, 0, none⟩) (k + 1) c2)).heap.size ∧ Below (w.heap.size + 1) w0 (w2.setCell ⟨w.heap.size + 1, 0, none⟩ (.slice (some ⟨g2, 0, none⟩) (k + 1) c2)) := fun b hsd v2 w2 ho2 hx2 => by
        rw [← hsd] at ho2
        have ho3 : OwnsD w2 w0.heap.size v2 (someL (k + 1)) := by
          rw [hsu.out]
          exact OwnsD.snoc ho2
        have hxx := ((Ext.refl wr v).alloc (.cells #[.bool b, .bool ((k : Int) % 3 == 0), .int .i64 (20 + 3 * ((k : Int) * 5 % 8)), .int .i64 4] 80)).trans hx2
        have hb2 := hb.trans (hxx.toBelow (B := w.heap.size + 1) (by omega) (fun j hj => by have := (hown.lt j hj).1; omega))
        have hblk5 := hblk.ext hxx hgv
        have hl1 := hsl.out (k + 1)
        obtain ⟨g2, c2, rfl, hg2⟩ : ∃ g2 c2, v2 = .slice (some ⟨g2, 0, none⟩) (k + 1) c2 ∧ w0.heap.size ≤ g2 := by
          rcases ho3.form with ⟨-, h0⟩ | ⟨g2, c2, h, h1, -⟩
          · omega
          · exact ⟨g2, c2, by rw [h, hl1], h1⟩
        refine ⟨g2, c2, rfl, hblk5, ho3.setOther ⟨w.heap.size + 1, 0, none⟩ _ (by simp [Value.ownBlock]; omega), by simpa using hblk5.set 0 (.slice (some ⟨g2, 0, none⟩) (k + 1) c2), by have := hxx.size; simp only [World.setCell, Array.size_modify]; omega, Below.setCell (p := ⟨w.heap.size + 1, 0, none⟩) hb2 (Nat.le_refl _) _⟩
      have key := fun b h => Lib.hid (key b h)
      have hSD : Hid (∀ b, ((b = true ∧ (k : Int) < 4) ∨ (b = ((k : Int) % 2 == 0) ∧ ¬ (k : Int) < 4)) → someD k = ⟨b, ((k : Int) % 3 == 0), 20 + 3 * ((k : Int) * 5 % 8), 4⟩) := Lib.hid fun b hb => by
        unfold someD
        rcases hb with ⟨rfl, h⟩ | ⟨rfl, h⟩ <;> simp [h]
      by_cases q4 : (k : Int) < 4
      · have K := key true (hSD.out true (.inl ⟨rfl, q4⟩))
        have hAt := atD_new wr ⟨true, ((k : Int) % 3 == 0), 20 + 3 * ((k : Int) * 5 % 8), 4⟩ 80 wr.heap.size rfl
        go_wp2_with (at_builtin; go_loud (refine wpList_pushC _ rfl (.tmp 25) (.tmp 42) 39 rfl w0.heap.size 80 _ 4 24 info_def rfl (by omega) Try.underlying39 v (someL k).length _ (hown.alloc _) rfl _ 1 _ rfl (src_def _ ⟨true, ((k : Int) % 3 == 0), 20 + 3 * ((k : Int) * 5 % 8), 4⟩ _ _ _ rfl hAt) (by simp; omega) (defs_room hlk).1 (defs_room hlk).2 ?_))
        intro v2 w2 ho2 hx2
        obtain ⟨g2, c2, rfl, B1, O1, B2, Z1, W1⟩ := K.out v2 w2 ho2 hx2
        have u0 := B1.cell 0 rfl
        have uf := B1.frozen 0
        clear t0 tf ho2 hx2 hAt B1 K key
        go_wp2
        go_roundw
        case rel => exact ⟨k + 1, _, by omega, by go_num, O1, B2, Z1, W1⟩
        case measure => simp [intOf]; omega
      · have K := key _ (hSD.out _ (.inr ⟨rfl, q4⟩))
        have hAt := atD_new wr ⟨((k : Int) % 2 == 0), ((k : Int) % 3 == 0), 20 + 3 * ((k : Int) * 5 % 8), 4⟩ 80 wr.heap.size rfl
        go_wp2_with (at_builtin; go_loud (refine wpList_pushC _ rfl (.tmp 25) (.tmp 42) 39 rfl w0.heap.size 80 _ 4 24 info_def rfl (by omega) Try.underlying39 v (someL k).length _ (hown.alloc _) rfl _ 1 _ rfl (src_def _ ⟨((k : Int) % 2 == 0), ((k : Int) % 3 == 0), 20 + 3 * ((k : Int) * 5 % 8), 4⟩ _ _ _ rfl hAt) (by simp; omega) (defs_room hlk).1 (defs_room hlk).2 ?_))
        intro v2 w2 ho2 hx2
        obtain ⟨g2, c2, rfl, B1, O1, B2, Z1, W1⟩ := K.out v2 w2 ho2 hx2
        have u0 := B1.cell 0 rfl
        have uf := B1.frozen 0
        clear t0 tf ho2 hx2 hAt B1 K key
        go_wp2
        go_roundw
        case rel => exact ⟨k + 1, _, by omega, by go_num, O1, B2, Z1, W1⟩
        case measure => simp [intOf]; omega
    · obtain rfl : k = n := by omega
      have q1 : decide ((k : Int) < (k : Nat)) = false := by simp
      obtain ⟨A', c2, rfl, -⟩ := hown.sees.at_
      have hR2 := hR.below hb (by omega)
      have t0 := hblk.cell 0 rfl
      have t1 := hblk.cell 1 rfl
      have t2 := hblk.cell 2 rfl
      have t3 := hblk.cell 3 rfl
      have r0 := hR2.cell 0 rfl
      have r1 := hR2.cell 1 rfl
      have r2 := hR2.cell 2 rfl
      have r3 := hR2.cell 3 rfl
      have f0 := hR2.frozen 0
      have f1 := hR2.frozen 1
      have f2 := hR2.frozen 2
      have f3 := hR2.frozen 3
      have hvR : (Value.slice A' (someL k).length c2).ownBlock ≠ some w.heap.size := fun e => by have := (hown.lt _ e).1; omega
      have hbr := hb0.trans (hb.mono (by omega))
      clear hR hT
      go_wp2_with fail
      refine bodyPost_ret (v := .agg #[.slice A' (someL k).length c2, .int .i64 dr, .int .i64 (4 * dr + 6), .int .i64 (4 * dr + 9)]) ?_ rfl ⟨_, rfl, ?_, ?_⟩
      · rw [results_cell rfl]
        go_simp
      · refine OwnsD.base (Bs := w0.heap.size) ?_ (by omega)
        (repeat' (first | exact hown | exact hvR | (with_reducible refine OwnsD.setOther ?_ _ _ ?_)))
      · (repeat' (first | exact hbr | (with_reducible refine Below.setCell ?_ ?_ _) | exact Nat.le_refl _))
end Go.Proofs.Ytmlnkkalajnjhaa

/-! ### GdG -/
namespace Go.Proofs.Ytmlnkkalajnjhaa
open Go.RowKit
open Tb (D T)

/-- New of some(n, drift). -/
theorem new_some {B : Nat} (n : Nat) (dr : Int) (h4 : 4 ≤ n) (h8 : n ≤ 8) (hd : 0 ≤ dr ∧ dr ≤ 200) (v : Value) (w : World) (hv : OwnsD w B v (someL n)) :
    Calls Try.prog 34 #[.agg #[v, .int .i64 dr, .int .i64 (4 * dr + 6), .int .i64 (4 * dr + 9)]] w fun e w' => ∃ g, e = .returned (.tuple #[.pointer (some ⟨g, 0, none⟩), .int .i64 0]) ∧ w.heap.size ≤ g ∧ GAt w' g (newG (someT n dr)) ∧ Below w.heap.size w w' :=
  new_yes (someT n dr) v w hv.sees (some_is n dr h4 h8 hd)
end Go.Proofs.Ytmlnkkalajnjhaa

/-! ### FrR -/
namespace Go.Proofs.Ytmlnkkalajnjhaa
open Go.RowKit
open Fr (St F)

set_option maxRecDepth 100000 in
set_option maxHeartbeats 2000000 in
theorem encode_ref (f : F) (v : Value) (w : World) (hv : SeesL w w.heap.size v f.d) (hd : bytesL f.d) :
    Calls Try.prog 22 #[frV f v] w (Enc w f) := by
  have his := fun W (hb : Below w.heap.size w W) => is_ref f v W w.heap.size (hv.below hb)
  obtain ⟨A, c, rfl, c1, c2, -, -⟩ := hv.at_
  cases hi : f.is
  · rw [hi] at his
    have his := fun W hb => Lib.hid (his W hb)
    have hE : encE f = 1 := by simp [encE, hi]
    have hR : encR f = [] := by simp [encR, hi]
    unfold Enc
    rw [hE, hR]
    clear hi hE hR hv
    unfold frV at his ⊢
    go_enter Try.func22, Try.ntmps22
    go_wp2_with fail
    refine (his _ ((Below.refl _ _).alloc (Nat.le_refl _) _)).out.mono ?_
    rintro e w1 ⟨rfl, hb⟩
    have hb := ((Below.refl w.heap.size w).alloc (Nat.le_refl _) _).trans (hb.mono (by simp))
    go_wp2
    go_ret2
    exact ⟨_, rfl, OwnsL.nil, hb⟩
  · rw [hi] at his
    have his := fun W hb => Lib.hid (his W hb)
    obtain ⟨⟨k1, k3⟩, hmay, hlen⟩ := f.is_iff.1 hi
    have hE : encE f = 0 := by simp [encE, hi]
    have hR : encR f = f.body ++ Fr.two (Fr.sumL f.seed f.body) := by simp [encR, hi, F.bytes]
    have hbody := Lib.hid (F.body_ok hi hd)
    have hbl := f.body_length
    have hsl := f.seed_lt
    have hseed := fun W => Lib.hid (seed_ref f.st W)
    have hstate := fun W => Lib.hid (state_ref f.st hmay W)
    have hhl : f.hl ≤ 6 := by unfold F.hl; split <;> omega
    unfold Enc
    rw [hE, hR]
    have hsealed := fun (V : Value) (W : World) (h : SeesL W W.heap.size V f.body) => Lib.hid (sealed_ref V f.body f.seed W h hbody.out (by omega) hsl)
    obtain ⟨k, st, d⟩ := f
    by_cases hk : k = 1
    · have hB1 : F.body ⟨k, st, d⟩ = [1] ++ [(d.length : Int)] ++ d := by simp [F.body, F.head, hk]
      have hS1 : F.seed ⟨k, st, d⟩ = st.seed := by simp [F.seed, hk]
      rw [hB1, hS1] at hsealed ⊢
      subst hk
      simp only at hv k1 k3 hmay hlen his hseed hstate hsl
      have hvd := Lib.hid hv
      have hH := fun V W h => Lib.hid (hsealed V W h)
      clear hsealed hE hR hB1 hS1 hbody hbl hi hd hv hhl hstate hmay
      unfold frV at his ⊢
      unfold stV at hseed
      go_enter Try.func22, Try.ntmps22
      go_wp2_with fail
      have hbox := Lib.hid (box5 w (.int .i64 1) (.int .i64 st.r) (.int .i64 st.s) (.int .i64 st.m) (.slice A d.length c) 60)
      generalize w.alloc (.cells #[.int .i64 1, .int .i64 st.r, .int .i64 st.s, .int .i64 st.m, .slice A d.length c] 60) = w0 at *
      have hz0 : w0.heap.size ≤ w.heap.size + 1 ∧ w.heap.size + 1 ≤ w0.heap.size := by have := hbox.out.size; omega
      refine (his _ hbox.out.below).out.mono ?_
      rintro e w1 ⟨rfl, hb1⟩
      obtain ⟨z1, c10, c11, c12, c13, c14⟩ := hbox.out.cell w1 hb1
      clear his
      go_wp2_with fail
      refine (hseed _).out.mono ?_
      rintro e w2 ⟨rfl, hb⟩
      have ho2 := (owns_lit w1 5 rfl #[.int .u8 1] [1] rfl w0.heap.size hb1.size (by simp [maxLen]) w1.heap.size 1 1 rfl rfl rfl).below hb (Nat.le_refl _)
      have hb2 := (hb1.alloc hb1.size (.cells #[.int .u8 1] 5)).trans (hb.mono (by simp; have := hb1.size; omega))
      obtain ⟨z2, c20, c21, c22, c23, c24⟩ := hbox.out.cell w2 hb2
      have hwr : IntKind.u8.wrap ((d.length : Nat) : Int) = d.length := by rw [IntKind.wrap_u8]; omega
      have hb2x := hb2.alloc hb2.size (.cells #[.int .u8 (d.length : Int)] 5)
      have x2 := (hbox.out.cell _ hb2x).2.2.2.2.2
      clear c10 c11 c12 c13 c14 hb hb1 hseed c21 c22 c23
      go_wp2_with fail
      go_region_held3 (fun w' => w'.cell? ⟨w.heap.size, 4, none⟩ = some (.slice A d.length c)) (first | exact c24 | exact x2 | exact x3 | exact x5 | exact x6) (first
        | ((refine step_appendL _ rfl (.tmp 24) (.tmp 29) 22 rfl w0.heap.size infoU8 Try.underlying22 (.slice (some ⟨w1.heap.size, 0, none⟩) 1 1) [1] w0 ?_ ?_ rfl (w2.heap.size + 1) (.slice (some ⟨w2.heap.size, 0, none⟩) 1 1) [(d.length : Int)] rfl ?_ ?_ ?_ ?_); exact (ho2.alloc _).drew; exact hb2x.drew; exact (sees_lit w2 5 _ [(d.length : Int)] rfl _ (Nat.lt_succ_self _) (by simp [maxLen]) _ _ _ rfl rfl rfl).drew; exact hb2x.size; (focus simp); intro v3 w3 ho3 hb3 _; have x3 := (hbox.out.cell _ hb3).2.2.2.2.2)
        | ((refine step_appendL _ rfl (.tmp 30) (.tmp 32) 22 rfl w0.heap.size infoU8 Try.underlying22 v3 ([1] ++ [(d.length : Int)]) w0 ho3 hb3 rfl w.heap.size (.slice A d.length c) d rfl ?_ ?_ ?_ ?_); exact hvd.out.below (hbox.out.below.trans (hb3.mono (by omega))); exact hb3.size; (focus (simp; omega)); intro v5 w5 ho5 hb5 _; have x5 := (hbox.out.cell _ hb5).2.2.2.2.2)
        | ((go_at_call 38; refine (hH v5 _ ?_).out.mono ?_); exact ho5.sees; rintro e w6 ⟨v6, rfl, ho6, hb6⟩; have hb6 := hb5.trans (hb6.mono hb5.size); have x6 := (hbox.out.cell _ hb6).2.2.2.2.2))
      have hfin := ho6.base (B := w.heap.size) (by have := hb5.size; omega)
      have hbf := hbox.out.below.trans (hb6.mono (by omega))
      clear hwr ho6
      go_wp2
      go_ret2
      exact ⟨_, rfl, hfin, hbf⟩
    · have hB1 : F.body ⟨k, st, d⟩ = [k] ++ st.bytes ++ [(d.length : Int)] ++ d := by simp [F.body, F.head, hk]
      have hS1 : F.seed ⟨k, st, d⟩ = 0 := by simp [F.seed, hk]
      rw [hB1, hS1] at hsealed ⊢
      simp only at hv k1 k3 hmay hlen his hseed hstate hsl
      have hk' : (k != 1) = true := by simpa using hk
      have hvd := Lib.hid hv
      have hH := fun V W h => Lib.hid (hsealed V W h)
      have hsb : st.bytes.length = 4 := rfl
      clear hsealed hE hR hB1 hS1 hbody hbl hi hd hv hhl hmay hk
      unfold frV at his ⊢
      unfold stV at hseed hstate
      generalize st.bytes = sb at *
      have hsb1 : sb.length ≤ 4 := by omega
      clear hsb
      go_enter Try.func22, Try.ntmps22
      go_wp2_with fail
      have hbox := Lib.hid (box5 w (.int .i64 k) (.int .i64 st.r) (.int .i64 st.s) (.int .i64 st.m) (.slice A d.length c) 60)
      generalize w.alloc (.cells #[.int .i64 k, .int .i64 st.r, .int .i64 st.s, .int .i64 st.m, .slice A d.length c] 60) = w0 at *
      have hz0 : w0.heap.size ≤ w.heap.size + 1 ∧ w.heap.size + 1 ≤ w0.heap.size := by have := hbox.out.size; omega
      refine (his _ hbox.out.below).out.mono ?_
      rintro e w1 ⟨rfl, hb1⟩
      obtain ⟨z1, c10, c11, c12, c13, c14⟩ := hbox.out.cell w1 hb1
      clear his
      go_wp2_with fail
      refine (hseed _).out.mono ?_
      rintro e w2 ⟨rfl, hb⟩
      have ho2 := (owns_lit w1 5 rfl #[.int .u8 k] [k] rfl w0.heap.size hb1.size (by simp [maxLen]) w1.heap.size 1 1 rfl rfl rfl).below hb (Nat.le_refl _)
      have hb2 := (hb1.alloc hb1.size (.cells #[.int .u8 k] 5)).trans (hb.mono (by simp; have := hb1.size; omega))
      obtain ⟨z2, c20, c21, c22, c23, c24⟩ := hbox.out.cell w2 hb2
      clear c10 c11 c12 c13 c14 hb hseed
      go_wp2_with fail
      refine (hstate _).out.mono ?_
      rintro e wa ⟨va, rfl, hoa, hba⟩
      have hba2 := hb2.trans (hba.mono hb2.size)
      have hob := ho2.below hba (Nat.le_refl _)
      have hoaS := hoa.sees
      clear c20 c21 c22 c23 c24 hba hb2 ho2 hstate hb1 hoa
      go_wp2_with (at_builtin; go_loud (refine wpList_appendL _ rfl (.tmp 19) (.tmp 22) 22 rfl w0.heap.size infoU8 Try.underlying22 _ [k] w0 hob hba2 rfl wa.heap.size va sb rfl hoaS hba2.size (by simp; omega) ?_))
      intro vb wb hobb hbb
      obtain ⟨zb, c20, c21, c22, c23, c24⟩ := hbox.out.cell wb hbb
      obtain ⟨Ab, cb, rfl, -, -, -, -⟩ := hobb.sees.at_
      have hwr : IntKind.u8.wrap ((d.length : Nat) : Int) = d.length := by rw [IntKind.wrap_u8]; omega
      have hb2x := hbb.alloc hbb.size (.cells #[.int .u8 (d.length : Int)] 5)
      have x2 := (hbox.out.cell _ hb2x).2.2.2.2.2
      clear c20 c21 c22 c23 hba2 hob hoaS
      go_wp2_with fail
      go_region_held3 (fun w' => w'.cell? ⟨w.heap.size, 4, none⟩ = some (.slice A d.length c)) (first | exact c24 | exact x2 | exact x3 | exact x5 | exact x6) (first
        | ((refine step_appendL _ rfl (.tmp 24) (.tmp 29) 22 rfl w0.heap.size infoU8 Try.underlying22 _ ([k] ++ sb) w0 ?_ ?_ rfl (wb.heap.size + 1) (.slice (some ⟨wb.heap.size, 0, none⟩) 1 1) [(d.length : Int)] rfl ?_ ?_ ?_ ?_); exact (hobb.alloc _).drew; exact hb2x.drew; exact (sees_lit wb 5 _ [(d.length : Int)] rfl _ (Nat.lt_succ_self _) (by simp [maxLen]) _ _ _ rfl rfl rfl).drew; exact hb2x.size; (focus (simp; omega)); intro v3 w3 ho3 hb3 _; have x3 := (hbox.out.cell _ hb3).2.2.2.2.2)
        | ((refine step_appendL _ rfl (.tmp 30) (.tmp 32) 22 rfl w0.heap.size infoU8 Try.underlying22 v3 ([k] ++ sb ++ [(d.length : Int)]) w0 ho3 hb3 rfl w.heap.size (.slice A d.length c) d rfl ?_ ?_ ?_ ?_); exact hvd.out.below (hbox.out.below.trans (hb3.mono (by omega))); exact hb3.size; (focus (simp; omega)); intro v5 w5 ho5 hb5 _; have x5 := (hbox.out.cell _ hb5).2.2.2.2.2)
        | ((go_at_call 38; refine (hH v5 _ ?_).out.mono ?_); exact ho5.sees; rintro e w6 ⟨v6, rfl, ho6, hb6⟩; have hb6 := hb5.trans (hb6.mono hb5.size); have x6 := (hbox.out.cell _ hb6).2.2.2.2.2))
      have hfin := ho6.base (B := w.heap.size) (by have := hb5.size; omega)
      have hbf := hbox.out.below.trans (hb6.mono (by omega))
      clear hwr ho6
      go_wp2
      go_ret2
      exact ⟨_, rfl, hfin, hbf⟩
end Go.Proofs.Ytmlnkkalajnjhaa

/-! ### GdL -/
namespace Go.Proofs.Ytmlnkkalajnjhaa
open Go.RowKit
open Clk (avg)
open Fr (St F)

/-- A law's frame. -/
def lawF (k s : Int) : F := ⟨k, ⟨0, s, 0⟩, []⟩
theorem lawF_is {k s : Int} (hk : 1 ≤ k ∧ k ≤ 3) (hs : 0 ≤ s ∧ s < 8) : (lawF k s).is = true := by
  rw [Fr.F.is_iff]
  refine ⟨hk, ?_, by simp [lawF]⟩
  rw [Fr.St.may_iff]
  simp only [lawF]
  omega
theorem lawF_ok {k s : Int} (hk : 1 ≤ k ∧ k ≤ 3) (hs : 0 ≤ s ∧ s < 8) : bytesL (lawF k s).bytes := Fr.F.bytes_ok (lawF_is hk hs) (fun x hx => by cases hx)
theorem enc_law {k s : Int} (hk : 1 ≤ k ∧ k ≤ 3) (hs : 0 ≤ s ∧ s < 8) (W : World) :
    Calls Try.prog 22 #[.agg #[.int .i64 k, .int .i64 0, .int .i64 s, .int .i64 0, .slice none 0 0]] W fun e w' => ∃ v, e = .returned (.tuple #[v, .int .i64 0]) ∧ OwnsL w' W.heap.size v (lawF k s).bytes ∧ Below W.heap.size W w' := by
  have h := encode_ref (lawF k s) (.slice none 0 0) W SeesL.nil (fun x hx => by cases hx)
  unfold Enc at h
  rw [(encR_is (lawF_is hk hs)).1, (encR_is (lawF_is hk hs)).2] at h
  exact h
theorem z0_may : z0.may = true := by decide
theorem tells_law {k s : Int} (hk : 2 ≤ k ∧ k ≤ 3) (hs : 0 ≤ s ∧ s < 8) (n : Nat) : tells (lawF k s).bytes n = decide (s < (n : Int)) ∧ (Fr.res (lawF k s).bytes z0).st.s = s := by
  obtain ⟨h1, h2, h3⟩ := Fr.back (lawF_is ⟨by omega, hk.2⟩ hs) z0 z0_may
  have h4 : Fr.sumB (lawF k s).bytes z0 = true := h3.2 (fun h => by have : k = 1 := h; omega)
  have hr : Fr.res (lawF k s).bytes z0 = lawF k s := by
    unfold Fr.res
    rw [h1, h4, h2]
    simp only [Bool.and_self, if_true]
    rw [if_neg (show ¬ (lawF k s).k = 1 from fun h => by have : k = 1 := h; omega)]
  have he : Fr.err (lawF k s).bytes z0 = 0 := by simp [Fr.err, h1, h4]
  unfold tells
  rw [hr, he]
  refine ⟨?_, rfl⟩
  have e1 : decide ((lawF k s).k = 1) = false := decide_eq_false (show ¬ k = 1 by omega)
  rw [e1]
  simp only [decide_true, Bool.not_false, Bool.and_self, Bool.true_and]
  rfl
theorem tells_kd {l : List Int} (h : Fr.kd l = 1) (n : Nat) : tells l n = false := by
  unfold tells
  by_cases he : Fr.err l z0 = 0
  · have hr : (Fr.res l z0).k = 1 := by
      unfold Fr.err at he
      unfold Fr.res
      cases h1 : Fr.formB l z0
      · rw [h1] at he; simp at he
      · cases h2 : Fr.sumB l z0
        · rw [h1, h2] at he; simp at he
        · simpa [Fr.rd] using h
    simp [hr]
  · simp [he]
theorem tells_one (s : Int) (n : Nat) : tells (lawF 1 s).bytes n = false := tells_kd (by simp [Fr.kd, lawF, Fr.F.bytes, Fr.F.body, Fr.F.head]) n
theorem tells_short {l : List Int} (h : l.length < 4) (n : Nat) : tells l n = false := by
  have hf : Fr.formB l z0 = false := by
    rw [Bool.eq_false_iff]; intro e; simp only [Fr.formB, Bool.and_eq_true, decide_eq_true_eq] at e; omega
  unfold tells
  simp [Fr.err, hf]
theorem termV_nil (m : Int) : termV m [] = 0 := by
  unfold termV
  rw [show avg [] = 0 from rfl]
  split <;> rfl
/-- It was told the slot. -/
def G.told (s : G) (k : Nat) (at_ : Int) : G := { s with kn := true, slot := (k + 1) % s.n, now := at_, si := 0, l := [] }
theorem ended_told (s : G) (hkn : s.kn = false) {k : Int} (hk : 2 ≤ k ∧ k ≤ 3) (sl : Nat) (hsl : sl < s.n) (hn : s.n ≤ 8) (at_ : Int) : s.ended (lawF k sl).bytes at_ = s.told sl at_ := by
  obtain ⟨h1, h2⟩ := tells_law hk (s := (sl : Int)) ⟨by omega, by omega⟩ s.n
  unfold G.ended
  rw [hkn]
  simp only [Bool.false_eq_true, if_false]
  unfold G.learnt
  rw [h1, h2, if_pos (by simp; omega)]
  unfold G.on G.told
  simp only [Int.toNat_natCast]
  by_cases e : sl + 1 = s.n
  · rw [if_pos e, e, termV_nil, Int.add_zero, Nat.mod_self]
  · rw [if_neg e, Nat.mod_eq_of_lt (by omega)]
theorem ended_not (s : G) (hkn : s.kn = false) {l : List Int} (h : tells l s.n = false) (at_ : Int) : s.ended l at_ = s := by
  unfold G.ended G.learnt
  rw [hkn, h]
  rfl
/-- A new one of some(n, drift) may be told. -/
theorem newG_ok (n : Nat) (dr : Int) (h4 : 4 ≤ n) (h8 : n ≤ 8) (hd : 0 ≤ dr ∧ dr ≤ 200) (at_ : Int) (ha : -1000000 ≤ at_ ∧ at_ ≤ 1000000) : (newG (someT n dr)).Ok at_ := by
  have hn : (newG (someT n dr)).n = n := someL_length n
  have hl : (newG (someT n dr)).lm = 4 * dr + 9 := rfl
  refine ⟨by omega, by rw [hn]; show 0 < n; omega, (fun x hx => by cases hx), by rw [hl]; omega, ?_, ?_, ?_⟩
  · show _ ≤ (0 : Int) ∧ (0 : Int) ≤ _; omega
  · show _ ≤ at_ - 0 ∧ at_ - 0 ≤ _; omega
  · show 0 ≤ 1000; omega
end Go.Proofs.Ytmlnkkalajnjhaa
