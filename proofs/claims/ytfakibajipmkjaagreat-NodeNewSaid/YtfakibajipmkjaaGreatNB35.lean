/- Texts NdF, NdL, FrR in one. For what each says in front of its theorems. -/
import Derived.Test.YtfakibajipmkjaaGreatNB34
/-! ### NdF -/
namespace Go.Proofs.YtfakibajipmkjaaGreat
open Go.RowKit
open Tb (D T)

def smnD (i : Nat) : D := ⟨decide ((i : Int) < 4) || ((i : Int) % 2 == 0), ((i : Int) % 3 == 0), 20 + 3 * ((i : Int) * 5 % 8), 4⟩
def smnL (n : Nat) : List D := (List.range n).map smnD
def smnT (n : Nat) (dr : Int) : T := ⟨smnL n, dr, 4 * dr + 6, 4 * dr + 9⟩
theorem smnL_length (n : Nat) : (smnL n).length = n := by simp [smnL]
theorem smnL_succ (n : Nat) : smnL (n + 1) = smnL n ++ [smnD n] := by simp [smnL, List.range_succ]
theorem smnL_get (n k : Nat) (hk : k < n) : (smnL n).getD k default = smnD k := by simp [smnL, List.getD_eq_getElem?_getD, hk]
theorem smn_is (n : Nat) (dr : Int) (h4 : 4 ≤ n) (h8 : n ≤ 8) (hd : 0 ≤ dr ∧ dr ≤ 200) : (smnT n dr).is = true := by
  have ha : Tb.are (smnL n) = true := by
    rcases (by omega : n = 4 ∨ n = 5 ∨ n = 6 ∨ n = 7 ∨ n = 8) with rfl | rfl | rfl | rfl | rfl <;> decide +kernel
  simp only [T.is, Tb.rest, smnT, ha, Bool.true_and, Bool.and_eq_true, Tb.wi_iff]
  omega
theorem smn_few (n : Nat) (dr : Int) (h4 : n < 4) : (smnT n dr).is = false := by
  have ha : Tb.are (smnL n) = false := by
    rcases (by omega : n = 0 ∨ n = 1 ∨ n = 2 ∨ n = 3) with rfl | rfl | rfl | rfl <;> decide +kernel
  simp only [T.is, smnT, ha, Bool.false_and]
set_option maxRecDepth 100000 in
set_option maxHeartbeats 4000000 in
theorem some_nd (n : Nat) (dr : Int) (hn : n ≤ 8) (hd : 0 ≤ dr ∧ dr ≤ 1000) (w : World) :
    Calls Tryz.prog 16 #[.int .i64 (n : Nat), .int .i64 dr] w fun e w' => ∃ v, e = .returned (tabV (smnT n dr) v) ∧ OwnsD w' w.heap.size v (smnL n) ∧ Below w.heap.size w w' := by
  have hsu := Lib.hid smnL_succ
  have hsl := Lib.hid smnL_length
  have z1 : IntKind.i64.wrap (4 * dr) = 4 * dr := IntWalk.i64_in _ (by omega)
  have z2 : IntKind.i64.wrap (4 * dr + 6) = 4 * dr + 6 := IntWalk.i64_in _ (by omega)
  have z3 : IntKind.i64.wrap (4 * dr + 9) = 4 * dr + 9 := IntWalk.i64_in _ (by omega)
  unfold smnT tabV
  simp only
  go_enter Tryz.func16, Tryz.ntmps16
  have hb0 := ((Below.refl w.heap.size w).alloc (Nat.le_refl _) (.cells #[.slice none 0 0, .int .i64 0, .int .i64 0, .int .i64 0] 29)).alloc (by simp) (.cells #[.slice none 0 0, .int .i64 dr, .int .i64 (4 * dr + 6), .int .i64 (4 * dr + 9)] 29)
  have hR := (Blk.new w _ rfl #[.slice none 0 0, .int .i64 0, .int .i64 0, .int .i64 0] 29).alloc (.cells #[.slice none 0 0, .int .i64 dr, .int .i64 (4 * dr + 6), .int .i64 (4 * dr + 9)] 29)
  have hT := Blk.new (w.alloc (.cells #[.slice none 0 0, .int .i64 0, .int .i64 0, .int .i64 0] 29)) (w.heap.size + 1) (by simp) #[.slice none 0 0, .int .i64 dr, .int .i64 (4 * dr + 6), .int .i64 (4 * dr + 9)] 29
  go_wp2
  generalize (w.alloc (.cells #[.slice none 0 0, .int .i64 0, .int .i64 0, .int .i64 0] 29)).alloc (.cells #[.slice none 0 0, .int .i64 dr, .int .i64 (4 * dr + 6), .int .i64 (4 * dr + 9)] 29) = w0 at *
  have hz0 : w.heap.size + 1 < w0.heap.size := hT.lt
  go_loopw [6] (fun i wr => ∃ k : Nat, ∃ v : Value, k ≤ n ∧ i = .int .i64 k ∧ OwnsD wr w0.heap.size v (smnL k) ∧ Blk wr (w.heap.size + 1) #[v, .int .i64 dr, .int .i64 (4 * dr + 6), .int .i64 (4 * dr + 9)] 29 ∧ w0.heap.size ≤ wr.heap.size ∧ Below (w.heap.size + 1) w0 wr) (fun i _ => n - (intOf i).toNat)
  case atStart => exact ⟨0, _, by omega, rfl, OwnsD.nil, hT, Nat.le_refl _, Below.refl _ _⟩
  case round =>
    obtain ⟨k, v, hk, rfl, hown, hblk, hz, hb⟩ := hrel
    by_cases hlt : k < n
    · have q1 : decide ((k : Int) < (n : Nat)) = true := by simp; omega
      have q2 : decide ((k : Int) < 8) = true := by simp; omega
      have t0 := hblk.cell 0 rfl
      have tf := hblk.frozen 0
      have hlk : (smnL k).length ≤ 100000 := by rw [smnL_length]; omega
      have hgv : v.ownBlock ≠ some (w.heap.size + 1) := fun e => by have := (hown.lt _ e).1; omega
      have key : ∀ b : Bool, smnD k = ⟨b, ((k : Int) % 3 == 0), 20 + 3 * ((k : Int) * 5 % 8), 4⟩ → ∀ (v2 : Value) (w2 : World), w2.ownsRow w0.heap.size 53 4 v2 ((smnL k).length + 1) ((smnL k).flatMap dc ++ dc ⟨b, ((k : Int) % 3 == 0), 20 + 3 * ((k : Int) * 5 % 8), 4⟩) →
          Ext (wr.alloc (.cells #[.bool b, .bool ((k : Int) % 3 == 0), .int .i64 (20 + 3 * ((k : Int) * 5 % 8)), .int .i64 4] 53)) w2 v v2 → ∃ g2 c2, v2 = .slice (some ⟨g2, 0, none⟩) (k + 1) c2 ∧ Blk w2 (w.heap.size + 1) #[v, .int .i64 dr, .int .i64 (4 * dr + 6), .int .i64 (4 * dr + 9)] 29 ∧
          OwnsD (w2.setCell ⟨w.heap.size + 1, 0, none⟩ (.slice (some ⟨g2, 0, none⟩) (k + 1) c2)) w0.heap.size v2 (smnL (k + 1)) ∧ Blk (w2.setCell ⟨w.heap.size + 1, 0, none⟩ (.slice (some ⟨g2, 0, none⟩) (k + 1) c2)) (w.heap.size + 1) #[.slice (some ⟨g2, 0, none⟩) (k + 1) c2, .int .i64 dr, .int .i64 (4 * dr + 6), .int .i64 (4 * dr + 9)] 29 ∧
          w0.heap.size ≤ (w2.setCell ⟨w.heap.size + 1, 0, none⟩ (.slice (some ⟨g2, 0, none⟩) (k + 1) c2)).heap.size ∧ Below (w.heap.size + 1) w0 (w2.setCell ⟨w.heap.size + 1, 0, none⟩ (.slice (some ⟨g2, 0, none⟩) (k + 1) c2)) := fun b hsd v2 w2 ho2 hx2 => by
        rw [← hsd] at ho2
        have ho3 : OwnsD w2 w0.heap.size v2 (smnL (k + 1)) := by
          rw [hsu.out]
          exact OwnsD.snoc ho2
        have hxx := ((Ext.refl wr v).alloc (.cells #[.bool b, .bool ((k : Int) % 3 == 0), .int .i64 (20 + 3 * ((k : Int) * 5 % 8)), .int .i64 4] 53)).trans hx2
        have hb2 := hb.trans (hxx.toBelow (B := w.heap.size + 1) (by omega) (fun j hj => by have := (hown.lt j hj).1; omega))
        have hblk5 := hblk.ext hxx hgv
        have hl1 := hsl.out (k + 1)
        obtain ⟨g2, c2, rfl, hg2⟩ : ∃ g2 c2, v2 = .slice (some ⟨g2, 0, none⟩) (k + 1) c2 ∧ w0.heap.size ≤ g2 := by
          rcases ho3.form with ⟨-, h0⟩ | ⟨g2, c2, h, h1, -⟩
          · omega
          · exact ⟨g2, c2, by rw [h, hl1], h1⟩
        refine ⟨g2, c2, rfl, hblk5, ho3.setOther ⟨w.heap.size + 1, 0, none⟩ _ (by simp [Value.ownBlock]; omega), by simpa using hblk5.set 0 (.slice (some ⟨g2, 0, none⟩) (k + 1) c2), by have := hxx.size; simp only [World.setCell, Array.size_modify]; omega, Below.setCell (p := ⟨w.heap.size + 1, 0, none⟩) hb2 (Nat.le_refl _) _⟩
      have key := fun b h => Lib.hid (key b h)
      have hSD : Hid (∀ b, ((b = true ∧ (k : Int) < 4) ∨ (b = ((k : Int) % 2 == 0) ∧ ¬ (k : Int) < 4)) → smnD k = ⟨b, ((k : Int) % 3 == 0), 20 + 3 * ((k : Int) * 5 % 8), 4⟩) := Lib.hid fun b hb => by
        unfold smnD
        rcases hb with ⟨rfl, h⟩ | ⟨rfl, h⟩ <;> simp [h]
      by_cases q4 : (k : Int) < 4
      · have K := key true (hSD.out true (.inl ⟨rfl, q4⟩))
        have hAt := atD_new wr ⟨true, ((k : Int) % 3 == 0), 20 + 3 * ((k : Int) * 5 % 8), 4⟩ 53 wr.heap.size rfl
        go_wp2_with (at_builtin; go_loud (refine wpList_pushC _ rfl (.tmp 25) (.tmp 42) 27 rfl w0.heap.size 53 _ 4 24 info_def rfl (by omega) Tryz.underlying27 v (smnL k).length _ (hown.alloc _) rfl _ 1 _ rfl (src_def _ ⟨true, ((k : Int) % 3 == 0), 20 + 3 * ((k : Int) * 5 % 8), 4⟩ _ _ _ rfl hAt) (by simp; omega) (defs_room hlk).1 (defs_room hlk).2 ?_))
        intro v2 w2 ho2 hx2
        obtain ⟨g2, c2, rfl, B1, O1, B2, Z1, W1⟩ := K.out v2 w2 ho2 hx2
        have u0 := B1.cell 0 rfl
        have uf := B1.frozen 0
        clear t0 tf ho2 hx2 hAt B1 K key
        go_wp2
        go_roundw
        case rel => exact ⟨k + 1, _, by omega, by go_num, O1, B2, Z1, W1⟩
        case measure => simp [intOf]; omega
      · have K := key _ (hSD.out _ (.inr ⟨rfl, q4⟩))
        have hAt := atD_new wr ⟨((k : Int) % 2 == 0), ((k : Int) % 3 == 0), 20 + 3 * ((k : Int) * 5 % 8), 4⟩ 53 wr.heap.size rfl
        go_wp2_with (at_builtin; go_loud (refine wpList_pushC _ rfl (.tmp 25) (.tmp 42) 27 rfl w0.heap.size 53 _ 4 24 info_def rfl (by omega) Tryz.underlying27 v (smnL k).length _ (hown.alloc _) rfl _ 1 _ rfl (src_def _ ⟨((k : Int) % 2 == 0), ((k : Int) % 3 == 0), 20 + 3 * ((k : Int) * 5 % 8), 4⟩ _ _ _ rfl hAt) (by simp; omega) (defs_room hlk).1 (defs_room hlk).2 ?_))
        intro v2 w2 ho2 hx2
        obtain ⟨g2, c2, rfl, B1, O1, B2, Z1, W1⟩ := K.out v2 w2 ho2 hx2
        have u0 := B1.cell 0 rfl
        have uf := B1.frozen 0
        clear t0 tf ho2 hx2 hAt B1 K key
        go_wp2
        go_roundw
        case rel => exact ⟨k + 1, _, by omega, by go_num, O1, B2, Z1, W1⟩
        case measure => simp [intOf]; omega
    · obtain rfl : k = n := by omega
      have q1 : decide ((k : Int) < (k : Nat)) = false := by simp
      obtain ⟨A', c2, rfl, -⟩ := hown.sees.at_
      have hR2 := hR.below hb (by omega)
      have t0 := hblk.cell 0 rfl
      have t1 := hblk.cell 1 rfl
      have t2 := hblk.cell 2 rfl
      have t3 := hblk.cell 3 rfl
      have r0 := hR2.cell 0 rfl
      have r1 := hR2.cell 1 rfl
      have r2 := hR2.cell 2 rfl
      have r3 := hR2.cell 3 rfl
      have f0 := hR2.frozen 0
      have f1 := hR2.frozen 1
      have f2 := hR2.frozen 2
      have f3 := hR2.frozen 3
      have hvR : (Value.slice A' (smnL k).length c2).ownBlock ≠ some w.heap.size := fun e => by have := (hown.lt _ e).1; omega
      have hbr := hb0.trans (hb.mono (by omega))
      clear hR hT
      go_wp2_with fail
      refine bodyPost_ret (v := .agg #[.slice A' (smnL k).length c2, .int .i64 dr, .int .i64 (4 * dr + 6), .int .i64 (4 * dr + 9)]) ?_ rfl ⟨_, rfl, ?_, ?_⟩
      · rw [results_cell rfl]
        go_simp
      · refine OwnsD.base (Bs := w0.heap.size) ?_ (by omega)
        (repeat' (first | exact hown | exact hvR | (with_reducible refine OwnsD.setOther ?_ _ _ ?_)))
      · (repeat' (first | exact hbr | (with_reducible refine Below.setCell ?_ ?_ _) | exact Nat.le_refl _))
end Go.Proofs.YtfakibajipmkjaaGreat

/-! ### NdL -/
namespace Go.Proofs.YtfakibajipmkjaaGreat
open Go.RowKit

theorem may_some (n : Nat) (d : Int) (i : Int) (dr : Int) (l : List R4) (hn : 4 ≤ n ∧ n ≤ 8) (hd : 0 ≤ d ∧ d ≤ 200) (hi : 0 ≤ i ∧ i < n) (hr : -d ≤ dr ∧ dr ≤ d) (hl : l.length ≤ 8) (hm : ∀ k, k < l.length → (l.getD k default).may) : NM.may (smnT n d) i dr l :=
  ⟨smn_is n d hn.1 hn.2 hd, ⟨hi.1, by show i < ((smnL n).length : Nat); rw [smnL_length]; exact hi.2⟩, hr, hl, hm⟩
theorem fbytes_len (f : Fr.F) : 0 < f.bytes.length := by
  rw [Fr.F.bytes_length]
  omega
theorem fbytes_kind (f : Fr.F) : f.bytes.getD 0 0 = f.k := by
  by_cases h : f.k = 1
  · rw [Fr.F.bytes_normal h, h]; rfl
  · rw [Fr.F.bytes_told h]; rfl
set_option maxRecDepth 100000 in
set_option maxHeartbeats 2000000 in
theorem known_nd {NAt : List Nat → World → Nat → NM → Prop} (A : NodeApi NAt) (w : World) :
    Calls Tryz.prog 22 #[] w fun e w' => e = .returned (.bool true) ∧ Below w.heap.size w w' := by
  have HS := fun W => Lib.hid (some_nd 4 1 (by omega) (by omega) W)
  go_enter Tryz.func22, Tryz.ntmps22
  go_wp2_with fail
  refine (HS _).out.mono ?_
  rintro _ w1 ⟨v, rfl, ho, b1⟩
  have hv := ho.sees
  have hB1 := b1.size
  have hm := may_some 4 1 0 0 [] (by omega) (by omega) (by omega) (by omega) (by simp) (by simp)
  clear ho HS
  go_wp2_with fail
  refine (A.newB (smnT 4 1) v _ 0 0 [] w1 hv SeesRs.nil hm).mono ?_
  rintro _ w2 ⟨g, rfl, h, b2⟩
  replace b1 := b1.trans (b2.mono b1.size)
  clear hv hm b2
  go_wp2_with fail
  refine (A.onB 5 h).mono ?_
  rintro _ w3 ⟨rfl, h3, b3⟩
  replace b1 := b1.trans (b3.b.mono hB1)
  rw [show (NM.new (smnT 4 1) (0 : Int).toNat 0 []).onE 5 = 0 from rfl]
  have E : ((NM.new (smnT 4 1) (0 : Int).toNat 0 []).on 5).sil 0 = (NM.new (smnT 4 1) (0 : Int).toNat 0 []).on 5 := rfl
  have E1 : ((NM.new (smnT 4 1) (0 : Int).toNat 0 []).on 5).st = 1 := rfl
  have E2 : ((NM.new (smnT 4 1) (0 : Int).toNat 0 []).on 5).me.li = 20 := rfl
  have E3 : ((NM.new (smnT 4 1) (0 : Int).toNat 0 []).on 5).ty = ⟨0, 0, 0⟩ := rfl
  have E4 : ((NM.new (smnT 4 1) (0 : Int).toNat 0 []).on 5).tm = 5 := rfl
  clear h b3
  generalize (NM.new (smnT 4 1) (0 : Int).toNat 0 []).on 5 = s at *
  go_wp2_with fail
  refine (A.stateB h3).mono ?_
  rintro _ w4 ⟨rfl, h4, b4⟩
  replace b1 := b1.trans (b4.b.mono hB1)
  rw [E1]
  rw [← E] at h4
  clear h3 b4
  go_wp2_with fail
  go_loopw [3] (fun i wr => ∃ k : Nat, k ≤ 19 ∧ i = .int .i64 k ∧ Nd NAt w1.heap.size [] wr g (s.sil k) ∧ Below w.heap.size w wr) (fun i _ => 19 - (intOf i).toNat)
  case atStart => exact ⟨0, by omega, rfl, h4, b1⟩
  case round =>
    clear h4 b1
    obtain ⟨k, hk, rfl, h, b⟩ := hrel
    by_cases hlt : k < 19
    · have r1 : decide ((k : Int) < 19) = true := decide_eq_true (by omega)
      obtain ⟨L1, L2, L3⟩ := s.listens E1 k (by rw [E2]; omega)
      go_wp2_with fail
      refine (A.sendB h).mono ?_
      rintro _ w5 ⟨v5, rfl, hv5, h5, b5⟩
      rw [L1] at hv5
      rw [L2] at h5
      obtain ⟨A5, c5, rfl, -⟩ := hv5.at_
      replace b := b.trans (b5.b.mono hB1)
      clear hv5 b5 h
      go_wp2_with fail
      refine (A.silentB h5 (by show s.ty.a < 900; rw [E3]; decide) (by show s.ty.f < 900; rw [E3]; decide) (by show _ ≤ s.tm ∧ s.tm ≤ _; rw [E4]; omega)).mono ?_
      rintro _ w6 ⟨rfl, h6, b6⟩
      rw [L3] at h6
      replace b := b.trans (b6.b.mono hB1)
      go_wp2
      go_roundw
      case rel => exact ⟨k + 1, by omega, by go_num, h6, b⟩
      case measure => simp [intOf]; omega
    · obtain rfl : k = 19 := by omega
      obtain ⟨L1, L2⟩ := s.begins E1 19 (by rw [E2]; omega)
      have L3 : (s.sil 19).sent = ((s.sil 19).sendS.frm 3).bytes := by
        unfold NM.sent
        rw [L1]
        rfl
      obtain ⟨u, hu⟩ : ∃ u : NM, u = { s.begun with se := true } := ⟨_, rfl⟩
      rw [← hu] at L2
      have F1 : u.st = 2 := by rw [hu]; rfl
      have F2 : u.tm = 5 := by rw [hu]; exact E4
      clear hu
      rw [L2] at L3
      have K1 := fbytes_len (u.frm 3)
      have K2 : (u.frm 3).bytes.getD 0 0 = 3 := fbytes_kind (u.frm 3)
      go_wp2_with fail
      refine (A.sendB h).mono ?_
      rintro _ w5 ⟨v5, rfl, hv5, h5, b5⟩
      rw [L3] at hv5
      rw [L2] at h5
      replace b := b.trans (b5.b.mono hB1)
      generalize (u.frm 3).bytes = L at *
      obtain ⟨A5, c5, rfl, v1, v2, v3, v4⟩ := hv5.at_
      obtain ⟨bl, off, rfl, hbl, hc⟩ := v3 K1
      have c0 := hc 0 K1
      unfold bv at c0
      rw [K2, Nat.add_zero] at c0
      have d0 : decide ((0 : Int) < ((L.length : Nat) : Int)) = true := decide_eq_true (by omega)
      clear b5 h hv5 v1 v2 v3 hc
      go_wp2_with fail
      refine (A.stateB h5).mono ?_
      rintro _ w7 ⟨rfl, h7, b7⟩
      replace b := b.trans (b7.b.mono hB1)
      rw [F1]
      go_wp2_with fail
      refine (A.clockB h7).mono ?_
      rintro _ w8 ⟨rfl, h8, b8⟩
      replace b := b.trans (b8.b.mono hB1)
      rw [F2]
      go_wp2
      go_ret
      exact ⟨rfl, b⟩
end Go.Proofs.YtfakibajipmkjaaGreat

/-! ### FrR -/
namespace Go.Proofs.YtfakibajipmkjaaGreat
open Go.RowKit
open Fr (St F)

set_option maxRecDepth 100000 in
set_option maxHeartbeats 2000000 in
theorem encode_ref (f : F) (v : Value) (w : World) (hv : SeesL w w.heap.size v f.d) (hd : bytesL f.d) :
    Calls Tryz.prog 28 #[frV f v] w (Enc w f) := by
  have his := fun W (hb : Below w.heap.size w W) => is_ref f v W w.heap.size (hv.below hb)
  obtain ⟨A, c, rfl, c1, c2, -, -⟩ := hv.at_
  cases hi : f.is
  · rw [hi] at his
    have his := fun W hb => Lib.hid (his W hb)
    have hE : encE f = 1 := by simp [encE, hi]
    have hR : encR f = [] := by simp [encR, hi]
    unfold Enc
    rw [hE, hR]
    clear hi hE hR hv
    unfold frV at his ⊢
    go_enter Tryz.func28, Tryz.ntmps28
    go_wp2_with fail
    refine (his _ ((Below.refl _ _).alloc (Nat.le_refl _) _)).out.mono ?_
    rintro e w1 ⟨rfl, hb⟩
    have hb := ((Below.refl w.heap.size w).alloc (Nat.le_refl _) _).trans (hb.mono (by simp))
    go_wp2
    go_ret2
    exact ⟨_, rfl, OwnsL.nil, hb⟩
  · rw [hi] at his
    have his := fun W hb => Lib.hid (his W hb)
    obtain ⟨⟨k1, k3⟩, hmay, hlen⟩ := f.is_iff.1 hi
    have hE : encE f = 0 := by simp [encE, hi]
    have hR : encR f = f.body ++ Fr.two (Fr.sumL f.seed f.body) := by simp [encR, hi, F.bytes]
    have hbody := Lib.hid (F.body_ok hi hd)
    have hbl := f.body_length
    have hsl := f.seed_lt
    have hseed := fun W => Lib.hid (seed_ref f.st W)
    have hstate := fun W => Lib.hid (state_ref f.st hmay W)
    have hhl : f.hl ≤ 6 := by unfold F.hl; split <;> omega
    unfold Enc
    rw [hE, hR]
    have hsealed := fun (V : Value) (W : World) (h : SeesL W W.heap.size V f.body) => Lib.hid (sealed_ref V f.body f.seed W h hbody.out (by omega) hsl)
    obtain ⟨k, st, d⟩ := f
    by_cases hk : k = 1
    · have hB1 : F.body ⟨k, st, d⟩ = [1] ++ [(d.length : Int)] ++ d := by simp [F.body, F.head, hk]
      have hS1 : F.seed ⟨k, st, d⟩ = st.seed := by simp [F.seed, hk]
      rw [hB1, hS1] at hsealed ⊢
      subst hk
      simp only at hv k1 k3 hmay hlen his hseed hstate hsl
      have hvd := Lib.hid hv
      have hH := fun V W h => Lib.hid (hsealed V W h)
      clear hsealed hE hR hB1 hS1 hbody hbl hi hd hv hhl hstate hmay
      unfold frV at his ⊢
      unfold stV at hseed
      go_enter Tryz.func28, Tryz.ntmps28
      go_wp2_with fail
      have hbox := Lib.hid (box5 w (.int .i64 1) (.int .i64 st.r) (.int .i64 st.s) (.int .i64 st.m) (.slice A d.length c) 62)
      generalize w.alloc (.cells #[.int .i64 1, .int .i64 st.r, .int .i64 st.s, .int .i64 st.m, .slice A d.length c] 62) = w0 at *
      have hz0 : w0.heap.size ≤ w.heap.size + 1 ∧ w.heap.size + 1 ≤ w0.heap.size := by have := hbox.out.size; omega
      refine (his _ hbox.out.below).out.mono ?_
      rintro e w1 ⟨rfl, hb1⟩
      obtain ⟨z1, c10, c11, c12, c13, c14⟩ := hbox.out.cell w1 hb1
      clear his
      go_wp2_with fail
      refine (hseed _).out.mono ?_
      rintro e w2 ⟨rfl, hb⟩
      have ho2 := (owns_lit w1 5 rfl #[.int .u8 1] [1] rfl w0.heap.size hb1.size (by simp [maxLen]) w1.heap.size 1 1 rfl rfl rfl).below hb (Nat.le_refl _)
      have hb2 := (hb1.alloc hb1.size (.cells #[.int .u8 1] 5)).trans (hb.mono (by simp; have := hb1.size; omega))
      obtain ⟨z2, c20, c21, c22, c23, c24⟩ := hbox.out.cell w2 hb2
      have hwr : IntKind.u8.wrap ((d.length : Nat) : Int) = d.length := by rw [IntKind.wrap_u8]; omega
      have hb2x := hb2.alloc hb2.size (.cells #[.int .u8 (d.length : Int)] 5)
      have x2 := (hbox.out.cell _ hb2x).2.2.2.2.2
      clear c10 c11 c12 c13 c14 hb hb1 hseed c21 c22 c23
      go_wp2_with fail
      go_region_held3 (fun w' => w'.cell? ⟨w.heap.size, 4, none⟩ = some (.slice A d.length c)) (first | exact c24 | exact x2 | exact x3 | exact x5 | exact x6) (first
        | ((refine step_appendL _ rfl (.tmp 24) (.tmp 29) 37 rfl w0.heap.size infoU8 Tryz.underlying37 (.slice (some ⟨w1.heap.size, 0, none⟩) 1 1) [1] w0 ?_ ?_ rfl (w2.heap.size + 1) (.slice (some ⟨w2.heap.size, 0, none⟩) 1 1) [(d.length : Int)] rfl ?_ ?_ ?_ ?_); exact (ho2.alloc _).drew; exact hb2x.drew; exact (sees_lit w2 5 _ [(d.length : Int)] rfl _ (Nat.lt_succ_self _) (by simp [maxLen]) _ _ _ rfl rfl rfl).drew; exact hb2x.size; (focus simp); intro v3 w3 ho3 hb3 _; have x3 := (hbox.out.cell _ hb3).2.2.2.2.2)
        | ((refine step_appendL _ rfl (.tmp 30) (.tmp 32) 37 rfl w0.heap.size infoU8 Tryz.underlying37 v3 ([1] ++ [(d.length : Int)]) w0 ho3 hb3 rfl w.heap.size (.slice A d.length c) d rfl ?_ ?_ ?_ ?_); exact hvd.out.below (hbox.out.below.trans (hb3.mono (by omega))); exact hb3.size; (focus (simp; omega)); intro v5 w5 ho5 hb5 _; have x5 := (hbox.out.cell _ hb5).2.2.2.2.2)
        | ((go_at_call 71; refine (hH v5 _ ?_).out.mono ?_); exact ho5.sees; rintro e w6 ⟨v6, rfl, ho6, hb6⟩; have hb6 := hb5.trans (hb6.mono hb5.size); have x6 := (hbox.out.cell _ hb6).2.2.2.2.2))
      have hfin := ho6.base (B := w.heap.size) (by have := hb5.size; omega)
      have hbf := hbox.out.below.trans (hb6.mono (by omega))
      clear hwr ho6
      go_wp2
      go_ret2
      exact ⟨_, rfl, hfin, hbf⟩
    · have hB1 : F.body ⟨k, st, d⟩ = [k] ++ st.bytes ++ [(d.length : Int)] ++ d := by simp [F.body, F.head, hk]
      have hS1 : F.seed ⟨k, st, d⟩ = 0 := by simp [F.seed, hk]
      rw [hB1, hS1] at hsealed ⊢
      simp only at hv k1 k3 hmay hlen his hseed hstate hsl
      have hk' : (k != 1) = true := by simpa using hk
      have hvd := Lib.hid hv
      have hH := fun V W h => Lib.hid (hsealed V W h)
      have hsb : st.bytes.length = 4 := rfl
      clear hsealed hE hR hB1 hS1 hbody hbl hi hd hv hhl hmay hk
      unfold frV at his ⊢
      unfold stV at hseed hstate
      generalize st.bytes = sb at *
      have hsb1 : sb.length ≤ 4 := by omega
      clear hsb
      go_enter Tryz.func28, Tryz.ntmps28
      go_wp2_with fail
      have hbox := Lib.hid (box5 w (.int .i64 k) (.int .i64 st.r) (.int .i64 st.s) (.int .i64 st.m) (.slice A d.length c) 62)
      generalize w.alloc (.cells #[.int .i64 k, .int .i64 st.r, .int .i64 st.s, .int .i64 st.m, .slice A d.length c] 62) = w0 at *
      have hz0 : w0.heap.size ≤ w.heap.size + 1 ∧ w.heap.size + 1 ≤ w0.heap.size := by have := hbox.out.size; omega
      refine (his _ hbox.out.below).out.mono ?_
      rintro e w1 ⟨rfl, hb1⟩
      obtain ⟨z1, c10, c11, c12, c13, c14⟩ := hbox.out.cell w1 hb1
      clear his
      go_wp2_with fail
      refine (hseed _).out.mono ?_
      rintro e w2 ⟨rfl, hb⟩
      have ho2 := (owns_lit w1 5 rfl #[.int .u8 k] [k] rfl w0.heap.size hb1.size (by simp [maxLen]) w1.heap.size 1 1 rfl rfl rfl).below hb (Nat.le_refl _)
      have hb2 := (hb1.alloc hb1.size (.cells #[.int .u8 k] 5)).trans (hb.mono (by simp; have := hb1.size; omega))
      obtain ⟨z2, c20, c21, c22, c23, c24⟩ := hbox.out.cell w2 hb2
      clear c10 c11 c12 c13 c14 hb hseed
      go_wp2_with fail
      refine (hstate _).out.mono ?_
      rintro e wa ⟨va, rfl, hoa, hba⟩
      have hba2 := hb2.trans (hba.mono hb2.size)
      have hob := ho2.below hba (Nat.le_refl _)
      have hoaS := hoa.sees
      clear c20 c21 c22 c23 c24 hba hb2 ho2 hstate hb1 hoa
      go_wp2_with (at_builtin; go_loud (refine wpList_appendL _ rfl (.tmp 19) (.tmp 22) 37 rfl w0.heap.size infoU8 Tryz.underlying37 _ [k] w0 hob hba2 rfl wa.heap.size va sb rfl hoaS hba2.size (by simp; omega) ?_))
      intro vb wb hobb hbb
      obtain ⟨zb, c20, c21, c22, c23, c24⟩ := hbox.out.cell wb hbb
      obtain ⟨Ab, cb, rfl, -, -, -, -⟩ := hobb.sees.at_
      have hwr : IntKind.u8.wrap ((d.length : Nat) : Int) = d.length := by rw [IntKind.wrap_u8]; omega
      have hb2x := hbb.alloc hbb.size (.cells #[.int .u8 (d.length : Int)] 5)
      have x2 := (hbox.out.cell _ hb2x).2.2.2.2.2
      clear c20 c21 c22 c23 hba2 hob hoaS
      go_wp2_with fail
      go_region_held3 (fun w' => w'.cell? ⟨w.heap.size, 4, none⟩ = some (.slice A d.length c)) (first | exact c24 | exact x2 | exact x3 | exact x5 | exact x6) (first
        | ((refine step_appendL _ rfl (.tmp 24) (.tmp 29) 37 rfl w0.heap.size infoU8 Tryz.underlying37 _ ([k] ++ sb) w0 ?_ ?_ rfl (wb.heap.size + 1) (.slice (some ⟨wb.heap.size, 0, none⟩) 1 1) [(d.length : Int)] rfl ?_ ?_ ?_ ?_); exact (hobb.alloc _).drew; exact hb2x.drew; exact (sees_lit wb 5 _ [(d.length : Int)] rfl _ (Nat.lt_succ_self _) (by simp [maxLen]) _ _ _ rfl rfl rfl).drew; exact hb2x.size; (focus (simp; omega)); intro v3 w3 ho3 hb3 _; have x3 := (hbox.out.cell _ hb3).2.2.2.2.2)
        | ((refine step_appendL _ rfl (.tmp 30) (.tmp 32) 37 rfl w0.heap.size infoU8 Tryz.underlying37 v3 ([k] ++ sb ++ [(d.length : Int)]) w0 ho3 hb3 rfl w.heap.size (.slice A d.length c) d rfl ?_ ?_ ?_ ?_); exact hvd.out.below (hbox.out.below.trans (hb3.mono (by omega))); exact hb3.size; (focus (simp; omega)); intro v5 w5 ho5 hb5 _; have x5 := (hbox.out.cell _ hb5).2.2.2.2.2)
        | ((go_at_call 71; refine (hH v5 _ ?_).out.mono ?_); exact ho5.sees; rintro e w6 ⟨v6, rfl, ho6, hb6⟩; have hb6 := hb5.trans (hb6.mono hb5.size); have x6 := (hbox.out.cell _ hb6).2.2.2.2.2))
      have hfin := ho6.base (B := w.heap.size) (by have := hb5.size; omega)
      have hbf := hbox.out.below.trans (hb6.mono (by omega))
      clear hwr ho6
      go_wp2
      go_ret2
      exact ⟨_, rfl, hfin, hbf⟩
end Go.Proofs.YtfakibajipmkjaaGreat
