/- Texts NdL, RfT, ClMath2, RfC, StR in one. For what each says in front of its theorems. -/
import Derived.RegionTactic
import Derived.Deep.RegionWith
import Derived.Laws.Bits64
import Derived.BigRegion
import Derived.Test.YtpdenmcacaajkaaGreatPB10
import Derived.Test.YtpdenmcacaajkaaGreatPB11
import Derived.Test.YtpdenmcacaajkaaGreatPB12
import Derived.Test.YtpdenmcacaajkaaGreatPB14
import Derived.Test.YtpdenmcacaajkaaGreatPB23
import Derived.Test.YtpdenmcacaajkaaGreatPB32
/-! ### NdL -/
namespace Go.Proofs.YtpdenmcacaajkaaGreat
open Go.RowKit

theorem may_some (n : Nat) (d : Int) (i : Int) (dr : Int) (l : List R4) (hn : 4 ≤ n ∧ n ≤ 8) (hd : 0 ≤ d ∧ d ≤ 200) (hi : 0 ≤ i ∧ i < n) (hr : -d ≤ dr ∧ dr ≤ d) (hl : l.length ≤ 8) (hm : ∀ k, k < l.length → (l.getD k default).may) : NM.may (smnT n d) i dr l :=
  ⟨smn_is n d hn.1 hn.2 hd, ⟨hi.1, by show i < ((smnL n).length : Nat); rw [smnL_length]; exact hi.2⟩, hr, hl, hm⟩
theorem fbytes_len (f : Fr.F) : 0 < f.bytes.length := by
  rw [Fr.F.bytes_length]
  omega
theorem fbytes_kind (f : Fr.F) : f.bytes.getD 0 0 = f.k := by
  by_cases h : f.k = 1
  · rw [Fr.F.bytes_normal h, h]; rfl
  · rw [Fr.F.bytes_told h]; rfl
set_option maxRecDepth 100000 in
set_option maxHeartbeats 2000000 in
theorem known_nd {NAt : List Nat → World → Nat → NM → Prop} (A : NodeApi NAt) (w : World) :
    Calls Tryz.prog 12 #[] w fun e w' => e = .returned (.bool true) ∧ Below w.heap.size w w' := by
  have HS := fun W => Lib.hid (some_nd 4 1 (by omega) (by omega) W)
  go_enter Tryz.func12, Tryz.ntmps12
  go_wp2_with fail
  refine (HS _).out.mono ?_
  rintro _ w1 ⟨v, rfl, ho, b1⟩
  have hv := ho.sees
  have hB1 := b1.size
  have hm := may_some 4 1 0 0 [] (by omega) (by omega) (by omega) (by omega) (by simp) (by simp)
  clear ho HS
  go_wp2_with fail
  refine (A.newB (smnT 4 1) v _ 0 0 [] w1 hv SeesRs.nil hm).mono ?_
  rintro _ w2 ⟨g, rfl, h, b2⟩
  replace b1 := b1.trans (b2.mono b1.size)
  clear hv hm b2
  go_wp2_with fail
  refine (A.onB 5 h).mono ?_
  rintro _ w3 ⟨rfl, h3, b3⟩
  replace b1 := b1.trans (b3.b.mono hB1)
  rw [show (NM.new (smnT 4 1) (0 : Int).toNat 0 []).onE 5 = 0 from rfl]
  have E : ((NM.new (smnT 4 1) (0 : Int).toNat 0 []).on 5).sil 0 = (NM.new (smnT 4 1) (0 : Int).toNat 0 []).on 5 := rfl
  have E1 : ((NM.new (smnT 4 1) (0 : Int).toNat 0 []).on 5).st = 1 := rfl
  have E2 : ((NM.new (smnT 4 1) (0 : Int).toNat 0 []).on 5).me.li = 20 := rfl
  have E3 : ((NM.new (smnT 4 1) (0 : Int).toNat 0 []).on 5).ty = ⟨0, 0, 0⟩ := rfl
  have E4 : ((NM.new (smnT 4 1) (0 : Int).toNat 0 []).on 5).tm = 5 := rfl
  clear h b3
  generalize (NM.new (smnT 4 1) (0 : Int).toNat 0 []).on 5 = s at *
  go_wp2_with fail
  refine (A.stateB h3).mono ?_
  rintro _ w4 ⟨rfl, h4, b4⟩
  replace b1 := b1.trans (b4.b.mono hB1)
  rw [E1]
  rw [← E] at h4
  clear h3 b4
  go_wp2_with fail
  go_loopw [3] (fun i wr => ∃ k : Nat, k ≤ 19 ∧ i = .int .i64 k ∧ Nd NAt w1.heap.size [] wr g (s.sil k) ∧ Below w.heap.size w wr) (fun i _ => 19 - (intOf i).toNat)
  case atStart => exact ⟨0, by omega, rfl, h4, b1⟩
  case round =>
    clear h4 b1
    obtain ⟨k, hk, rfl, h, b⟩ := hrel
    by_cases hlt : k < 19
    · have r1 : decide ((k : Int) < 19) = true := decide_eq_true (by omega)
      obtain ⟨L1, L2, L3⟩ := s.listens E1 k (by rw [E2]; omega)
      go_wp2_with fail
      refine (A.sendB h).mono ?_
      rintro _ w5 ⟨v5, rfl, hv5, h5, b5⟩
      rw [L1] at hv5
      rw [L2] at h5
      obtain ⟨A5, c5, rfl, -⟩ := hv5.at_
      replace b := b.trans (b5.b.mono hB1)
      clear hv5 b5 h
      go_wp2_with fail
      refine (A.silentB h5 (by show s.ty.a < 900; rw [E3]; decide) (by show s.ty.f < 900; rw [E3]; decide) (by show _ ≤ s.tm ∧ s.tm ≤ _; rw [E4]; omega)).mono ?_
      rintro _ w6 ⟨rfl, h6, b6⟩
      rw [L3] at h6
      replace b := b.trans (b6.b.mono hB1)
      go_wp2
      go_roundw
      case rel => exact ⟨k + 1, by omega, by go_num, h6, b⟩
      case measure => simp [intOf]; omega
    · obtain rfl : k = 19 := by omega
      obtain ⟨L1, L2⟩ := s.begins E1 19 (by rw [E2]; omega)
      have L3 : (s.sil 19).sent = ((s.sil 19).sendS.frm 3).bytes := by
        unfold NM.sent
        rw [L1]
        rfl
      obtain ⟨u, hu⟩ : ∃ u : NM, u = { s.begun with se := true } := ⟨_, rfl⟩
      rw [← hu] at L2
      have F1 : u.st = 2 := by rw [hu]; rfl
      have F2 : u.tm = 5 := by rw [hu]; exact E4
      clear hu
      rw [L2] at L3
      have K1 := fbytes_len (u.frm 3)
      have K2 : (u.frm 3).bytes.getD 0 0 = 3 := fbytes_kind (u.frm 3)
      go_wp2_with fail
      refine (A.sendB h).mono ?_
      rintro _ w5 ⟨v5, rfl, hv5, h5, b5⟩
      rw [L3] at hv5
      rw [L2] at h5
      replace b := b.trans (b5.b.mono hB1)
      generalize (u.frm 3).bytes = L at *
      obtain ⟨A5, c5, rfl, v1, v2, v3, v4⟩ := hv5.at_
      obtain ⟨bl, off, rfl, hbl, hc⟩ := v3 K1
      have c0 := hc 0 K1
      unfold bv at c0
      rw [K2, Nat.add_zero] at c0
      have d0 : decide ((0 : Int) < ((L.length : Nat) : Int)) = true := decide_eq_true (by omega)
      clear b5 h hv5 v1 v2 v3 hc
      go_wp2_with fail
      refine (A.stateB h5).mono ?_
      rintro _ w7 ⟨rfl, h7, b7⟩
      replace b := b.trans (b7.b.mono hB1)
      rw [F1]
      go_wp2_with fail
      refine (A.clockB h7).mono ?_
      rintro _ w8 ⟨rfl, h8, b8⟩
      replace b := b.trans (b8.b.mono hB1)
      rw [F2]
      go_wp2
      go_ret
      exact ⟨rfl, b⟩
end Go.Proofs.YtpdenmcacaajkaaGreat

/-! ### RfT -/
namespace Go.Proofs.YtpdenmcacaajkaaGreat
open Go.RowKit

/-- A node's bit. -/
def nbit (n : Int) : Int := if 0 ≤ n ∧ n < 8 then 2 ^ n.toNat else 0
theorem nbit_ne (n : Int) : (nbit n != 0) = decide (0 ≤ n ∧ n < 8) := by
  unfold nbit
  by_cases h : 0 ≤ n ∧ n < 8
  · rw [if_pos h, decide_eq_true h, bne_iff_ne, ← cast_pow]
    have := Nat.two_pow_pos n.toNat
    omega
  · rw [if_neg h, decide_eq_false h]; rfl
theorem or_nbit {m : Nat} (hm : m < 256) (n : Int) : bits BinOp.or IntKind.i64 (m : Nat) (nbit n) = ((if 0 ≤ n ∧ n < 8 then ins m n.toNat else m : Nat) : Int) := by
  unfold nbit
  by_cases h : 0 ≤ n ∧ n < 8
  · rw [if_pos h, if_pos h, ← cast_pow]; exact or_ins hm (by omega)
  · rw [if_neg h, if_neg h]; exact or_nought hm
theorem andNot_nbit {m : Nat} (hm : m < 256) (n : Int) : bits BinOp.andNot IntKind.i64 (m : Nat) (nbit n) = ((if 0 ≤ n ∧ n < 8 then del m n.toNat else m : Nat) : Int) := by
  unfold nbit
  by_cases h : 0 ≤ n ∧ n < 8
  · rw [if_pos h, if_pos h, ← cast_pow]; exact andNot_del hm (by omega)
  · rw [if_neg h, if_neg h]; exact andNot_nought hm
theorem is_nbit {m : Nat} (hm : m < 256) (n : Int) : (bits BinOp.and IntKind.i64 (m : Nat) (nbit n) != 0) = isB m n := by
  unfold nbit isB
  by_cases h : 0 ≤ n ∧ n < 8
  · rw [if_pos h, decide_eq_true h, ← cast_pow, and_bit hm (by omega), Bool.true_and]
    have := Nat.two_pow_pos n.toNat
    cases m.testBit n.toNat
    · rfl
    · rw [if_pos rfl, bne_iff_ne]; omega
  · rw [if_neg h, decide_eq_false h, and_nought hm]; rfl

set_option maxRecDepth 100000 in
set_option maxHeartbeats 1000000 in
theorem new_rt (n : Int) (w : World) :
    Calls Tryz.prog 23 #[.int .i64 n] w fun e w' => e = .returned (.pointer (some ⟨w.heap.size, 0, none⟩)) ∧ TAt 130 w' w.heap.size ⟨(n % 256).toNat, 0, 0⟩ ∧ Below w.heap.size w w' ∧ w'.heap.size = w.heap.size + 1 := by
  have HA := and_low n
  have hl := low_lt n
  generalize (n % 256).toNat = m at *
  go_enter Tryz.func23, Tryz.ntmps23
  go_wp2
  go_ret
  exact ⟨rfl, ⟨Blk.new _ _ rfl _ _, hl⟩, (Below.refl _ _).alloc (Nat.le_refl _) _, by simp⟩
set_option maxRecDepth 100000 in
set_option maxHeartbeats 1000000 in
theorem bit_rt (n : Int) (w : World) :
    Calls Tryz.prog 113 #[.int .i64 n] w fun e w' => e = .returned (.int .i64 (nbit n)) ∧ w' = w := by
  by_cases h1 : n < 0
  · rw [show nbit n = 0 by unfold nbit; rw [if_neg (by omega)]]
    go_enter Tryz.func113, Tryz.ntmps113
    go_wp2
    go_ret
    exact ⟨rfl, rfl⟩
  · by_cases h2 : 7 < n
    · rw [show nbit n = 0 by unfold nbit; rw [if_neg (by omega)]]
      go_enter Tryz.func113, Tryz.ntmps113
      go_wp2
      go_ret
      exact ⟨rfl, rfl⟩
    · have hU : IntKind.u64.wrap n = n := by rw [IntKind.wrap_u64]; omega
      have hn : nbit n = wrap64 ((2 : Int) ^ n.toNat) := by unfold nbit; rw [if_pos (by omega), wrap_pow (by omega)]
      rw [hn]
      clear hn
      have n1 : 0 ≤ n := by omega
      have n2 : n < 8 := by omega
      go_enter Tryz.func113, Tryz.ntmps113
      go_wp2
      go_ret
      exact ⟨rfl, rfl⟩
set_option maxRecDepth 100000 in
set_option maxHeartbeats 1000000 in
theorem is_rt (g : Nat) (s : TS) (n : Int) (w : World) (h : TAt 130 w g s) :
    Calls Tryz.prog 92 #[.pointer (some ⟨g, 0, none⟩), .int .i64 n] w fun e w' => e = .returned (.bool (isB s.m n)) ∧ ∃ m, w' = w.drewN m := by
  have HB := fun W => Lib.hid (bit_rt n W)
  have c0 := h.c0
  rw [← is_nbit h.2 n]
  clear h
  go_enter Tryz.func92, Tryz.ntmps92
  go_wp2_with fail
  go_quiet ((go_at_call 113; exact Calls.quiet_of_same (HB _).out))
  go_wp2
  go_ret
  exact ⟨rfl, _, rfl⟩
set_option maxRecDepth 100000 in
set_option maxHeartbeats 1000000 in
theorem clique_rt (g : Nat) (s : TS) (w : World) (h : TAt 130 w g s) (ha : s.a < 1000) :
    Calls Tryz.prog 112 #[.pointer (some ⟨g, 0, none⟩)] w fun e w' => e = .returned (.bool (decide (s.f ≤ s.a))) ∧ ∃ m, w' = w.drewN m := by
  have c1 := h.c1
  have c2 := h.c2
  clear h
  go_enter Tryz.func112, Tryz.ntmps112
  go_wp2_with fail
  go_quiet (fail)
  go_wp2
  go_ret
  refine ⟨?_, _, rfl⟩
  rw [show decide (s.f ≤ s.a) = decide ((s.f : Int) < (s.a : Int) + 1) by simp; omega]
  rfl
set_option maxRecDepth 100000 in
set_option maxHeartbeats 1000000 in
theorem join_rt (g : Nat) (s : TS) (n : Int) (w : World) (h : TAt 130 w g s) :
    Calls Tryz.prog 74 #[.pointer (some ⟨g, 0, none⟩), .int .i64 n] w fun e w' => e = .returned (.tuple #[]) ∧ TAt 130 w' g (s.join n) ∧ Only g w w' := by
  have HB := fun W => Lib.hid (bit_rt n W)
  have c0 := h.c0
  have f0 := h.1.frozen 0
  have HO := or_nbit h.2 n
  have hI : (if 0 ≤ n ∧ n < 8 then ins s.m n.toNat else s.m : Nat) < 256 := by
    split
    · exact ins_lt h.2 (by omega)
    · exact h.2
  have hs : s.join n = { s with m := if 0 ≤ n ∧ n < 8 then ins s.m n.toNat else s.m } := by
    unfold TS.join; split <;> rfl
  rw [hs]
  clear hs
  generalize (if 0 ≤ n ∧ n < 8 then ins s.m n.toNat else s.m : Nat) = q at *
  generalize nbit n = b at *
  go_enter Tryz.func74, Tryz.ntmps74
  go_wp2_with fail
  go_region_with (first | (go_at_call 113; refine (HB _).out.mono ?_; rintro _ _ ⟨rfl, rfl⟩))
  all_goals
    go_wp2
    exact bodyPost_end (results_none (by rfl) _ _ _) rfl ⟨rfl, (h.m_ _ hI).drew, ((Only.refl g _).set 0 _).drew⟩
set_option maxRecDepth 100000 in
set_option maxHeartbeats 1000000 in
theorem miss_rt (g : Nat) (s : TS) (n : Int) (w : World) (h : TAt 130 w g s) :
    Calls Tryz.prog 89 #[.pointer (some ⟨g, 0, none⟩), .int .i64 n] w fun e w' => e = .returned (.tuple #[]) ∧ TAt 130 w' g (s.miss n) ∧ Only g w w' := by
  have HB := fun W => Lib.hid (bit_rt n W)
  have c0 := h.c0
  have f0 := h.1.frozen 0
  have HO := andNot_nbit h.2 n
  have hI : (if 0 ≤ n ∧ n < 8 then del s.m n.toNat else s.m : Nat) < 256 := by
    split
    · exact del_lt h.2
    · exact h.2
  have hs : s.miss n = { s with m := if 0 ≤ n ∧ n < 8 then del s.m n.toNat else s.m } := by
    unfold TS.miss; split <;> rfl
  rw [hs]
  clear hs
  generalize (if 0 ≤ n ∧ n < 8 then del s.m n.toNat else s.m : Nat) = q at *
  generalize nbit n = b at *
  go_enter Tryz.func89, Tryz.ntmps89
  go_wp2_with fail
  go_region_with (first | (go_at_call 113; refine (HB _).out.mono ?_; rintro _ _ ⟨rfl, rfl⟩))
  all_goals
    go_wp2
    exact bodyPost_end (results_none (by rfl) _ _ _) rfl ⟨rfl, (h.m_ _ hI).drew, ((Only.refl g _).set 0 _).drew⟩
set_option maxRecDepth 100000 in
set_option maxHeartbeats 1000000 in
theorem right_rt (g : Nat) (s : TS) (n : Int) (w : World) (h : TAt 130 w g s) (hb : s.a < 1000) :
    Calls Tryz.prog 87 #[.pointer (some ⟨g, 0, none⟩), .int .i64 n] w fun e w' => e = .returned (.tuple #[]) ∧ TAt 130 w' g (s.right n) ∧ Only g w w' := by
  have HB := fun W => Lib.hid (bit_rt n W)
  have HN := nbit_ne n
  by_cases hn : 0 ≤ n ∧ n < 8
  · rw [decide_eq_true hn] at HN
    have hs : s.right n = { s.join n with a := s.a + 1 } := by simp [TS.right, TS.join, hn]
    rw [hs]
    have hf : (s.join n).a = s.a := by simp [TS.join, hn]
    clear hs
    have HJ := fun W (h : TAt 130 W g s) => Lib.hid (join_rt g s n W h)
    generalize s.join n = u at *
    generalize nbit n = b at *
    go_enter Tryz.func87, Tryz.ntmps87
    go_wp2_with fail
    refine (HB _).out.mono ?_
    rintro _ _ ⟨rfl, rfl⟩
    go_wp2_with fail
    refine (HJ _ h).out.mono ?_
    rintro _ w1 ⟨rfl, h1, o1⟩
    have c := h1.c1
    rw [hf] at c
    have f := h1.1.frozen 1
    have h2 := Lib.hid (h1.a_ (s.a + 1))
    clear h h1 hf HB HJ
    go_wp2
    exact bodyPost_end (results_none (by rfl) _ _ _) rfl ⟨rfl, by simpa using h2.out, o1.set 1 _⟩
  · rw [decide_eq_false hn] at HN
    have hs : s.right n = s := by simp [TS.right, hn]
    rw [hs]
    clear hs
    generalize nbit n = b at *
    go_enter Tryz.func87, Tryz.ntmps87
    go_wp2_with fail
    refine (HB _).out.mono ?_
    rintro _ _ ⟨rfl, rfl⟩
    go_wp2
    exact bodyPost_end (results_none (by rfl) _ _ _) rfl ⟨rfl, h, Only.refl _ _⟩
set_option maxRecDepth 100000 in
set_option maxHeartbeats 1000000 in
theorem wrong_rt (g : Nat) (s : TS) (n : Int) (w : World) (h : TAt 130 w g s) (hb : s.f < 1000) :
    Calls Tryz.prog 90 #[.pointer (some ⟨g, 0, none⟩), .int .i64 n] w fun e w' => e = .returned (.tuple #[]) ∧ TAt 130 w' g (s.wrong n) ∧ Only g w w' := by
  have HB := fun W => Lib.hid (bit_rt n W)
  have HN := nbit_ne n
  by_cases hn : 0 ≤ n ∧ n < 8
  · rw [decide_eq_true hn] at HN
    have hs : s.wrong n = { s.miss n with f := s.f + 1 } := by simp [TS.wrong, TS.miss, hn]
    rw [hs]
    have hf : (s.miss n).f = s.f := by simp [TS.miss, hn]
    clear hs
    have HJ := fun W (h : TAt 130 W g s) => Lib.hid (miss_rt g s n W h)
    generalize s.miss n = u at *
    generalize nbit n = b at *
    go_enter Tryz.func90, Tryz.ntmps90
    go_wp2_with fail
    refine (HB _).out.mono ?_
    rintro _ _ ⟨rfl, rfl⟩
    go_wp2_with fail
    refine (HJ _ h).out.mono ?_
    rintro _ w1 ⟨rfl, h1, o1⟩
    have c := h1.c2
    rw [hf] at c
    have f := h1.1.frozen 2
    have h2 := Lib.hid (h1.f_ (s.f + 1))
    clear h h1 hf HB HJ
    go_wp2
    exact bodyPost_end (results_none (by rfl) _ _ _) rfl ⟨rfl, by simpa using h2.out, o1.set 2 _⟩
  · rw [decide_eq_false hn] at HN
    have hs : s.wrong n = s := by simp [TS.wrong, hn]
    rw [hs]
    clear hs
    generalize nbit n = b at *
    go_enter Tryz.func90, Tryz.ntmps90
    go_wp2_with fail
    refine (HB _).out.mono ?_
    rintro _ _ ⟨rfl, rfl⟩
    go_wp2
    exact bodyPost_end (results_none (by rfl) _ _ _) rfl ⟨rfl, h, Only.refl _ _⟩
set_option maxRecDepth 100000 in
set_option maxHeartbeats 1000000 in
theorem clear_rt (g : Nat) (s : TS) (w : World) (h : TAt 130 w g s) :
    Calls Tryz.prog 75 #[.pointer (some ⟨g, 0, none⟩)] w fun e w' => e = .returned (.tuple #[]) ∧ TAt 130 w' g s.clear ∧ Only g w w' := by
  have c1 := h.c1
  have c2 := h.c2
  have f1 := h.1.frozen 1
  have f2 := h.1.frozen 2
  have h2 := Lib.hid ((h.a_ 0).f_ 0)
  clear h
  go_enter Tryz.func75, Tryz.ntmps75
  go_wp2
  exact bodyPost_end (results_none (by rfl) _ _ _) rfl ⟨rfl, h2.out, ((Only.refl g _).set 1 _).set 2 _⟩
end Go.Proofs.YtpdenmcacaajkaaGreat

/-! ### ClMath2 -/
namespace Go.Proofs.YtpdenmcacaajkaaGreat
open Go.RowKit

def last4 (l : List Int) : List Int := l.drop (l.length - 4)
theorem last4_keep (l : List Int) (x : Int) : keep4 (last4 l) x = last4 (l ++ [x]) := by
  unfold keep4 last4
  simp only [List.length_drop, List.length_append, List.length_singleton]
  by_cases h : 4 ≤ l.length
  · rw [if_pos (by omega), List.drop_drop, List.drop_append_of_le_length (by omega)]
    congr 2; omega
  · rw [if_neg (by omega), show l.length - 4 = 0 by omega, show l.length + 1 - 4 = 0 by omega]
    rfl
theorem last4_length (l : List Int) (h : 4 ≤ l.length) : (last4 l).length = 4 := by unfold last4; simp; omega
theorem last4_small {l : List Int} (h : small l) : small (last4 l) := fun x hx => h x (List.mem_of_mem_drop hx)
theorem take_snoc' (l : List Int) (k : Nat) (h : k < l.length) : l.take (k + 1) = l.take k ++ [l.getD k 0] := by
  rw [List.take_succ_eq_append_getElem h, List.getD_eq_getElem?_getD, List.getElem?_eq_getElem h]
  rfl
theorem small.snoc {l : List Int} {x : Int} (h : small l) (hx : -1099511627776 ≤ x ∧ x ≤ 1099511627776) : small (l ++ [x]) := fun y hy => by
  rcases List.mem_append.1 hy with hy | hy
  · exact h y hy
  · simp at hy; subst hy; exact hx
end Go.Proofs.YtpdenmcacaajkaaGreat

/-! ### RfC -/
namespace Go.Proofs.YtpdenmcacaajkaaGreat
open Go.RowKit
open Clk (avg)

/-- A slice's block. -/
def vblk : Value → Option Nat
  | .slice (some a) _ _ => some a.block
  | _ => none
theorem SeesI.only {W W' : World} {B g : Nat} {v : Value} {l : List Int} (h : SeesI W B v l) (k : Only g W W') (hB : B ≤ W.heap.size) (hne : vblk v ≠ some g) : SeesI W' B v l := ⟨by
  obtain ⟨A, c, rfl, h1, h2, h3, h4⟩ := h.at_
  refine ⟨A, c, rfl, h1, h2, fun h0 => ?_, h4⟩
  obtain ⟨b, off, rfl, hb, hc⟩ := h3 h0
  refine ⟨b, off, rfl, hb, fun j hj => ?_⟩
  rw [← hc j hj]
  exact World.grownBy.cell_far k ⟨b, off + j, none⟩ (by show b < _; omega) (fun e => hne (by simp only [vblk]; exact e))⟩
/-- A reference clock within a block: its list lies elsewhere. -/
structure RKt (c : Cx 11) (W : World) (g : Nat) (m : Int) (v : Value) (l : List Int) : Prop where
  blk : PB c W g #[.int .i64 m, v]
  sees : SeesI W W.heap.size v l
  far : vblk v ≠ some g
theorem RKt.below {c : Cx 11} {W W' : World} {g : Nat} {m : Int} {v : Value} {l : List Int} (h : RKt c W g m v l) (k : Below W.heap.size W W') : RKt c W' g m v l :=
  ⟨h.blk.below k h.blk.lt, (h.sees.below k).more k.size, h.far⟩

set_option maxRecDepth 100000 in
set_option maxHeartbeats 1000000 in
theorem rclear_kt (c : Cx 11) (g : Nat) (m : Int) (v : Value) (l : List Int) (w : World) (h : RKt c w g m v l) :
    Calls Tryz.prog 104 #[.pointer (some ⟨g, 11, none⟩)] w fun e w' => e = .returned (.tuple #[]) ∧ RKt c w' g m (.slice none 0 0) [] ∧ Only g w w' := by
  have c1 := h.blk.cell 1 rfl
  have f1 := h.blk.frozen 12
  have hB := Lib.hid (h.blk.set 1 (by simp) (.slice none 0 0))
  clear h
  go_enter Tryz.func104, Tryz.ntmps104
  go_wp2
  exact bodyPost_end (results_none (by rfl) _ _ _) rfl ⟨rfl, ⟨hB.out, SeesI.nil, (by simp [vblk])⟩, (Only.refl g w).set 12 _⟩

set_option maxRecDepth 100000 in
set_option maxHeartbeats 1000000 in
theorem rterm_kt (c : Cx 11) (g : Nat) (m : Int) (v : Value) (l : List Int) (w : World) (h : RKt c w g m v l) (hs : small l) (h4 : l.length ≤ 4) (hm : 0 ≤ m ∧ m ≤ 1099511627776) :
    Calls Tryz.prog 133 #[.pointer (some ⟨g, 11, none⟩)] w fun e w' => e = .returned (.tuple #[.int .i64 (termV m l), .bool (wiB m (avg l))]) ∧ Below w.heap.size w w' := by
  have c1 := h.blk.cell 1 rfl
  have R := Lib.hid (avg_rf l v w _ h.sees hs h4)
  have HC : Hid (∀ W, Below w.heap.size w W → W.cell? ⟨g, 11, none⟩ = some (.int .i64 m)) := Lib.hid (fun W hW => (h.below hW).blk.cell 0 rfl)
  have hbd := Clk.avg_bound (B := 1099511627776) (by decide) hs h4
  obtain ⟨A, cc, rfl, -, -, -, -⟩ := h.sees.at_
  unfold termV
  have hwn : (wiB m (avg l) = true ∧ -m ≤ avg l ∧ avg l ≤ m) ∨ (wiB m (avg l) = false ∧ avg l < -m) ∨ (wiB m (avg l) = false ∧ m < avg l) := by
    by_cases h : -m ≤ avg l ∧ avg l ≤ m
    · exact .inl ⟨decide_eq_true h, h⟩
    · by_cases h' : avg l < -m
      · exact .inr (.inl ⟨decide_eq_false h, h'⟩)
      · exact .inr (.inr ⟨decide_eq_false h, by omega⟩)
  obtain ⟨m1, m2⟩ := hm
  obtain ⟨b1, b2⟩ := hbd
  generalize avg l = r at *
  generalize wiB m r = q at *
  clear h hs h4
  rcases hwn with ⟨rfl, d1, d2⟩ | ⟨rfl, d1⟩ | ⟨rfl, d1⟩
  all_goals
    go_enter Tryz.func133, Tryz.ntmps133
    go_wp2_with fail
    refine R.out.mono ?_
    rintro e w1 ⟨rfl, hb1⟩
    have c0 := HC.out w1 hb1
    go_wp2
    go_ret2
    exact ⟨rfl, hb1⟩

set_option maxRecDepth 100000 in
set_option maxHeartbeats 1000000 in
theorem rmeasure_kt (c : Cx 11) (g : Nat) (m : Int) (v : Value) (l : List Int) (n : Int) (w : World) (h : RKt c w g m v l) (h4 : l.length ≤ 4) :
    Calls Tryz.prog 83 #[.pointer (some ⟨g, 11, none⟩), .int .i64 n] w fun e w' => e = .returned (.tuple #[]) ∧ (∃ v', RKt c w' g m v' (keep4 l n) ∧ ∀ b, vblk v' = some b → w.heap.size ≤ b) ∧ Only g w w' := by
  have HK4 : Hid (l.length = 4 → keep4 l n = (l ++ [n]).drop 1) := Lib.hid (fun h => by
    unfold keep4; rw [if_pos h, List.drop_append_of_le_length (by omega)])
  have HKn : Hid (¬ l.length = 4 → keep4 l n = l ++ [n]) := Lib.hid (fun h => by unfold keep4; rw [if_neg h])
  generalize keep4 l n = K at *
  have a1 := Lib.cell?_alloc_some (.cells #[] 3) (h.blk.cell 1 rfl)
  have hem := Lib.hid (owns_emptyi w 3 rfl w.heap.size w.heap.size (Nat.le_refl _) rfl)
  have hse := Lib.hid (h.sees.alloc (.cells #[] 3))
  have hgl := h.blk.lt
  have hbA := Lib.hid ((Below.refl w.heap.size w).alloc (Nat.le_refl _) (.cells #[] 3))
  have HB : Hid (∀ W, Below w.heap.size w W → PB c W g #[.int .i64 m, v]) := Lib.hid (fun W hW => h.blk.below hW h.blk.lt)
  clear h
  go_enter Tryz.func83, Tryz.ntmps83
  go_wp2_with (at_builtin; go_loud (refine wpList_pushI _ rfl (.tmp 5) (.tmp 9) 46 rfl w.heap.size infoInt Tryz.underlying46 _ [] hem.out rfl _ v l rfl hse.out (by simp) (by simp; omega) ?_))
  intro v1 w1 ho1 hx1
  have hb1 := hbA.out.trans (hx1.toBelow (B := w.heap.size) (by simp) (fun j hj => by simp [Value.ownBlock] at hj; omega))
  have ho1 : OwnsI w1 w.heap.size v1 l := ho1
  clear a1 hem hse hbA hx1
  have hsX := Lib.hid (sees_liti w1 3 #[.int .i64 n] [n] rfl (w1.heap.size + 1) (by omega) (by simp [maxLen]) _ 1 1 rfl rfl rfl)
  go_wp2_with (at_builtin; go_loud (refine wpList_pushI _ rfl (.tmp 10) (.tmp 12) 46 rfl w.heap.size infoInt Tryz.underlying46 _ l (ho1.alloc _) rfl _ _ [n] rfl hsX.out (by have := hb1.size; simp; omega) (by simp; omega) ?_))
  intro v2 w2 ho2 hx2
  have hb2 := (hb1.alloc hb1.size (.cells #[.int .i64 n] 3)).trans (hx2.toBelow (B := w.heap.size) (by have := hb1.size; simp; omega) (fun j hj => (ho1.lt j hj).1))
  have hB2 := HB.out w2 hb2
  have d1 := hB2.cell 1 rfl
  have e1 := hB2.frozen 12
  obtain ⟨b, cp, rfl, k1, k2, k3, k4⟩ := ho2.form0 (by simp)
  have hl5 : (l ++ [n]).length = l.length + 1 := by simp
  have hown2 := Lib.hid ho2
  have hs2 := Lib.hid (ho2.sees.only (g := g) ((Only.refl g w2).set 12 (.slice (some ⟨b, 0, none⟩) (l ++ [n]).length cp)) (Nat.le_refl _) (by simp [vblk]; omega))
  have hB3 := Lib.hid (hB2.set 1 (by simp) (.slice (some ⟨b, 0, none⟩) (l ++ [n]).length cp))
  rw [hl5] at hs2 hB3 k1 ⊢
  have H5 := Lib.hid hl5
  clear hl5 hown2 ho2 ho1 hx2 hsX
  by_cases hl : l.length = 4
  · have q1 : decide ((4 : Int) < ((l.length : Nat) : Int) + 1) = true := decide_eq_true (by omega)
    have q2 : ¬ cp = 1 := by omega
    have hs4 := Lib.hid (hs2.out.sub H5.out.symm 1 (l.length + 1) (by omega) (Nat.le_refl _) (by omega) (o := 1) (by omega) (m := l.length + 1 - 1) rfl (c' := cp - 1) rfl)
    have hs5 := Lib.hid (hs4.out.only (g := g) ((Only.refl g _).set 12 (.slice (some ⟨b, 1, none⟩) (l.length + 1 - 1) (cp - 1))) (by simp [World.setCell]) (by simp [vblk]; omega))
    have hB5 := Lib.hid (hB3.out.set 1 (by simp) (.slice (some ⟨b, 1, none⟩) (l.length + 1 - 1) (cp - 1)))
    have HL := Lib.hid hl
    clear hl hs4
    go_wp2
    refine bodyPost_end (results_none (by rfl) _ _ _) rfl ⟨rfl, ⟨.slice (some ⟨b, 1, none⟩) (l.length + 1 - 1) (cp - 1), ?_⟩, ((only_of_below g hb2).trans ((Only.refl g w2).set 12 _)).set 12 _⟩
    rw [HK4.out HL.out]
    have h1 := hs5.out
    rw [List.take_of_length_le (by simp)] at h1
    exact ⟨⟨hB5.out, h1.more (by simp [World.setCell]), (by simp [vblk]; omega)⟩, fun j hj => by simp [vblk] at hj; omega⟩
  · have q1 : decide ((4 : Int) < ((l.length : Nat) : Int) + 1) = false := decide_eq_false (by omega)
    have hKn := Lib.hid (HKn.out hl)
    clear hl
    go_wp2
    refine bodyPost_end (results_none (by rfl) _ _ _) rfl ⟨rfl, ⟨.slice (some ⟨b, 0, none⟩) (l.length + 1) cp, ?_⟩, (only_of_below g hb2).trans ((Only.refl g w2).set 12 _)⟩
    rw [hKn.out]
    exact ⟨⟨hB3.out, hs2.out.more (by simp [World.setCell]), (by simp [vblk]; omega)⟩, fun j hj => by simp [vblk] at hj; omega⟩
end Go.Proofs.YtpdenmcacaajkaaGreat

/-! ### StR -/
namespace Go.Proofs.YtpdenmcacaajkaaGreat
open Go.RowKit

set_option maxRecDepth 100000 in
set_option maxHeartbeats 1000000 in
theorem node_rf (n : Int) (w : World) :
    Calls Tryz.prog 96 #[.int .i64 n] w fun e w' => e = .returned (.bool (decide (isN n))) ∧ w' = w := by
  by_cases h1 : n < 0
  · rw [decide_eq_false (by unfold isN; omega : ¬ isN n)]
    go_enter Tryz.func96, Tryz.ntmps96
    go_wp2
    go_ret
    exact ⟨rfl, rfl⟩
  · by_cases h2 : n < 8
    · rw [decide_eq_true (by unfold isN; omega : isN n)]
      have h1 : 0 ≤ n := by omega
      go_enter Tryz.func96, Tryz.ntmps96
      go_wp2
      go_ret
      exact ⟨by simp_all, rfl⟩
    · rw [decide_eq_false (by unfold isN; omega : ¬ isN n)]
      have h1 : 0 ≤ n := by omega
      go_enter Tryz.func96, Tryz.ntmps96
      go_wp2
      go_ret
      exact ⟨by simp_all, rfl⟩

set_option maxRecDepth 100000 in
set_option maxHeartbeats 2000000 in
theorem same_rf (u v : Value) (l m : List Int) (a b : Int) (x y : Bool) (B C : Nat) (w : World) (hu : SeesL w B u l) (hv : SeesL w C v m) (hl : bytesL l) (hm : bytesL m) :
    Calls Tryz.prog 42 #[.agg #[u, .int .i64 a, .bool x], .agg #[v, .int .i64 b, .bool y]] w fun e w' => e = .returned (.bool (decide (l = m) && decide (a = b) && decide (x = y))) ∧ Below w.heap.size w w' := by
  have hb := ((Below.refl w.heap.size w).alloc (Nat.le_refl _) (.cells #[u, .int .i64 a, .bool x] 72)).alloc (by simp) (.cells #[v, .int .i64 b, .bool y] 72)
  have R1 := run_textL ((hu.alloc (.cells #[u, .int .i64 a, .bool x] 72)).alloc (.cells #[v, .int .i64 b, .bool y] 72))
  have R2 := run_textL ((hv.alloc (.cells #[u, .int .i64 a, .bool x] 72)).alloc (.cells #[v, .int .i64 b, .bool y] 72))
  have ht := textL_iff hl hm
  obtain ⟨A, c, rfl, -⟩ := hu.at_
  obtain ⟨A', c', rfl, -⟩ := hv.at_
  have hxy : decide (x = y) = (x == y) := by cases x <;> cases y <;> rfl
  rw [hxy]
  clear hxy
  by_cases e1 : l = m
  · subst e1
    by_cases e2 : a = b
    · subst e2
      simp only [decide_true, Bool.true_and]
      go_enter Tryz.func42, Tryz.ntmps42
      go_wp2
      go_ret
      exact ⟨rfl, hb⟩
    · have q2 : (a == b) = false := by rw [beq_eq_false_iff_ne]; exact e2
      rw [show (decide (l = l) && decide (a = b) && (x == y)) = false by simp [e2]]
      go_enter Tryz.func42, Tryz.ntmps42
      go_wp2
      go_ret
      exact ⟨rfl, hb⟩
  · have e4 : ¬ textL l = textL m := fun h => e1 (ht.1 h)
    rw [show (decide (l = m) && decide (a = b) && (x == y)) = false by simp [e1]]
    clear ht hu hv
    generalize textL l = T at *
    generalize textL m = T' at *
    have eT2 : ¬ T.toList = T'.toList := fun h => e4 (by
      rw [ByteArray.toList_eq, ByteArray.toList_eq] at h
      exact ByteArray.ext (Array.toList_inj.1 h))
    go_enter Tryz.func42, Tryz.ntmps42
    go_wp2
    go_ret
    exact ⟨rfl, hb⟩
end Go.Proofs.YtpdenmcacaajkaaGreat
