/- NodeListens holds: in silence it sends nothing, till it has waited; noise has it wait anew. For all numbers. -/
import Derived.Test.YtfakibajipmkjaaGreatNB36
namespace Go.Proofs.YtfakibajipmkjaaGreat
open Go.ChangeShapes Go.WideShapes Go.ChangeAt Go.RowKit

def nl0 (I : Nat) : NM := (NM.new (smnT 4 1) (I : Int).toNat 0 []).on 0
theorem nl_a : ∀ I : Fin 4, (nl0 I.val).st = 1 ∧ (nl0 I.val).me.li = (smnD I.val).li ∧ 20 ≤ (smnD I.val).li ∧ (smnD I.val).li ≤ 41 ∧ (nl0 I.val).ty.a = 0 ∧ (nl0 I.val).ty.f = 0 ∧ (nl0 I.val).tm = 0 ∧ (nl0 I.val).wt = 0 ∧ (nl0 I.val).se = false ∧ (nl0 I.val).begun.sl = I.val ∧ (nl0 I.val).begun.ty.m = 2 ^ I.val := by decide +kernel
theorem nl_pow : ∀ I : Fin 4, wrap64 ((2 : Int) ^ I.val) = ((2 ^ I.val : Nat) : Int) := by decide +kernel
theorem sil_self (s : NM) (h1 : s.wt = 0) (h2 : s.se = false) : s.sil 0 = s := by
  cases s
  simp at h1 h2
  simp [NM.sil, h1, h2]
theorem NM.noise (s : NM) (h1 : s.st = 1) (k : Nat) : (s.sil k).take ⟨0, 1, [], [], 0⟩ = { s.sil k with wt := 0 } := by
  have e1 : (s.sil k).st = 1 := h1
  unfold NM.take
  rw [if_neg (by rw [e1]; omega), if_pos e1]
  rfl
theorem field_mm (r s m : Int) (w : World) : (Instr.field 55 (.agg #[.int .i64 r, .int .i64 s, .int .i64 m]) 2).run Tryz.prog w = .ok (.int .i64 m) w := by kernel_rfl
theorem field_ss (r s m : Int) (w : World) : (Instr.field 55 (.agg #[.int .i64 r, .int .i64 s, .int .i64 m]) 1).run Tryz.prog w = .ok (.int .i64 s) w := by kernel_rfl
set_option maxRecDepth 100000 in
set_option maxHeartbeats 2000000 in
theorem gwalk_nodeListens {NAt : List Nat → World → Nat → NM → Prop} (A : NodeApi NAt) (i n : Int) (q : Bool) (w : World) (_h1 : -9223372036854775808 ≤ i ∧ i ≤ 9223372036854775807) (_h2 : -9223372036854775808 ≤ n ∧ n ≤ 9223372036854775807) :
    Calls Tryz.prog 6 #[.int .i64 i, .int .i64 n, .bool q] w fun e w' => e = .returned (.bool true) ∧ Below w.heap.size w w' := by
  by_cases call : 0 ≤ i ∧ i ≤ 3 ∧ 0 ≤ n ∧ n ≤ 60
  case neg =>
    go_enter Tryz.func6, Tryz.ntmps6
    go_wp2
    all_goals first
      | (exfalso; omega)
      | (go_ret; exact ⟨rfl, Below.refl _ _⟩)
      | skip
  obtain ⟨k1, k2, k3, k4⟩ := call
  obtain ⟨I, rfl⟩ : ∃ t : Nat, i = t := ⟨i.toNat, by omega⟩
  obtain ⟨N, rfl⟩ : ∃ t : Nat, n = t := ⟨n.toNat, by omega⟩
  have d1 : decide (((I : Nat) : Int) < 0) = false := decide_eq_false (by omega)
  have d2 : decide ((3 : Int) < ((I : Nat) : Int)) = false := decide_eq_false (by omega)
  have d3 : decide (((N : Nat) : Int) < 0) = false := decide_eq_false (by omega)
  have d4 : decide ((60 : Int) < ((N : Nat) : Int)) = false := decide_eq_false (by omega)
  obtain ⟨a1, a2, a3, a4, a5, a6, a7, a8, a9, a10, a11⟩ := nl_a ⟨I, by omega⟩
  have hpw := nl_pow ⟨I, by omega⟩
  simp only at a1 a2 a3 a4 a5 a6 a7 a8 a9 a10 a11 hpw
  have e0 := sil_self _ a8 a9
  have HS := fun W => Lib.hid (some_nd 4 1 (by omega) (by omega) W)
  have Fm := field_mm
  have Fs := field_ss
  go_enter Tryz.func6, Tryz.ntmps6
  go_wp2_with fail
  refine (HS _).out.mono ?_
  rintro _ w0 ⟨v, rfl, ho, b⟩
  have hv0 := ho.sees
  have hm := may_some 4 1 (I : Int) 0 [] (by omega) (by omega) (by omega) (by omega) (by simp) (by simp)
  obtain ⟨A0, c0, rfl, v1, v2, v3, -⟩ := hv0.at_
  have hlen : (smnL 4).length = 4 := smnL_length 4
  obtain ⟨bl, off, rfl, hbl, hat⟩ := v3 (by rw [hlen]; omega)
  have hat := (hat I (by rw [hlen]; omega)).c2
  rw [show (smnL 4).getD I default = smnD I from smnL_get 4 I (by omega)] at hat
  rw [hlen] at v1 hv0
  clear ho HS v3
  unfold tabV
  have hBt := Blk.new w0 w0.heap.size rfl #[.slice (some ⟨bl, off, none⟩) 4 c0, .int .i64 1, .int .i64 10, .int .i64 13] 29
  have hk := (Below.refl w0.heap.size w0).alloc (Nat.le_refl _) (.cells #[.slice (some ⟨bl, off, none⟩) 4 c0, .int .i64 1, .int .i64 10, .int .i64 13] 29)
  replace b := b.trans (hk.mono b.size)
  have hv := (hv0.below hk).more hk.size
  have hat := (hk.cell (p := ⟨bl, off + I * 4 + 2, none⟩) hbl).trans hat
  have hsz : (w0.alloc (.cells #[.slice (some ⟨bl, off, none⟩) 4 c0, .int .i64 1, .int .i64 10, .int .i64 13] 29)).heap.size = w0.heap.size + 1 := by simp
  have HN := fun W (hv : SeesT W W.heap.size (.slice (some ⟨bl, off, none⟩) 4 c0) (smnT 4 1).ns) => Lib.hid (A.newB (smnT 4 1) (.slice (some ⟨bl, off, none⟩) 4 c0) _ (I : Int) 0 [] W hv SeesRs.nil hm)
  unfold tabV at HN
  have t1 : (smnT 4 1).dr = 1 := rfl
  have t2 : (smnT 4 1).wi = 10 := rfl
  have t3 : (smnT 4 1).lm = 13 := rfl
  rw [t1, t2, t3] at HN
  go_wp2_with fail
  generalize hw1 : (w0.alloc (.cells #[.slice (some ⟨bl, off, none⟩) 4 c0, .int .i64 1, .int .i64 10, .int .i64 13] 29)) = w1 at *
  have hB1 := b.size
  refine (HN _ hv).out.mono ?_
  rintro _ w2 ⟨g, rfl, h, b'⟩
  replace b := b.trans (b'.mono hB1)
  have keep : ∀ W, Below w1.heap.size w1 W → W.cell? ⟨bl, off + I * 4 + 2, none⟩ = some (.int .i64 (smnD I).li) ∧ W.cell? ⟨w0.heap.size, 0, none⟩ = some (.slice (some ⟨bl, off, none⟩) 4 c0) := fun W hW => ⟨(hW.cell (p := ⟨bl, off + I * 4 + 2, none⟩) (by show bl < _; omega)).trans hat, (hBt.below hW (by omega)).cell 0 rfl⟩
  have bb := b'
  clear hv hm b' HN t1 t2 t3 hat hBt hv0 hk hw1
  go_wp2_with fail
  refine (A.onB 0 h).mono ?_
  rintro _ wo ⟨rfl, h', b'⟩
  replace b := b.trans (b'.b.mono hB1)
  replace bb := bb.trans b'.b
  rw [show NM.onE _ 0 = 0 from rfl]
  replace h : Nd NAt w1.heap.size [] _ g (nl0 I) := h'
  clear h' b'
  generalize nl0 I = s at *
  rw [← e0] at h
  have p1 : s.ty.a < 900 := by omega
  have p2 : s.ty.f < 900 := by omega
  have p3 : -4611686018427387904 ≤ s.tm ∧ s.tm ≤ 4611686018427387904 := by omega
  have key : ∃ M : Prop, True := ⟨True, trivial⟩
  clear key
  cases q
  · skip
    go_wp2_with fail
    go_loopw [11, 12] (fun k' y wr => ∃ k : Nat, 1 ≤ k ∧ k ≤ N + 1 ∧ (k : Int) ≤ (smnD I).li ∧ k' = .int .i64 k ∧ Nd NAt w1.heap.size [] wr g (s.sil (k - 1)) ∧ Below w.heap.size w wr ∧ Below w1.heap.size w1 wr) (fun k' _ _ => N + 1 - (intOf k').toNat)
    case atStart => exact ⟨1, by omega, by omega, by omega, rfl, h, b, bb⟩
    case round =>
      clear h b bb
      obtain ⟨k, hk1, hk, hkl, rfl, h, b, bb⟩ := hrel
      by_cases hlt : k ≤ N
      case neg =>
        have r1 : decide ((k : Int) ≤ (N : Int)) = false := decide_eq_false (by omega)
        go_wp2_with fail
        refine (A.stateB h).mono ?_
        rintro _ u41 ⟨rfl, h', b'⟩
        replace b := b.trans (b'.b.mono hB1)
        replace bb := bb.trans b'.b
        replace h : Nd NAt w1.heap.size [] _ g (s.sil (k - 1)) := h'
        clear h' b' 
        rw [show (s.sil (k - 1)).st = 1 from a1]
        go_wp2_with fail
        refine (known_nd A _).mono ?_
        rintro _ wk ⟨rfl, bk⟩
        replace bk := b.trans (bk.mono b.size)
        go_wp2
        go_ret
        exact ⟨rfl, bk⟩
      have r1 : decide ((k : Int) ≤ (N : Int)) = true := decide_eq_true (by omega)
      by_cases hli : (k : Int) < (smnD I).li
      case pos =>
        obtain ⟨L1, L2, L3⟩ := s.listens a1 (k - 1) (by rw [a2]; omega)
        have e3 : k - 1 + 1 = k := by omega
        rw [e3] at L2 L3
        have r2 : decide ((k : Int) < (smnD I).li) = true := decide_eq_true hli
        have r3 : ((k : Int) == (smnD I).li) = false := by rw [beq_eq_false_iff_ne]; omega
        go_wp2_with fail
        refine (A.sendB h).mono ?_
        rintro _ u51 ⟨x51, rfl, hx, h', b'⟩
        replace b := b.trans (b'.b.mono hB1)
        replace bb := bb.trans b'.b
        rw [L1] at hx
        rw [L2] at h'
        replace h := h'
        obtain ⟨A51, c51, rfl, -⟩ := hx.at_
        clear h' b' hx
        obtain ⟨y0, y1⟩ := keep _ bb
        have yb : (I : Int) < 4 := by omega
        go_wp2_with fail
        refine (A.silentB h p1 p2 p3).mono ?_
        rintro _ u52 ⟨rfl, h', b'⟩
        replace b := b.trans (b'.b.mono hB1)
        replace bb := bb.trans b'.b
        rw [L3] at h'
        replace h := h'
        clear h' b' 
        go_wp2
        go_roundw
        case rel => exact ⟨k + 1, by omega, by omega, by omega, by go_num, h, b, bb⟩
        case measure => simp [intOf]; omega
      case neg =>
        obtain ⟨L1, L2⟩ := s.begins a1 (k - 1) (by rw [a2]; omega)
        have r2 : decide ((k : Int) < (smnD I).li) = false := decide_eq_false hli
        have r3 : ((k : Int) == (smnD I).li) = true := by rw [beq_iff_eq]; omega
        obtain ⟨u, hu⟩ : ∃ u : NM, u = { s.begun with se := true } := ⟨_, rfl⟩
        rw [← hu] at L2
        have F1 : u.ty.m = 2 ^ I := by rw [hu]; exact a11
        have F2 : u.sl = I := by rw [hu]; exact a10
        clear hu
        have L3 : (s.sil (k - 1)).sent = (u.frm 3).bytes := by
          unfold NM.sent
          rw [L1, L2]
          rfl
        have K1 := fbytes_len (u.frm 3)
        have K2 : (u.frm 3).bytes.getD 0 0 = 3 := fbytes_kind (u.frm 3)
        go_wp2_with fail
        refine (A.sendB h).mono ?_
        rintro _ u5 ⟨v5, rfl, hv5, h5, b5⟩
        rw [L3] at hv5
        rw [L2] at h5
        replace b := b.trans (b5.b.mono hB1)
        replace bb := bb.trans b5.b
        generalize (u.frm 3).bytes = L at *
        obtain ⟨A5, c5, rfl, v1, v2, v3, v4⟩ := hv5.at_
        obtain ⟨bl5, off5, rfl, hbl5, hc5⟩ := v3 K1
        have c50 := hc5 0 K1
        unfold bv at c50
        rw [K2, Nat.add_zero] at c50
        have d0 : decide ((0 : Int) < ((L.length : Nat) : Int)) = true := decide_eq_true (by omega)
        clear b5 h hv5 v1 v2 v3 hc5 L3
        obtain ⟨y0, y1⟩ := keep _ bb
        have yb : (I : Int) < 4 := by omega
        have wu : IntKind.u64.wrap (I : Int) = I := IntWalk.u64_in _ (by omega)
        have hq2 : (((2 ^ I : Nat) : Int) == wrap64 ((2 : Int) ^ I)) = true := by rw [hpw]; simp
        replace h := h5
        clear h5
        go_wp2_with fail
        refine (A.viewB h).mono ?_
        rintro _ u61 ⟨rfl, h', b'⟩
        replace b := b.trans (b'.b.mono hB1)
        replace h : Nd NAt w1.heap.size [] _ g u := h'
        clear h' b' 
        rw [F1, F2]
        unfold csV
        go_wp2_with fail
        refine (A.viewB h).mono ?_
        rintro _ u62 ⟨rfl, h', b'⟩
        replace b := b.trans (b'.b.mono hB1)
        replace h : Nd NAt w1.heap.size [] _ g u := h'
        clear h' b' 
        rw [F1, F2]
        unfold csV
        go_wp2_with fail
        refine (known_nd A _).mono ?_
        rintro _ wk ⟨rfl, bk⟩
        replace bk := b.trans (bk.mono b.size)
        go_wp2
        go_ret
        exact ⟨rfl, bk⟩
  · skip
    go_wp2_with fail
    go_loopw [10] (fun i wr => ∃ k : Nat, k ≤ 15 ∧ i = .int .i64 k ∧ Nd NAt w1.heap.size [] wr g (s.sil k) ∧ Below w.heap.size w wr ∧ Below w1.heap.size w1 wr) (fun i _ => 15 - (intOf i).toNat)
    case atStart => exact ⟨0, by omega, rfl, h, b, bb⟩
    case round =>
      clear h b bb
      obtain ⟨k, hk, rfl, h, b, bb⟩ := hrel
      by_cases hlt : k < 15
      · have r1 : decide ((k : Int) < 15) = true := decide_eq_true (by omega)
        obtain ⟨L1, L2, L3⟩ := s.listens a1 k (by rw [a2]; omega)
        go_wp2_with fail
        refine (A.sendB h).mono ?_
        rintro _ u11 ⟨x11, rfl, hx, h', b'⟩
        replace b := b.trans (b'.b.mono hB1)
        replace bb := bb.trans b'.b
        rw [L1] at hx
        rw [L2] at h'
        replace h := h'
        obtain ⟨A11, c11, rfl, -⟩ := hx.at_
        clear h' b' hx
        go_wp2_with fail
        refine (A.silentB h p1 p2 p3).mono ?_
        rintro _ u12 ⟨rfl, h', b'⟩
        replace b := b.trans (b'.b.mono hB1)
        replace bb := bb.trans b'.b
        rw [L3] at h'
        replace h := h'
        clear h' b' 
        go_wp2
        go_roundw
        case rel => exact ⟨k + 1, by omega, by go_num, h, b, bb⟩
        case measure => simp [intOf]; omega
      · obtain rfl : k = 15 := by omega
        have r1 : decide (((15 : Nat) : Int) < 15) = false := decide_eq_false (by omega)
        obtain ⟨L1, L2, -⟩ := s.listens a1 15 (by rw [a2]; omega)
        go_wp2_with fail
        refine (A.sendB h).mono ?_
        rintro _ u21 ⟨x21, rfl, hx, h', b'⟩
        replace b := b.trans (b'.b.mono hB1)
        replace bb := bb.trans b'.b
        rw [L1] at hx
        rw [L2] at h'
        replace h := h'
        obtain ⟨A21, c21, rfl, -⟩ := hx.at_
        clear h' b' hx
        go_wp2_with fail
        refine (A.takeB ⟨0, 1, [], [], 0⟩ h SeesL.nil (fun x hx => by simp at hx) SeesL.nil (fun x hx => by simp at hx) p1 p2 p3 (by show _ ≤ (0 : Int) ∧ (0 : Int) ≤ _; omega)).mono ?_
        rintro _ u22 ⟨rfl, h', b'⟩
        replace b := b.trans (b'.b.mono hB1)
        replace bb := bb.trans b'.b
        rw [s.noise a1] at h'
        replace h : Nd NAt w1.heap.size [] _ g (s.sil 0) := h'
        clear h' b' 
        go_wp2_with fail
        go_loopw [11, 12] (fun k' y wr => ∃ k : Nat, 1 ≤ k ∧ k ≤ N + 1 ∧ (k : Int) ≤ (smnD I).li ∧ k' = .int .i64 k ∧ Nd NAt w1.heap.size [] wr g (s.sil (k - 1)) ∧ Below w.heap.size w wr ∧ Below w1.heap.size w1 wr) (fun k' _ _ => N + 1 - (intOf k').toNat)
        case atStart => exact ⟨1, by omega, by omega, by omega, rfl, h, b, bb⟩
        case round =>
          clear h b bb
          obtain ⟨k, hk1, hk, hkl, rfl, h, b, bb⟩ := hrel
          by_cases hlt : k ≤ N
          case neg =>
            have r1 : decide ((k : Int) ≤ (N : Int)) = false := decide_eq_false (by omega)
            go_wp2_with fail
            refine (A.stateB h).mono ?_
            rintro _ u41 ⟨rfl, h', b'⟩
            replace b := b.trans (b'.b.mono hB1)
            replace bb := bb.trans b'.b
            replace h : Nd NAt w1.heap.size [] _ g (s.sil (k - 1)) := h'
            clear h' b' 
            rw [show (s.sil (k - 1)).st = 1 from a1]
            go_wp2_with fail
            refine (known_nd A _).mono ?_
            rintro _ wk ⟨rfl, bk⟩
            replace bk := b.trans (bk.mono b.size)
            go_wp2
            go_ret
            exact ⟨rfl, bk⟩
          have r1 : decide ((k : Int) ≤ (N : Int)) = true := decide_eq_true (by omega)
          by_cases hli : (k : Int) < (smnD I).li
          case pos =>
            obtain ⟨L1, L2, L3⟩ := s.listens a1 (k - 1) (by rw [a2]; omega)
            have e3 : k - 1 + 1 = k := by omega
            rw [e3] at L2 L3
            have r2 : decide ((k : Int) < (smnD I).li) = true := decide_eq_true hli
            have r3 : ((k : Int) == (smnD I).li) = false := by rw [beq_eq_false_iff_ne]; omega
            go_wp2_with fail
            refine (A.sendB h).mono ?_
            rintro _ u51 ⟨x51, rfl, hx, h', b'⟩
            replace b := b.trans (b'.b.mono hB1)
            replace bb := bb.trans b'.b
            rw [L1] at hx
            rw [L2] at h'
            replace h := h'
            obtain ⟨A51, c51, rfl, -⟩ := hx.at_
            clear h' b' hx
            obtain ⟨y0, y1⟩ := keep _ bb
            have yb : (I : Int) < 4 := by omega
            go_wp2_with fail
            refine (A.silentB h p1 p2 p3).mono ?_
            rintro _ u52 ⟨rfl, h', b'⟩
            replace b := b.trans (b'.b.mono hB1)
            replace bb := bb.trans b'.b
            rw [L3] at h'
            replace h := h'
            clear h' b' 
            go_wp2
            go_roundw
            case rel => exact ⟨k + 1, by omega, by omega, by omega, by go_num, h, b, bb⟩
            case measure => simp [intOf]; omega
          case neg =>
            obtain ⟨L1, L2⟩ := s.begins a1 (k - 1) (by rw [a2]; omega)
            have r2 : decide ((k : Int) < (smnD I).li) = false := decide_eq_false hli
            have r3 : ((k : Int) == (smnD I).li) = true := by rw [beq_iff_eq]; omega
            obtain ⟨u, hu⟩ : ∃ u : NM, u = { s.begun with se := true } := ⟨_, rfl⟩
            rw [← hu] at L2
            have F1 : u.ty.m = 2 ^ I := by rw [hu]; exact a11
            have F2 : u.sl = I := by rw [hu]; exact a10
            clear hu
            have L3 : (s.sil (k - 1)).sent = (u.frm 3).bytes := by
              unfold NM.sent
              rw [L1, L2]
              rfl
            have K1 := fbytes_len (u.frm 3)
            have K2 : (u.frm 3).bytes.getD 0 0 = 3 := fbytes_kind (u.frm 3)
            go_wp2_with fail
            refine (A.sendB h).mono ?_
            rintro _ u5 ⟨v5, rfl, hv5, h5, b5⟩
            rw [L3] at hv5
            rw [L2] at h5
            replace b := b.trans (b5.b.mono hB1)
            replace bb := bb.trans b5.b
            generalize (u.frm 3).bytes = L at *
            obtain ⟨A5, c5, rfl, v1, v2, v3, v4⟩ := hv5.at_
            obtain ⟨bl5, off5, rfl, hbl5, hc5⟩ := v3 K1
            have c50 := hc5 0 K1
            unfold bv at c50
            rw [K2, Nat.add_zero] at c50
            have d0 : decide ((0 : Int) < ((L.length : Nat) : Int)) = true := decide_eq_true (by omega)
            clear b5 h hv5 v1 v2 v3 hc5 L3
            obtain ⟨y0, y1⟩ := keep _ bb
            have yb : (I : Int) < 4 := by omega
            have wu : IntKind.u64.wrap (I : Int) = I := IntWalk.u64_in _ (by omega)
            have hq2 : (((2 ^ I : Nat) : Int) == wrap64 ((2 : Int) ^ I)) = true := by rw [hpw]; simp
            replace h := h5
            clear h5
            go_wp2_with fail
            refine (A.viewB h).mono ?_
            rintro _ u61 ⟨rfl, h', b'⟩
            replace b := b.trans (b'.b.mono hB1)
            replace h : Nd NAt w1.heap.size [] _ g u := h'
            clear h' b' 
            rw [F1, F2]
            unfold csV
            go_wp2_with fail
            refine (A.viewB h).mono ?_
            rintro _ u62 ⟨rfl, h', b'⟩
            replace b := b.trans (b'.b.mono hB1)
            replace h : Nd NAt w1.heap.size [] _ g u := h'
            clear h' b' 
            rw [F1, F2]
            unfold csV
            go_wp2_with fail
            refine (known_nd A _).mono ?_
            rintro _ wk ⟨rfl, bk⟩
            replace bk := b.trans (bk.mono b.size)
            go_wp2
            go_ret
            exact ⟨rfl, bk⟩
/-- Of the node that is there. -/
theorem walk_nodeListens (i n : Int) (q : Bool) (w : World) (_h_i : -9223372036854775808 ≤ i ∧ i ≤ 9223372036854775807) (_h_n : -9223372036854775808 ≤ n ∧ n ≤ 9223372036854775807) :
    Calls Tryz.prog 6 #[.int .i64 i, .int .i64 n, .bool q] w fun e w' => e = .returned (.bool true) ∧ Below w.heap.size w w' := gwalk_nodeListens nodeApi i n q w _h_i _h_n

/-! ### THE ROW's STEP around the walk. -/
theorem own_nodeListens : ownKnob Tryz.prog.godebug = none := by kernel_rfl
theorem laidOut_nodeListens : laidOutB Tryz.prog = true := by kernel_rfl
set_option maxRecDepth 100000 in
theorem lifted_nodeListens (os : Os) (started : os.Started) (H : Type) (enc : TypeId × Value → H) :
    ReturnsInHanded {} Tryz.checked os 6 .any (Rows.nodeListensSpec.pre6 enc Tryz.prog Tryz.f6 Rows.nodeListensRow.domain false) (Rows.nodeListensSpec.post enc Tryz.prog Tryz.f6 false true false false) := by
  refine returnsInHanded_of_change (C := Tryz.checked) own_nodeListens started (by kernel_rfl) Tryz.func6
    (ChangeSpec.witness6 (enc := enc) (C := Tryz.checked) false ⟨#[], #[.int .i64 0, .int .i64 0, .bool false], []⟩ 8 (by kernel_rfl) (by kernel_rfl) (by kernel_rfl) (by kernel_rfl)) ?_
  intro W base args ds gs before hval0 hW hcnd _
  have hval : ∀ (j : Nat) t v, Tryz.f6.params[j]? = some t → args[j]? = some v → Value.okWide Tryz.prog W .any base t v := hval0
  have hW' := hW
  obtain ⟨p, q, hA0, hV, rfl, hfz, hnd⟩ := hW
  have hA : DataW.TrodAll enc Tryz.prog W 0 (fun _ => true) true Tryz.f6.params.toList args.toList ds p := hA0
  rw [Tryz.params6] at hA hval
  obtain ⟨v0, vs0, d0, ds0, p0, q0, hargs, rfl, rfl, h0, r0⟩ := trodAll_cons hA
  obtain ⟨v1, vs1, d1, ds1, p1, q1, rfl, rfl, rfl, h1, r1⟩ := trodAll_cons r0
  obtain ⟨v2, vs2, d2, ds2, p2, q2, rfl, rfl, rfl, h2, r2⟩ := trodAll_cons r1
  obtain ⟨rfl, rfl, rfl⟩ := trodAll_nil r2
  obtain rfl : args = #[v0, v1, v2] := by cases args; simp_all
  obtain ⟨rfl, rfl⟩ := trodVars_none hV
  obtain ⟨a0, rfl, rfl, rfl, w0⟩ := open_int Tryz.underlying3 (hval 0 3 v0 rfl rfl) h0
  obtain ⟨a1, rfl, rfl, rfl, w1⟩ := open_int Tryz.underlying3 (hval 1 3 v1 rfl rfl) h1
  obtain ⟨a2, rfl, rfl, rfl⟩ := open_bool Tryz.underlying4 (hval 2 4 v2 rfl rfl) h2
  clear hA0 hval0
  refine (walk_nodeListens a0 a1 a2 W (bounds_i64 w0) (bounds_i64 w1)).mono fun e W' ⟨he, bel⟩ => ?_
  subst he
  exact ⟨_, rfl, _, _, _, [], _, [], hW', trodAll_mk1 (shut_bool Tryz.underlying4 _), (trodAll_cons_mk (shut_int Tryz.underlying3 w0) (trodAll_cons_mk (shut_int Tryz.underlying3 w1) (trodAll_cons_mk (shut_bool Tryz.underlying4 _) trodAll_mk0))), rfl, bel.frame _, fun h => by cases h⟩

theorem over_nodeListens : Rows.nodeListensRow.holds Tryz.pinned (OpenSpec.ofChange Rows.nodeListensSpec) :=
  OpenClaim.holds_of_wide 6 Tryz.f6 rfl rfl rfl rfl rfl rfl rfl ⟨rfl, rfl, rfl, rfl, rfl⟩ rfl rfl rfl rfl rfl (by kernel_rfl) Tryz.func6 (by kernel_rfl)
    (of_decide_eq_true (by kernel_rfl)) (by unfold Func.isWrapper; first | (rw [if_pos (by decide +kernel)]; kernel_rfl) | (rw [if_neg (by decide +kernel)]; exact ⟨rfl, rfl⟩))
    (fun os started H enc _ => lifted_nodeListens os started H enc)

theorem proved_nodeListens : Rows.NodeListensSaid := over_nodeListens
end Go.Proofs.YtfakibajipmkjaaGreat
