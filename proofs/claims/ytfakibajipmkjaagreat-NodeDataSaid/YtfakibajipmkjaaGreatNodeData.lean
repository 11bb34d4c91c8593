/- NodeData holds: what it sends is what was written last, as long as may be. For all bytes. -/
import Derived.Test.YtfakibajipmkjaaGreatNB38
namespace Go.Proofs.YtfakibajipmkjaaGreat
open Go.ChangeShapes Go.WideShapes Go.ChangeAt Go.RowKit

def nd0 : NM := (NM.new (smnT 4 0) (0 : Int).toNat 0 []).on 0
theorem nd_a : nd0.st = 1 ∧ nd0.me.li = 20 ∧ nd0.me.sz = 4 ∧ nd0.ty.a = 0 ∧ nd0.ty.f = 0 ∧ nd0.tm = 0 ∧ nd0.da = [] ∧ nd0.wt = 0 ∧ nd0.se = false ∧ nd0.begun.rd = 0 ∧ nd0.begun.sl = 0 ∧ nd0.begun.ty.m = 1 := by decide +kernel
theorem nd_eq (D : List Int) : ({ nd0 with da := D } : NM) = ({ nd0 with da := D } : NM).sil 0 := by
  obtain ⟨-, -, -, -, -, -, -, e1, e2, -⟩ := nd_a
  unfold NM.sil
  generalize nd0 = s at *
  cases s
  simp at e1 e2
  simp [e1, e2]
theorem nd_begun (D : List Int) : ({ nd0 with da := D } : NM).begun = { nd0.begun with da := D } := rfl
theorem nd_sent (D : List Int) : (({ nd0 with da := D } : NM).sil 19).sent = (⟨3, ⟨0, 0, 1⟩, D⟩ : Fr.F).bytes := by
  obtain ⟨e0, e1, -, -, -, -, -, -, -, e3, e4, e5⟩ := nd_a
  obtain ⟨L1, L2⟩ := NM.begins ({ nd0 with da := D } : NM) e0 19 (by show ¬ (19 : Int) + 1 < nd0.me.li; rw [e1]; omega)
  unfold NM.sent
  rw [L1, L2, if_neg (by decide), nd_begun]
  unfold NM.frm NM.view
  simp only [e3, e4, e5]
  rfl
theorem nd_back (l : List Int) (h : l.length ≤ 8) : (⟨3, ⟨0, 0, 1⟩, l⟩ : Fr.F).is = true ∧ Fr.res (⟨3, ⟨0, 0, 1⟩, l⟩ : Fr.F).bytes ⟨0, 0, 0⟩ = ⟨3, ⟨0, 0, 1⟩, l⟩ ∧ Fr.err (⟨3, ⟨0, 0, 1⟩, l⟩ : Fr.F).bytes ⟨0, 0, 0⟩ = 0 := by
  have hi : (⟨3, ⟨0, 0, 1⟩, l⟩ : Fr.F).is = true := by
    rw [Fr.F.is_iff]
    exact ⟨⟨by show (1 : Int) ≤ 3; omega, by show (3 : Int) ≤ 3; omega⟩, by show (⟨0, 0, 1⟩ : Fr.St).may = true; decide, h⟩
  obtain ⟨b1, b2, b3⟩ := Fr.back hi ⟨0, 0, 0⟩ (by decide)
  have b3 : Fr.sumB (⟨3, ⟨0, 0, 1⟩, l⟩ : Fr.F).bytes ⟨0, 0, 0⟩ = true := b3.2 (fun h => absurd h (by show ¬ (3 : Int) = 1; omega))
  refine ⟨hi, ?_, ?_⟩
  · unfold Fr.res
    rw [b1, b3, b2]
    rfl
  · unfold Fr.err
    rw [b1, b3]
    rfl
theorem write_da (D l : List Int) : ({ nd0 with da := D } : NM).writeE l = (if l.length ≤ 4 then 0 else 1) ∧ ({ nd0 with da := D } : NM).write l = { nd0 with da := if l.length ≤ 4 then l else D } := by
  have e : ({ nd0 with da := D } : NM).me.sz = 4 := nd_a.2.2.1
  unfold NM.writeE NM.write
  rw [e]
  by_cases h : l.length ≤ 4
  · have h' : ¬ (4 : Int) < l.length := by omega
    rw [if_neg h', if_neg h', if_pos h, if_pos h]
    exact ⟨rfl, rfl⟩
  · have h' : (4 : Int) < l.length := by omega
    rw [if_pos h', if_pos h', if_neg h, if_neg h]
    exact ⟨rfl, rfl⟩
set_option maxRecDepth 100000 in
set_option maxHeartbeats 2000000 in
theorem gcore_nodeData {NAt : List Nat → World → Nat → NM → Prop} (A : NodeApi NAt) (M : NodeMore NAt) (la lb : List Int) (Aa Ab : Option Addr) (ca cb : Nat) (w : World) (hva : SeesL w w.heap.size (.slice Aa la.length ca) la) (hla : bytesL la) (hvb : SeesL w w.heap.size (.slice Ab lb.length cb) lb) (hlb : bytesL lb) :
    Calls Tryz.prog 9 #[.slice Aa la.length ca, .slice Ab lb.length cb] w fun e w' => e = .returned (.bool true) ∧ Below w.heap.size w w' := by
  by_cases call : la.length ≤ 20 ∧ lb.length ≤ 20
  case neg =>
    clear hva hvb
    go_enter Tryz.func9, Tryz.ntmps9
    go_wp2
    all_goals first
      | (exfalso; omega)
      | (go_ret; exact ⟨rfl, Below.refl _ _⟩)
      | skip
  obtain ⟨k1, k2⟩ := call
  have d1 : decide ((20 : Int) < ((la.length : Nat) : Int)) = false := decide_eq_false (by omega)
  have d2 : decide ((20 : Int) < ((lb.length : Nat) : Int)) = false := decide_eq_false (by omega)
  obtain ⟨e0, e1, e2, e3, e4, e5, e6, -⟩ := nd_a
  have hz : nd0 = { nd0 with da := [] } := by
    rw [← e6]
  have R0 : textL [] = { data := #[] } := rfl
  by_cases ha : la.length ≤ 4 <;> by_cases hb : lb.length ≤ 4
  · have n0 := nd_sent lb
    obtain ⟨n1, n2, n3⟩ := nd_back lb (by omega)
    have n4 : bytesL (⟨3, ⟨0, 0, 1⟩, lb⟩ : Fr.F).bytes := Fr.F.bytes_ok n1 hlb
    have f1 : decide (la.length ≤ 4) = true := decide_eq_true ha
    have f2 : decide (lb.length ≤ 4) = true := decide_eq_true hb
    have f3 : decide ((la.length : Int) ≤ 4) = true := decide_eq_true (by omega)
    have f4 : decide ((lb.length : Int) ≤ 4) = true := decide_eq_true (by omega)
    obtain ⟨w1a, w1b⟩ := write_da [] la
    rw [if_pos ha] at w1a w1b
    obtain ⟨w2a, w2b⟩ := write_da la lb
    rw [if_pos hb] at w2a w2b
    obtain ⟨q, hq⟩ : ∃ q : NM, q = { nd0 with da := lb } := ⟨_, rfl⟩
    have hq0 := nd_eq lb
    have n5 := nd_begun lb
    rw [← hq] at n0 hq0 n5
    have q1 : q.st = 1 := by rw [hq]; exact e0
    have q2 : q.me.li = 20 := by rw [hq]; exact e1
    have q3 : q.ty.a < 900 := by rw [hq]; show nd0.ty.a < 900; rw [e3]; omega
    have q4 : q.ty.f < 900 := by rw [hq]; show nd0.ty.f < 900; rw [e4]; omega
    have q5 : -4611686018427387904 ≤ q.tm ∧ q.tm ≤ 4611686018427387904 := by rw [hq]; show _ ≤ nd0.tm ∧ nd0.tm ≤ _; rw [e5]; omega
    rw [← hq] at w2b
    have R1 := fun W (hW : Below w.heap.size w W) => run_textL (hva.below hW)
    have R2 := fun W (hW : Below w.heap.size w W) => run_textL (hvb.below hW)
    have HS := fun W => Lib.hid (some_nd 4 0 (by omega) (by omega) W)
    go_enter Tryz.func9, Tryz.ntmps9
    go_wp2_with fail
    refine (HS _).out.mono ?_
    rintro _ w1 ⟨v, rfl, ho, b⟩
    have hv := ho.sees
    have hB1 := b.size
    have hm := may_some 4 0 0 0 [] (by omega) (by omega) (by omega) (by omega) (by simp) (by simp)
    clear ho HS
    go_wp2_with fail
    refine (A.newB (smnT 4 0) v _ 0 0 [] w1 hv SeesRs.nil hm).mono ?_
    rintro _ w2 ⟨g, rfl, h, b'⟩
    replace b := b.trans (b'.mono b.size)
    clear hv hm b'
    go_wp2_with fail
    refine (A.onB 0 h).mono ?_
    rintro _ wo ⟨rfl, h', b'⟩
    replace b := b.trans (b'.b.mono hB1)
    rw [show NM.onE _ 0 = 0 from rfl]
    replace h : Nd NAt w1.heap.size [] _ g nd0 := h'
    clear h' b' 
    rw [hz] at h
    go_wp2_with fail
    refine (M.writeB h ((hva.below b).more b.size) hla).mono ?_
    rintro _ u1 ⟨rfl, h', b'⟩
    replace b := b.trans (b'.b.mono hB1)
    rw [w1b] at h'
    replace h := h'
    clear h' b' 
    rw [w1a]
    go_wp2_with fail
    refine (M.writeB h ((hvb.below b).more b.size) hlb).mono ?_
    rintro _ u2 ⟨rfl, h', b'⟩
    replace b := b.trans (b'.b.mono hB1)
    rw [w2b] at h'
    rw [hq0] at h'
    replace h := h'
    clear h' b' 
    rw [w2a]
    have R1 := R1 _ b
    have R2 := R2 _ b
    clear w1a w1b w2a w2b hq0
    go_wp2_with fail
    clear R1 R2
    go_loopw [10] (fun i wr => ∃ k : Nat, k ≤ 19 ∧ i = .int .i64 k ∧ Nd NAt w1.heap.size [] wr g (q.sil k) ∧ Below w.heap.size w wr) (fun i _ => 19 - (intOf i).toNat)
    case atStart => exact ⟨0, by omega, rfl, h, b⟩
    case round =>
      clear h b
      obtain ⟨k, hk, rfl, h, b⟩ := hrel
      by_cases hlt : k < 19
      · have r1 : decide ((k : Int) < 19) = true := decide_eq_true (by omega)
        obtain ⟨L1, L2, L3⟩ := q.listens q1 k (by rw [q2]; omega)
        go_wp2_with fail
        refine (A.sendB h).mono ?_
        rintro _ u11 ⟨x11, rfl, hx, h', b'⟩
        replace b := b.trans (b'.b.mono hB1)
        rw [L1] at hx
        rw [L2] at h'
        replace h := h'
        obtain ⟨A11, c11, rfl, -⟩ := hx.at_
        clear h' b' hx
        go_wp2_with fail
        refine (A.silentB h q3 q4 q5).mono ?_
        rintro _ u12 ⟨rfl, h', b'⟩
        replace b := b.trans (b'.b.mono hB1)
        rw [L3] at h'
        replace h := h'
        clear h' b' 
        go_wp2
        go_roundw
        case rel => exact ⟨k + 1, by omega, by go_num, h, b⟩
        case measure => simp [intOf]; omega
      · obtain rfl : k = 19 := by omega
        have r1 : decide (((19 : Nat) : Int) < 19) = false := decide_eq_false (by omega)
        go_wp2_with fail
        refine (A.sendB h).mono ?_
        rintro _ u2 ⟨x2, rfl, hx, h', b'⟩
        replace b := b.trans (b'.b.mono hB1)
        rw [n0] at hx
        clear h' b' h
        have HD := fun W (hx : SeesL W W.heap.size x2 (⟨3, ⟨0, 0, 1⟩, lb⟩ : Fr.F).bytes) => Lib.hid (decode_ref x2 _ ⟨0, 0, 0⟩ W hx n4)
        unfold Dec at HD
        rw [n2, n3] at HD
        go_wp2_with fail
        refine (HD _ hx).out.mono ?_
        rintro _ w3 ⟨v3, rfl, ho3, b3⟩
        replace b := b.trans (b3.mono b.size)
        have hs3 := ho3.sees
        clear b3 ho3 hx HD n2 n3 n4
        have hs3 : SeesL _ _ v3 lb := hs3
        obtain ⟨A3, c3, rfl, -⟩ := hs3.at_
        have RX := run_textL (hs3.alloc (.cells #[.int .i64 3, .int .i64 0, .int .i64 0, .int .i64 1, .slice A3 (lb : List Int).length c3] 62))
        replace b := b.alloc b.size (.cells #[.int .i64 3, .int .i64 0, .int .i64 0, .int .i64 1, .slice A3 (lb : List Int).length c3] 62)
        clear hs3
        unfold frV
        go_wp2_with fail
        refine (known_nd A _).mono ?_
        rintro _ wk ⟨rfl, bk⟩
        replace bk := b.trans (bk.mono b.size)
        go_wp2
        go_ret
        exact ⟨rfl, bk⟩
  · have n0 := nd_sent la
    obtain ⟨n1, n2, n3⟩ := nd_back la (by omega)
    have n4 : bytesL (⟨3, ⟨0, 0, 1⟩, la⟩ : Fr.F).bytes := Fr.F.bytes_ok n1 hla
    have f1 : decide (la.length ≤ 4) = true := decide_eq_true ha
    have f2 : decide (lb.length ≤ 4) = false := decide_eq_false hb
    have f3 : decide ((la.length : Int) ≤ 4) = true := decide_eq_true (by omega)
    have f4 : decide ((lb.length : Int) ≤ 4) = false := decide_eq_false (by omega)
    obtain ⟨w1a, w1b⟩ := write_da [] la
    rw [if_pos ha] at w1a w1b
    obtain ⟨w2a, w2b⟩ := write_da la lb
    rw [if_neg hb] at w2a w2b
    obtain ⟨q, hq⟩ : ∃ q : NM, q = { nd0 with da := la } := ⟨_, rfl⟩
    have hq0 := nd_eq la
    have n5 := nd_begun la
    rw [← hq] at n0 hq0 n5
    have q1 : q.st = 1 := by rw [hq]; exact e0
    have q2 : q.me.li = 20 := by rw [hq]; exact e1
    have q3 : q.ty.a < 900 := by rw [hq]; show nd0.ty.a < 900; rw [e3]; omega
    have q4 : q.ty.f < 900 := by rw [hq]; show nd0.ty.f < 900; rw [e4]; omega
    have q5 : -4611686018427387904 ≤ q.tm ∧ q.tm ≤ 4611686018427387904 := by rw [hq]; show _ ≤ nd0.tm ∧ nd0.tm ≤ _; rw [e5]; omega
    rw [← hq] at w2b
    have R1 := fun W (hW : Below w.heap.size w W) => run_textL (hva.below hW)
    have R2 := fun W (hW : Below w.heap.size w W) => run_textL (hvb.below hW)
    have HS := fun W => Lib.hid (some_nd 4 0 (by omega) (by omega) W)
    go_enter Tryz.func9, Tryz.ntmps9
    go_wp2_with fail
    refine (HS _).out.mono ?_
    rintro _ w1 ⟨v, rfl, ho, b⟩
    have hv := ho.sees
    have hB1 := b.size
    have hm := may_some 4 0 0 0 [] (by omega) (by omega) (by omega) (by omega) (by simp) (by simp)
    clear ho HS
    go_wp2_with fail
    refine (A.newB (smnT 4 0) v _ 0 0 [] w1 hv SeesRs.nil hm).mono ?_
    rintro _ w2 ⟨g, rfl, h, b'⟩
    replace b := b.trans (b'.mono b.size)
    clear hv hm b'
    go_wp2_with fail
    refine (A.onB 0 h).mono ?_
    rintro _ wo ⟨rfl, h', b'⟩
    replace b := b.trans (b'.b.mono hB1)
    rw [show NM.onE _ 0 = 0 from rfl]
    replace h : Nd NAt w1.heap.size [] _ g nd0 := h'
    clear h' b' 
    rw [hz] at h
    go_wp2_with fail
    refine (M.writeB h ((hva.below b).more b.size) hla).mono ?_
    rintro _ u1 ⟨rfl, h', b'⟩
    replace b := b.trans (b'.b.mono hB1)
    rw [w1b] at h'
    replace h := h'
    clear h' b' 
    rw [w1a]
    go_wp2_with fail
    refine (M.writeB h ((hvb.below b).more b.size) hlb).mono ?_
    rintro _ u2 ⟨rfl, h', b'⟩
    replace b := b.trans (b'.b.mono hB1)
    rw [← hq] at h'
    rw [w2b] at h'
    rw [hq0] at h'
    replace h := h'
    clear h' b' 
    rw [w2a]
    have R1 := R1 _ b
    have R2 := R2 _ b
    clear w1a w1b w2a w2b hq0
    go_wp2_with fail
    clear R1 R2
    go_loopw [10] (fun i wr => ∃ k : Nat, k ≤ 19 ∧ i = .int .i64 k ∧ Nd NAt w1.heap.size [] wr g (q.sil k) ∧ Below w.heap.size w wr) (fun i _ => 19 - (intOf i).toNat)
    case atStart => exact ⟨0, by omega, rfl, h, b⟩
    case round =>
      clear h b
      obtain ⟨k, hk, rfl, h, b⟩ := hrel
      by_cases hlt : k < 19
      · have r1 : decide ((k : Int) < 19) = true := decide_eq_true (by omega)
        obtain ⟨L1, L2, L3⟩ := q.listens q1 k (by rw [q2]; omega)
        go_wp2_with fail
        refine (A.sendB h).mono ?_
        rintro _ u11 ⟨x11, rfl, hx, h', b'⟩
        replace b := b.trans (b'.b.mono hB1)
        rw [L1] at hx
        rw [L2] at h'
        replace h := h'
        obtain ⟨A11, c11, rfl, -⟩ := hx.at_
        clear h' b' hx
        go_wp2_with fail
        refine (A.silentB h q3 q4 q5).mono ?_
        rintro _ u12 ⟨rfl, h', b'⟩
        replace b := b.trans (b'.b.mono hB1)
        rw [L3] at h'
        replace h := h'
        clear h' b' 
        go_wp2
        go_roundw
        case rel => exact ⟨k + 1, by omega, by go_num, h, b⟩
        case measure => simp [intOf]; omega
      · obtain rfl : k = 19 := by omega
        have r1 : decide (((19 : Nat) : Int) < 19) = false := decide_eq_false (by omega)
        go_wp2_with fail
        refine (A.sendB h).mono ?_
        rintro _ u2 ⟨x2, rfl, hx, h', b'⟩
        replace b := b.trans (b'.b.mono hB1)
        rw [n0] at hx
        clear h' b' h
        have HD := fun W (hx : SeesL W W.heap.size x2 (⟨3, ⟨0, 0, 1⟩, la⟩ : Fr.F).bytes) => Lib.hid (decode_ref x2 _ ⟨0, 0, 0⟩ W hx n4)
        unfold Dec at HD
        rw [n2, n3] at HD
        go_wp2_with fail
        refine (HD _ hx).out.mono ?_
        rintro _ w3 ⟨v3, rfl, ho3, b3⟩
        replace b := b.trans (b3.mono b.size)
        have hs3 := ho3.sees
        clear b3 ho3 hx HD n2 n3 n4
        have hs3 : SeesL _ _ v3 la := hs3
        obtain ⟨A3, c3, rfl, -⟩ := hs3.at_
        have RX := run_textL (hs3.alloc (.cells #[.int .i64 3, .int .i64 0, .int .i64 0, .int .i64 1, .slice A3 (la : List Int).length c3] 62))
        replace b := b.alloc b.size (.cells #[.int .i64 3, .int .i64 0, .int .i64 0, .int .i64 1, .slice A3 (la : List Int).length c3] 62)
        clear hs3
        unfold frV
        go_wp2_with fail
        refine (known_nd A _).mono ?_
        rintro _ wk ⟨rfl, bk⟩
        replace bk := b.trans (bk.mono b.size)
        go_wp2
        go_ret
        exact ⟨rfl, bk⟩
  · have n0 := nd_sent lb
    obtain ⟨n1, n2, n3⟩ := nd_back lb (by omega)
    have n4 : bytesL (⟨3, ⟨0, 0, 1⟩, lb⟩ : Fr.F).bytes := Fr.F.bytes_ok n1 hlb
    have f1 : decide (la.length ≤ 4) = false := decide_eq_false ha
    have f2 : decide (lb.length ≤ 4) = true := decide_eq_true hb
    have f3 : decide ((la.length : Int) ≤ 4) = false := decide_eq_false (by omega)
    have f4 : decide ((lb.length : Int) ≤ 4) = true := decide_eq_true (by omega)
    obtain ⟨w1a, w1b⟩ := write_da [] la
    rw [if_neg ha] at w1a w1b
    obtain ⟨w2a, w2b⟩ := write_da [] lb
    rw [if_pos hb] at w2a w2b
    obtain ⟨q, hq⟩ : ∃ q : NM, q = { nd0 with da := lb } := ⟨_, rfl⟩
    have hq0 := nd_eq lb
    have n5 := nd_begun lb
    rw [← hq] at n0 hq0 n5
    have q1 : q.st = 1 := by rw [hq]; exact e0
    have q2 : q.me.li = 20 := by rw [hq]; exact e1
    have q3 : q.ty.a < 900 := by rw [hq]; show nd0.ty.a < 900; rw [e3]; omega
    have q4 : q.ty.f < 900 := by rw [hq]; show nd0.ty.f < 900; rw [e4]; omega
    have q5 : -4611686018427387904 ≤ q.tm ∧ q.tm ≤ 4611686018427387904 := by rw [hq]; show _ ≤ nd0.tm ∧ nd0.tm ≤ _; rw [e5]; omega
    rw [← hq] at w2b
    have R1 := fun W (hW : Below w.heap.size w W) => run_textL (hva.below hW)
    have R2 := fun W (hW : Below w.heap.size w W) => run_textL (hvb.below hW)
    have HS := fun W => Lib.hid (some_nd 4 0 (by omega) (by omega) W)
    go_enter Tryz.func9, Tryz.ntmps9
    go_wp2_with fail
    refine (HS _).out.mono ?_
    rintro _ w1 ⟨v, rfl, ho, b⟩
    have hv := ho.sees
    have hB1 := b.size
    have hm := may_some 4 0 0 0 [] (by omega) (by omega) (by omega) (by omega) (by simp) (by simp)
    clear ho HS
    go_wp2_with fail
    refine (A.newB (smnT 4 0) v _ 0 0 [] w1 hv SeesRs.nil hm).mono ?_
    rintro _ w2 ⟨g, rfl, h, b'⟩
    replace b := b.trans (b'.mono b.size)
    clear hv hm b'
    go_wp2_with fail
    refine (A.onB 0 h).mono ?_
    rintro _ wo ⟨rfl, h', b'⟩
    replace b := b.trans (b'.b.mono hB1)
    rw [show NM.onE _ 0 = 0 from rfl]
    replace h : Nd NAt w1.heap.size [] _ g nd0 := h'
    clear h' b' 
    rw [hz] at h
    go_wp2_with fail
    refine (M.writeB h ((hva.below b).more b.size) hla).mono ?_
    rintro _ u1 ⟨rfl, h', b'⟩
    replace b := b.trans (b'.b.mono hB1)
    rw [w1b] at h'
    replace h := h'
    clear h' b' 
    rw [w1a]
    go_wp2_with fail
    refine (M.writeB h ((hvb.below b).more b.size) hlb).mono ?_
    rintro _ u2 ⟨rfl, h', b'⟩
    replace b := b.trans (b'.b.mono hB1)
    rw [w2b] at h'
    rw [hq0] at h'
    replace h := h'
    clear h' b' 
    rw [w2a]
    have R1 := R1 _ b
    have R2 := R2 _ b
    clear w1a w1b w2a w2b hq0
    go_wp2_with fail
    clear R1 R2
    go_loopw [10] (fun i wr => ∃ k : Nat, k ≤ 19 ∧ i = .int .i64 k ∧ Nd NAt w1.heap.size [] wr g (q.sil k) ∧ Below w.heap.size w wr) (fun i _ => 19 - (intOf i).toNat)
    case atStart => exact ⟨0, by omega, rfl, h, b⟩
    case round =>
      clear h b
      obtain ⟨k, hk, rfl, h, b⟩ := hrel
      by_cases hlt : k < 19
      · have r1 : decide ((k : Int) < 19) = true := decide_eq_true (by omega)
        obtain ⟨L1, L2, L3⟩ := q.listens q1 k (by rw [q2]; omega)
        go_wp2_with fail
        refine (A.sendB h).mono ?_
        rintro _ u11 ⟨x11, rfl, hx, h', b'⟩
        replace b := b.trans (b'.b.mono hB1)
        rw [L1] at hx
        rw [L2] at h'
        replace h := h'
        obtain ⟨A11, c11, rfl, -⟩ := hx.at_
        clear h' b' hx
        go_wp2_with fail
        refine (A.silentB h q3 q4 q5).mono ?_
        rintro _ u12 ⟨rfl, h', b'⟩
        replace b := b.trans (b'.b.mono hB1)
        rw [L3] at h'
        replace h := h'
        clear h' b' 
        go_wp2
        go_roundw
        case rel => exact ⟨k + 1, by omega, by go_num, h, b⟩
        case measure => simp [intOf]; omega
      · obtain rfl : k = 19 := by omega
        have r1 : decide (((19 : Nat) : Int) < 19) = false := decide_eq_false (by omega)
        go_wp2_with fail
        refine (A.sendB h).mono ?_
        rintro _ u2 ⟨x2, rfl, hx, h', b'⟩
        replace b := b.trans (b'.b.mono hB1)
        rw [n0] at hx
        clear h' b' h
        have HD := fun W (hx : SeesL W W.heap.size x2 (⟨3, ⟨0, 0, 1⟩, lb⟩ : Fr.F).bytes) => Lib.hid (decode_ref x2 _ ⟨0, 0, 0⟩ W hx n4)
        unfold Dec at HD
        rw [n2, n3] at HD
        go_wp2_with fail
        refine (HD _ hx).out.mono ?_
        rintro _ w3 ⟨v3, rfl, ho3, b3⟩
        replace b := b.trans (b3.mono b.size)
        have hs3 := ho3.sees
        clear b3 ho3 hx HD n2 n3 n4
        have hs3 : SeesL _ _ v3 lb := hs3
        obtain ⟨A3, c3, rfl, -⟩ := hs3.at_
        have RX := run_textL (hs3.alloc (.cells #[.int .i64 3, .int .i64 0, .int .i64 0, .int .i64 1, .slice A3 (lb : List Int).length c3] 62))
        replace b := b.alloc b.size (.cells #[.int .i64 3, .int .i64 0, .int .i64 0, .int .i64 1, .slice A3 (lb : List Int).length c3] 62)
        clear hs3
        unfold frV
        go_wp2_with fail
        refine (known_nd A _).mono ?_
        rintro _ wk ⟨rfl, bk⟩
        replace bk := b.trans (bk.mono b.size)
        go_wp2
        go_ret
        exact ⟨rfl, bk⟩
  · have n0 := nd_sent []
    obtain ⟨n1, n2, n3⟩ := nd_back [] (by simp)
    have n4 : bytesL (⟨3, ⟨0, 0, 1⟩, []⟩ : Fr.F).bytes := Fr.F.bytes_ok n1 (fun x hx => by simp at hx)
    have f1 : decide (la.length ≤ 4) = false := decide_eq_false ha
    have f2 : decide (lb.length ≤ 4) = false := decide_eq_false hb
    have f3 : decide ((la.length : Int) ≤ 4) = false := decide_eq_false (by omega)
    have f4 : decide ((lb.length : Int) ≤ 4) = false := decide_eq_false (by omega)
    obtain ⟨w1a, w1b⟩ := write_da [] la
    rw [if_neg ha] at w1a w1b
    obtain ⟨w2a, w2b⟩ := write_da [] lb
    rw [if_neg hb] at w2a w2b
    obtain ⟨q, hq⟩ : ∃ q : NM, q = { nd0 with da := [] } := ⟨_, rfl⟩
    have hq0 := nd_eq []
    have n5 := nd_begun []
    rw [← hq] at n0 hq0 n5
    have q1 : q.st = 1 := by rw [hq]; exact e0
    have q2 : q.me.li = 20 := by rw [hq]; exact e1
    have q3 : q.ty.a < 900 := by rw [hq]; show nd0.ty.a < 900; rw [e3]; omega
    have q4 : q.ty.f < 900 := by rw [hq]; show nd0.ty.f < 900; rw [e4]; omega
    have q5 : -4611686018427387904 ≤ q.tm ∧ q.tm ≤ 4611686018427387904 := by rw [hq]; show _ ≤ nd0.tm ∧ nd0.tm ≤ _; rw [e5]; omega
    rw [← hq] at w2b
    have R1 := fun W (hW : Below w.heap.size w W) => run_textL (hva.below hW)
    have R2 := fun W (hW : Below w.heap.size w W) => run_textL (hvb.below hW)
    have HS := fun W => Lib.hid (some_nd 4 0 (by omega) (by omega) W)
    go_enter Tryz.func9, Tryz.ntmps9
    go_wp2_with fail
    refine (HS _).out.mono ?_
    rintro _ w1 ⟨v, rfl, ho, b⟩
    have hv := ho.sees
    have hB1 := b.size
    have hm := may_some 4 0 0 0 [] (by omega) (by omega) (by omega) (by omega) (by simp) (by simp)
    clear ho HS
    go_wp2_with fail
    refine (A.newB (smnT 4 0) v _ 0 0 [] w1 hv SeesRs.nil hm).mono ?_
    rintro _ w2 ⟨g, rfl, h, b'⟩
    replace b := b.trans (b'.mono b.size)
    clear hv hm b'
    go_wp2_with fail
    refine (A.onB 0 h).mono ?_
    rintro _ wo ⟨rfl, h', b'⟩
    replace b := b.trans (b'.b.mono hB1)
    rw [show NM.onE _ 0 = 0 from rfl]
    replace h : Nd NAt w1.heap.size [] _ g nd0 := h'
    clear h' b' 
    rw [hz] at h
    go_wp2_with fail
    refine (M.writeB h ((hva.below b).more b.size) hla).mono ?_
    rintro _ u1 ⟨rfl, h', b'⟩
    replace b := b.trans (b'.b.mono hB1)
    rw [w1b] at h'
    replace h := h'
    clear h' b' 
    rw [w1a]
    go_wp2_with fail
    refine (M.writeB h ((hvb.below b).more b.size) hlb).mono ?_
    rintro _ u2 ⟨rfl, h', b'⟩
    replace b := b.trans (b'.b.mono hB1)
    rw [← hq] at h'
    rw [w2b] at h'
    rw [hq0] at h'
    replace h := h'
    clear h' b' 
    rw [w2a]
    have R1 := R1 _ b
    have R2 := R2 _ b
    clear w1a w1b w2a w2b hq0
    go_wp2_with fail
    clear R1 R2
    go_loopw [10] (fun i wr => ∃ k : Nat, k ≤ 19 ∧ i = .int .i64 k ∧ Nd NAt w1.heap.size [] wr g (q.sil k) ∧ Below w.heap.size w wr) (fun i _ => 19 - (intOf i).toNat)
    case atStart => exact ⟨0, by omega, rfl, h, b⟩
    case round =>
      clear h b
      obtain ⟨k, hk, rfl, h, b⟩ := hrel
      by_cases hlt : k < 19
      · have r1 : decide ((k : Int) < 19) = true := decide_eq_true (by omega)
        obtain ⟨L1, L2, L3⟩ := q.listens q1 k (by rw [q2]; omega)
        go_wp2_with fail
        refine (A.sendB h).mono ?_
        rintro _ u11 ⟨x11, rfl, hx, h', b'⟩
        replace b := b.trans (b'.b.mono hB1)
        rw [L1] at hx
        rw [L2] at h'
        replace h := h'
        obtain ⟨A11, c11, rfl, -⟩ := hx.at_
        clear h' b' hx
        go_wp2_with fail
        refine (A.silentB h q3 q4 q5).mono ?_
        rintro _ u12 ⟨rfl, h', b'⟩
        replace b := b.trans (b'.b.mono hB1)
        rw [L3] at h'
        replace h := h'
        clear h' b' 
        go_wp2
        go_roundw
        case rel => exact ⟨k + 1, by omega, by go_num, h, b⟩
        case measure => simp [intOf]; omega
      · obtain rfl : k = 19 := by omega
        have r1 : decide (((19 : Nat) : Int) < 19) = false := decide_eq_false (by omega)
        go_wp2_with fail
        refine (A.sendB h).mono ?_
        rintro _ u2 ⟨x2, rfl, hx, h', b'⟩
        replace b := b.trans (b'.b.mono hB1)
        rw [n0] at hx
        clear h' b' h
        have HD := fun W (hx : SeesL W W.heap.size x2 (⟨3, ⟨0, 0, 1⟩, []⟩ : Fr.F).bytes) => Lib.hid (decode_ref x2 _ ⟨0, 0, 0⟩ W hx n4)
        unfold Dec at HD
        rw [n2, n3] at HD
        go_wp2_with fail
        refine (HD _ hx).out.mono ?_
        rintro _ w3 ⟨v3, rfl, ho3, b3⟩
        replace b := b.trans (b3.mono b.size)
        have hs3 := ho3.sees
        clear b3 ho3 hx HD n2 n3 n4
        have hs3 : SeesL _ _ v3 [] := hs3
        obtain ⟨A3, c3, rfl, -⟩ := hs3.at_
        have RX := run_textL (hs3.alloc (.cells #[.int .i64 3, .int .i64 0, .int .i64 0, .int .i64 1, .slice A3 ([] : List Int).length c3] 62))
        replace b := b.alloc b.size (.cells #[.int .i64 3, .int .i64 0, .int .i64 0, .int .i64 1, .slice A3 ([] : List Int).length c3] 62)
        clear hs3
        simp only [List.length_nil] at RX b
        unfold frV
        go_wp2_with fail
        refine (known_nd A _).mono ?_
        rintro _ wk ⟨rfl, bk⟩
        replace bk := b.trans (bk.mono b.size)
        go_wp2
        go_ret
        exact ⟨rfl, bk⟩
/-- Of the node that is there. -/
theorem walk_nodeData (A0 : Option Addr) (m c : Nat) (z : Nat → Int) (A1 : Option Addr) (m1 c1 : Nat) (z1 : Nat → Int) (w : World) (s : InBytesN w A0 m c z) (s1 : InBytesN w A1 m1 c1 z1) :
    Calls Tryz.prog 9 #[.slice A0 m c, .slice A1 m1 c1] w fun e w' => e = .returned (.bool true) ∧ Below w.heap.size w w' := by
  obtain ⟨hv, hl⟩ := s.list
  have e := lst_length z m
  generalize lst z m = l at *
  subst e
  obtain ⟨hv1, hl1⟩ := s1.list
  have e1 := lst_length z1 m1
  generalize lst z1 m1 = l1 at *
  subst e1
  exact gcore_nodeData nodeApi nodeMore l l1 A0 A1 c c1 w hv hl hv1 hl1

/-! ### THE ROW's STEP around the walk. -/
theorem own_nodeData : ownKnob Tryz.prog.godebug = none := by kernel_rfl
theorem laidOut_nodeData : laidOutB Tryz.prog = true := by kernel_rfl
set_option maxRecDepth 100000 in
theorem lifted_nodeData (os : Os) (started : os.Started) (H : Type) (enc : TypeId × Value → H) :
    ReturnsInHanded {} Tryz.checked os 9 .any (Rows.nodeDataSpec.pre6 enc Tryz.prog Tryz.f9 Rows.nodeDataRow.domain false) (Rows.nodeDataSpec.post enc Tryz.prog Tryz.f9 false true false false) := by
  refine returnsInHanded_of_change_sized (C := Tryz.checked) own_nodeData started (by kernel_rfl) Tryz.func9
    (ChangeSpec.witness6 (enc := enc) (C := Tryz.checked) false ⟨#[], #[.slice none 0 0, .slice none 0 0], []⟩ 8 (by kernel_rfl) (by kernel_rfl) (by kernel_rfl) (by kernel_rfl)) ?_
  intro W base args ds gs before hval0 hW hcnd hsz0 _
  have hval : ∀ (j : Nat) t v, Tryz.f9.params[j]? = some t → args[j]? = some v → Value.okWide Tryz.prog W .any base t v := hval0
  have hW' := hW
  obtain ⟨p, q, hA0, hV, rfl, hfz, hnd⟩ := hW
  have hA : DataW.TrodAll enc Tryz.prog W 0 (fun _ => true) true Tryz.f9.params.toList args.toList ds p := hA0
  have hsz : (DataW.weightsEach Tryz.prog (Tryz.f9.params.toList ++ Rows.nodeDataSpec.plain.varTypes Tryz.prog) (ds ++ gs)).all (· ≤ reachBytes) = true := hsz0
  rw [Tryz.params9] at hA hval hsz
  obtain ⟨v0, vs0, d0, ds0, p0, q0, hargs, rfl, rfl, h0, r0⟩ := trodAll_cons hA
  obtain ⟨v1, vs1, d1, ds1, p1, q1, rfl, rfl, rfl, h1, r1⟩ := trodAll_cons r0
  obtain ⟨rfl, rfl, rfl⟩ := trodAll_nil r1
  obtain rfl : args = #[v0, v1] := by cases args; simp_all
  obtain ⟨rfl, rfl⟩ := trodVars_none hV
  obtain ⟨A0, n0, c0, rfl⟩ := okWide_slice Tryz.underlying37 (hval 0 37 v0 rfl rfl)
  have k0 := h0
  have lt0 : ∀ x ∈ p0, x.block < W.heap.size := by obtain ⟨m, hm⟩ := k0; exact DataW.trod_lt m _ _ _ hm
  obtain ⟨z0, s0⟩ := sees_bytesn Tryz.underlying37 Tryz.underlying5 (by kernel_rfl) h0 (by kernel_rfl) (fun _ _ hd => sized_slice hsz (j := 0) (t := 37) (e := 5) rfl (congrArg some hd) Tryz.underlying37)
  obtain ⟨A1, n1, c1, rfl⟩ := okWide_slice Tryz.underlying37 (hval 1 37 v1 rfl rfl)
  have k1 := h1
  have lt1 : ∀ x ∈ p1, x.block < W.heap.size := by obtain ⟨m, hm⟩ := k1; exact DataW.trod_lt m _ _ _ hm
  obtain ⟨z1, s1⟩ := sees_bytesn Tryz.underlying37 Tryz.underlying5 (by kernel_rfl) h1 (by kernel_rfl) (fun _ _ hd => sized_slice hsz (j := 1) (t := 37) (e := 5) rfl (congrArg some hd) Tryz.underlying37)
  clear hA0 hval0
  refine (walk_nodeData A0 n0 c0 z0 A1 n1 c1 z1 W s0 s1).mono fun e W' ⟨he, bel⟩ => ?_
  subst he
  exact ⟨_, rfl, _, _, _, [], _, [], hW', trodAll_mk1 (shut_bool Tryz.underlying4 _), (trodAll_cons_mk (Below.trod laidOut_nodeData (by kernel_rfl) (of_decide_eq_true (by kernel_rfl)) k0 bel lt0) (trodAll_cons_mk (Below.trod laidOut_nodeData (by kernel_rfl) (of_decide_eq_true (by kernel_rfl)) k1 bel lt1) trodAll_mk0)), rfl, bel.frame _, fun h => by cases h⟩

theorem over_nodeData : Rows.nodeDataRow.holds Tryz.pinned (OpenSpec.ofChange Rows.nodeDataSpec) :=
  OpenClaim.holds_of_wide 9 Tryz.f9 rfl rfl rfl rfl rfl rfl rfl ⟨rfl, rfl, rfl, rfl, rfl⟩ rfl rfl rfl rfl rfl (by kernel_rfl) Tryz.func9 (by kernel_rfl)
    (of_decide_eq_true (by kernel_rfl)) (by unfold Func.isWrapper; first | (rw [if_pos (by decide +kernel)]; kernel_rfl) | (rw [if_neg (by decide +kernel)]; exact ⟨rfl, rfl⟩))
    (fun os started H enc _ => lifted_nodeData os started H enc)

theorem proved_nodeData : Rows.NodeDataSaid := over_nodeData
end Go.Proofs.YtfakibajipmkjaaGreat
