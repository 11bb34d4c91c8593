/- NodeHears holds: of two channels the first that is right counts. For all numbers and bytes. -/
import Derived.Test.YtfakibajipmkjaaGreatNB36
namespace Go.Proofs.YtfakibajipmkjaaGreat
open Go.ChangeShapes Go.WideShapes Go.ChangeAt Go.RowKit

def ns0 : NM := pv.sendS
def ns1 : NM := ns0.take ⟨0, 0, [], [], 0⟩
def ns2 : NM := ns1.sendS
theorem ns_a : pv.sendK ≠ 0 ∧ ns0.low ∧ ns1.sendK = 0 ∧ ns2.low ∧ (ns2.st ≠ 0 ∧ ns2.st ≠ 5 ∧ ns2.st ≠ 1) ∧ ns2.sl ≠ ns2.i ∧ ns2.sl = 2 ∧ ns2.rd = 0 ∧ ins ns2.ty.m 2 = 7 ∧ nxS ns2.t.ns.length ns2.sl ≠ 0 := by decide +kernel
theorem ns_b : (ns2.ty.right ns2.sl).m = 7 ∧ ((ns2.so.put ns2.sl []).member ns2.sl (isB (ns2.ty.right ns2.sl).m ns2.sl)).gg 2 = true ∧ (ns2.ty.wrong ns2.sl).m = 3 ∧ (ns2.so.member ns2.sl (isB (ns2.ty.wrong ns2.sl).m ns2.sl)).gg 2 = false := by decide +kernel
theorem ns_own : ns2.own = ⟨0, 2, 7⟩ := by
  obtain ⟨-, -, -, -, -, -, e1, e2, e4, -⟩ := ns_a
  unfold NM.own
  rw [e1, e2, e4]
  rfl
def nhG (l : List Int) : Fr.F := ⟨1, ⟨0, 2, 7⟩, l⟩
def nhB (l : List Int) : Fr.F := ⟨3, ⟨0, 2, 7⟩, l⟩
theorem nh_is (l : List Int) (h : l.length ≤ 8) : (nhG l).is = true ∧ (nhB l).is = true := by
  constructor <;> rw [Fr.F.is_iff]
  · exact ⟨⟨by show (1 : Int) ≤ 1; omega, by show (1 : Int) ≤ 3; omega⟩, by show (⟨0, 2, 7⟩ : Fr.St).may = true; decide, h⟩
  · exact ⟨⟨by show (1 : Int) ≤ 3; omega, by show (3 : Int) ≤ 3; omega⟩, by show (⟨0, 2, 7⟩ : Fr.St).may = true; decide, h⟩
theorem nh_good (l : List Int) (h : l.length ≤ 8) : ns2.isRight (nhG l).bytes ∧ (Fr.res (nhG l).bytes ns2.own).d = l := by
  obtain ⟨b1, b2, b3⟩ := Fr.back (nh_is l h).1 ns2.own (by rw [ns_own]; decide)
  have b3 : Fr.sumB (nhG l).bytes ns2.own = true := b3.2 (fun _ => by rw [ns_own]; rfl)
  have e : Fr.res (nhG l).bytes ns2.own = ⟨1, ns2.own, l⟩ := by
    unfold Fr.res
    rw [b1, b3, b2]
    rfl
  refine ⟨⟨?_, ?_, ?_⟩, ?_⟩
  · unfold Fr.err
    rw [b1, b3]
    rfl
  · rw [e]; show (1 : Int) ≠ 3; omega
  · rw [e]
  · rw [e]
theorem nh_bad (l : List Int) (h : l.length ≤ 8) : ¬ ns2.isRight (nhB l).bytes := by
  obtain ⟨b1, b2, b3⟩ := Fr.back (nh_is l h).2 ns2.own (by rw [ns_own]; decide)
  have b3 : Fr.sumB (nhB l).bytes ns2.own = true := b3.2 (fun h => absurd h (by show ¬ (3 : Int) = 1; omega))
  have e : Fr.res (nhB l).bytes ns2.own = ⟨3, ⟨0, 2, 7⟩, l⟩ := by
    unfold Fr.res
    rw [b1, b3, b2]
    rfl
  rintro ⟨-, h2, -⟩
  rw [e] at h2
  simp at h2
theorem nh_c : ns1.rd = 0 ∧ ns1.sl = 2 ∧ ns1.ty.m = 3 ∧ (ns2.ty.miss ns2.sl).m = 3 ∧ (ns2.so.member ns2.sl (isB (ns2.ty.miss ns2.sl).m ns2.sl)).gg 2 = false ∧ (nxS ns2.t.ns.length ns2.sl).toNat = 3 ∧ ns2.so.ga 2 = -1 := by decide +kernel
set_option maxRecDepth 100000 in
/-- What is told behind it. -/
theorem nh_right (h : Hd) (L : List Int) (l : List Int) (hl : l.length ≤ 8) (hr : ns2.rightL h = some L) (hL : L = (nhG l).bytes) (fin : NM) (hf : fin = ns2.take h) : fin.ty.m = 7 ∧ fin.sl = 3 ∧ fin.so.gg 2 = true ∧ fin.so.ga 2 = 0 ∧ fin.so.gd 2 = l := by
  obtain ⟨-, -, -, -, a5, a6, a7, -, -, a11⟩ := ns_a
  obtain ⟨b1, -, -, -⟩ := ns_b
  obtain ⟨-, -, -, -, -, c6, -⟩ := nh_c
  rw [NM.take_right ns2 h L a5 a6 hr, NM.goOn_took ns2 _ _ _ a11, hL, (nh_good l hl).2] at hf
  have hN : isN 2 := ⟨by omega, by omega⟩
  subst hf
  refine ⟨b1, c6, ?_, ?_, ?_⟩
  · show ((ns2.so.put ns2.sl l).member ns2.sl (isB (ns2.ty.right ns2.sl).m ns2.sl)).gg 2 = true
    rw [b1, a7]
    simp [MS.gg, MS.member, hN, upd]
    decide
  · show ((ns2.so.put ns2.sl l).member ns2.sl (isB (ns2.ty.right ns2.sl).m ns2.sl)).ga 2 = 0
    rw [a7]
    simp [MS.ga, MS.member, MS.put, hN, upd, hl]
  · show ((ns2.so.put ns2.sl l).member ns2.sl (isB (ns2.ty.right ns2.sl).m ns2.sl)).gd 2 = l
    rw [a7]
    simp [MS.gd, MS.member, MS.put, hN, upd, hl]
set_option maxRecDepth 100000 in
theorem nh_wrong (h : Hd) (hr : ns2.rightL h = none) (fin : NM) (hf : fin = ns2.take h) : fin.ty.m = 3 ∧ fin.sl = 3 ∧ fin.so.gg 2 = false ∧ fin.so.ga 2 = -1 := by
  obtain ⟨-, -, -, -, a5, a6, a7, -, -, a11⟩ := ns_a
  obtain ⟨-, -, b3, b4⟩ := ns_b
  obtain ⟨-, -, -, c4, c5, c6, c7⟩ := nh_c
  have hN : isN 2 := ⟨by omega, by omega⟩
  have hga : ∀ x, (ns2.so.member ns2.sl x).ga 2 = -1 := fun x => by
    rw [← c7, a7]
    simp [MS.ga, MS.member, hN]
  by_cases hn : h.a = 0 ∧ h.b = 0
  · rw [NM.take_miss ns2 h a5 a6 hr hn, NM.goOn_took ns2 _ _ _ a11] at hf
    subst hf
    exact ⟨c4, c6, c5, hga (isB (ns2.ty.miss ns2.sl).m ns2.sl)⟩
  · rw [NM.take_wrong ns2 h a5 a6 hr hn, NM.goOn_took ns2 _ _ _ a11] at hf
    subst hf
    exact ⟨b3, c6, b4, hga (isB (ns2.ty.wrong ns2.sl).m ns2.sl)⟩
set_option maxRecDepth 100000 in
set_option maxHeartbeats 2000000 in
theorem hears_lo_lo {NAt : List Nat → World → Nat → NM → Prop} (A : NodeApi NAt) (M : NodeMore NAt) (x y : Int) (l : List Int) (A0 : Option Addr) (c0 : Nat) (w : World) (hv : SeesL w w.heap.size (.slice A0 l.length c0) l) (hl : bytesL l) (hd : l.length ≤ 8) (hx : 0 ≤ x ∧ x ≤ 1) (hy : 0 ≤ y ∧ y ≤ 1) :
    Calls Tryz.prog 12 #[.int .i64 x, .int .i64 y, .slice A0 l.length c0] w fun e w' => e = .returned (.bool true) ∧ Below w.heap.size w w' := by
  have x1 : decide (x < 0) = false := decide_eq_false (by omega)
  have x2 : decide ((3 : Int) < x) = false := decide_eq_false (by omega)
  have x3 : (x == 3) = false := by rw [beq_eq_false_iff_ne]; omega
  have x4 : (x == 2) = false := by rw [beq_eq_false_iff_ne]; omega
  have x5 : decide (x < 2) = true := decide_eq_true (by omega)
  have x6 : decide (x ≤ 2) = true := decide_eq_true (by omega)
  have x7 : min x 2 = x := by omega
  have x8 : decide ((2 : Int) < x) = false := decide_eq_false (by omega)
  have y1 : decide (y < 0) = false := decide_eq_false (by omega)
  have y2 : decide ((3 : Int) < y) = false := decide_eq_false (by omega)
  have y3 : (y == 3) = false := by rw [beq_eq_false_iff_ne]; omega
  have y4 : (y == 2) = false := by rw [beq_eq_false_iff_ne]; omega
  have y5 : decide (y < 2) = true := decide_eq_true (by omega)
  have y6 : decide (y ≤ 2) = true := decide_eq_true (by omega)
  have y7 : min y 2 = y := by omega
  have y8 : decide ((2 : Int) < y) = false := decide_eq_false (by omega)
  have dl : decide ((8 : Int) < ((l.length : Nat) : Int)) = false := decide_eq_false (by omega)
  obtain ⟨a1, a2, a3, a4, -⟩ := ns_a
  obtain ⟨c1, c2, c3, -⟩ := nh_c
  have q0 := sent_pos a1
  have q1 := sent_nil a3
  obtain ⟨i1, i2⟩ := nh_is l hd
  have g1 : bytesL (nhG l).bytes := Fr.F.bytes_ok i1 hl
  have g2 : bytesL (nhB l).bytes := Fr.F.bytes_ok i2 hl
  obtain ⟨r1, -⟩ := nh_good l hd
  have r2 := nh_bad l hd
  have Fm := field_m
  have Fs : ∀ (r s m : Int) (w : World), (Instr.field 55 (.agg #[.int .i64 r, .int .i64 s, .int .i64 m]) 1).run Tryz.prog w = .ok (.int .i64 s) w := fun _ _ _ _ => by kernel_rfl
  have z0' : bits BinOp.or IntKind.i64 3 4 = 7 := by decide
  have HE1 := fun W (hW : Below w.heap.size w W) => Lib.hid (encode_ref (nhG l) (.slice A0 l.length c0) W ((hv.below hW).more hW.size) hl)
  have HE2 := fun W (hW : Below w.heap.size w W) => Lib.hid (encode_ref (nhB l) (.slice A0 l.length c0) W ((hv.below hW).more hW.size) hl)
  unfold Enc at HE1 HE2
  rw [(encR_ok i1).1, (encR_ok i1).2] at HE1
  rw [(encR_ok i2).1, (encR_ok i2).2] at HE2
  have HV : Hid (SeesL w w.heap.size (.slice A0 l.length c0) l) := Lib.hid hv
  obtain ⟨H, hH⟩ : ∃ H : Hd, H = ⟨x, y, (nhG l).bytes, (nhG l).bytes, 0⟩ := ⟨_, rfl⟩
  obtain ⟨fin, hfin⟩ : ∃ fin, fin = ns2.take H := ⟨_, rfl⟩
  have hR : ns2.rightL H = none := by
    subst hH
    have n1 : ¬ x = 2 := by omega
    have n2 : ¬ y = 2 := by omega
    unfold NM.rightL NM.rows
    simp [n1, n2]
  obtain ⟨f1, f2, f3, f4⟩ := nh_wrong H hR fin hfin
  clear i1 i2 r1 r2 hR hv
  go_enter Tryz.func12, Tryz.ntmps12
  go_wp2_with fail
  refine (passive_nd A _).mono ?_
  rintro _ w1 ⟨g, rfl, h, b⟩
  replace h : Nd NAt w.heap.size [] _ g pv := h
  go_wp2_with fail
  refine (A.sendB h).mono ?_
  rintro _ u1 ⟨x1, rfl, hx', h', b'⟩
  replace b := b.trans b'.b
  replace h : Nd NAt w.heap.size [] _ g ns0 := h'
  clear h' b' 
  obtain ⟨A2, c2', rfl, -⟩ := hx'.at_
  have z0 : (((pv.sent.length : Nat) : Int) == 0) = false := by rw [beq_eq_false_iff_ne]; omega
  clear hx'
  generalize pv.sent.length = len2 at *
  go_wp2_with fail
  refine (A.silentB h a2.1 a2.2.1 a2.2.2).mono ?_
  rintro _ u2 ⟨rfl, h', b'⟩
  replace b := b.trans b'.b
  replace h : Nd NAt w.heap.size [] _ g ns1 := h'
  clear h' b' 
  go_wp2_with fail
  refine (A.viewK h).mono ?_
  rintro _ u3 ⟨rfl, h', b'⟩
  replace b := b.trans (b'.mono b.size)
  replace h := h'
  clear h' b'
  rw [c1, c2, c3]
  unfold csV
  have hk := (Below.refl u3.heap.size u3).alloc (Nat.le_refl _) (.cells #[.int .i64 0, .int .i64 2, .int .i64 7] 55)
  have hSb := Blk.new u3 u3.heap.size rfl #[.int .i64 0, .int .i64 2, .int .i64 7] 55
  replace b := b.trans (hk.mono b.size)
  replace h := A.ndKeep h hk
  have hlt3 : u3.heap.size < (u3.alloc (.cells #[.int .i64 0, .int .i64 2, .int .i64 7] 55)).heap.size := by simp
  clear hk
  have H1 := HE1 _ b
  go_wp2_with fail
  refine H1.out.mono ?_
  rintro _ w4 ⟨v4, rfl, ho4, b4⟩
  have hSb := hSb.below b4 hlt3
  have h4 := A.ndOwn h b4 ho4
  replace b := b.trans (b4.mono b.size)
  replace h := h4
  clear HE1 H1 h4 b4 hlt3
  have hs4 := ho4.sees
  have hj4 : ∀ j, v4.ownBlock = some j → j ∈ v4.ownBlock.toList ++ [] ∨ j < w.heap.size := fun j hj => .inl (by simp [hj])
  have hx4 := ho4.lt
  generalize v4.ownBlock.toList ++ [] = P4 at *
  clear ho4
  obtain ⟨A4, c4, rfl, -⟩ := hs4.at_
  generalize u3.heap.size = gs at *
  have y0 := hSb.cell 0 rfl
  have y1 := hSb.cell 1 rfl
  have y2 := hSb.cell 2 rfl
  have H2 := HE2 _ b
  go_wp2_with fail
  refine H2.out.mono ?_
  rintro _ w5 ⟨v5, rfl, ho5, b5⟩
  have h5 := A.ndOwn h b5 ho5
  replace hs4 := (hs4.below b5).more b5.size
  replace b := b.trans (b5.mono b.size)
  replace h := h5
  clear HE2 H2 h5 y0 y1 y2 hSb
  have hs5 := ho5.sees
  have hj5 : ∀ j, v5.ownBlock = some j → j ∈ v5.ownBlock.toList ++ P4 ∨ j < w.heap.size := fun j hj => .inl (by simp [hj])
  replace hj4 : ∀ j, (Value.slice A4 (nhG l).bytes.length c4).ownBlock = some j → j ∈ v5.ownBlock.toList ++ P4 ∨ j < w.heap.size := fun j h => (hj4 j h).elim (fun h => .inl (List.mem_append_right _ h)) .inr
  generalize v5.ownBlock.toList ++ P4 = P5 at *
  clear ho5 b5
  obtain ⟨A5, c5, rfl, -⟩ := hs5.at_
  have HB := fun (o : Obj) => A.ndBox h o
  have hK5 := Below.refl w5.heap.size w5
  generalize hLG : (nhG l).bytes.length = LG at *
  generalize hLB : (nhB l).bytes.length = LB at *
  replace h := HB (.cells #[.int .i64 x, .int .i64 y, .slice A4 LG c4, .slice A4 LG c4, .int .i64 0] 39)
  have hBx := Blk.new w5 w5.heap.size rfl #[.int .i64 x, .int .i64 y, .slice A4 LG c4, .slice A4 LG c4, .int .i64 0] 39
  have hk := hK5.alloc (Nat.le_refl _) (.cells #[.int .i64 x, .int .i64 y, .slice A4 LG c4, .slice A4 LG c4, .int .i64 0] 39)
  replace hs4 := (hs4.below hk).more hk.size
  replace hs5 := (hs5.below hk).more hk.size
  replace b := b.trans (hk.mono b.size)
  replace hj4 : ∀ j, (Value.slice A4 LG c4).ownBlock = some j → j ∈ w5.heap.size :: P5 ∨ j < w.heap.size := fun j h => (hj4 j h).elim (fun h => .inl (List.mem_cons_of_mem _ h)) .inr
  replace hj5 : ∀ j, (Value.slice A5 LB c5).ownBlock = some j → j ∈ w5.heap.size :: P5 ∨ j < w.heap.size := fun j h => (hj5 j h).elim (fun h => .inl (List.mem_cons_of_mem _ h)) .inr
  clear HB hK5 hk
  go_wp2_with fail
  generalize (w5.alloc (.cells #[.int .i64 x, .int .i64 y, .slice A4 LG c4, .slice A4 LG c4, .int .i64 0] 39)) = w6 at *
  generalize w5.heap.size = gb at *
  refine (A.sendB h).mono ?_
  rintro _ u7 ⟨x7, rfl, hx', h', b'⟩
  replace b := b.trans b'.b
  replace hBx := b'.blk (by simp) hBx
  replace hs4 := b'.sees hs4 hj4
  replace hs5 := b'.sees hs5 hj5
  replace h : Nd NAt w.heap.size (gb :: P5) _ g ns2 := h'
  rw [q1] at hx'
  obtain ⟨A7, c7', rfl, -⟩ := hx'.at_
  clear h' b' hx'
  have y0 := hBx.cell 0 rfl
  have y1 := hBx.cell 1 rfl
  have y2 := hBx.cell 2 rfl
  have y3 := hBx.cell 3 rfl
  have y4 := hBx.cell 4 rfl
  have hT := Lib.hid (A.takeB H h (vx := .slice A4 LG c4) (vy := .slice A4 LG c4) (by rw [hH]; exact (hLG ▸ hs4)) (by rw [hH]; exact g1) (by rw [hH]; exact (hLG ▸ hs4)) (by rw [hH]; exact g1) a4.1 a4.2.1 a4.2.2 (by rw [hH]; show _ ≤ (0 : Int) ∧ (0 : Int) ≤ _; omega))
  rw [← hfin] at hT
  unfold hdV at hT
  have e1 : H.a = x := by rw [hH]
  have e2 : H.b = y := by rw [hH]
  have e3 : H.o = 0 := by rw [hH]
  rw [e1, e2, e3] at hT
  clear e1 e2 e3 hs4 hs5 hj4 hj5 hH hfin hBx
  go_wp2_with fail
  refine hT.out.mono ?_
  rintro _ u8 ⟨rfl, h', b'⟩
  replace b := b.trans b'.b
  replace h := h'
  clear h' b' y0 y1 y2 y3 y4 hT
  go_wp2_with fail
  refine (M.readK A 2 h).mono ?_
  rintro _ u9 ⟨v9, rfl, hs9, -, h', b'⟩
  replace b := b.trans (b'.mono b.size)
  replace h := h'
  rw [f3, f4]
  clear h' b' 
  obtain ⟨A9, c9, rfl, -⟩ := hs9.at_
  generalize (fin.so.gd 2).length = len9 at *
  have hMb := Blk.new u9 u9.heap.size rfl #[.slice A9 len9 c9, .int .i64 (-1), .bool false] 64
  have hk := (Below.refl u9.heap.size u9).alloc (Nat.le_refl _) (.cells #[.slice A9 len9 c9, .int .i64 (-1), .bool false] 64)
  clear hs9
  replace b := b.trans (hk.mono b.size)
  replace h := A.ndKeep h hk
  have hlt9 : u9.heap.size < (u9.alloc (.cells #[.slice A9 len9 c9, .int .i64 (-1), .bool false] 64)).heap.size := by simp
  clear hk
  go_wp2_with fail
  generalize (u9.alloc (.cells #[.slice A9 len9 c9, .int .i64 (-1), .bool false] 64)) = u10 at *
  generalize u9.heap.size = gm at *
  refine (A.viewK h).mono ?_
  rintro _ u11 ⟨rfl, h', b'⟩
  replace hMb := hMb.below b' hlt9
  replace b := b.trans (b'.mono b.size)
  replace h := h'
  rw [f1, f2]
  unfold csV
  clear h' b' hlt9
  go_wp2_with fail
  refine (A.viewK h).mono ?_
  rintro _ u12 ⟨rfl, h', b'⟩
  have hMl := hMb.lt
  replace hMb := hMb.below b' hMl
  replace b := b.trans (b'.mono b.size)
  replace h := h'
  rw [f1, f2]
  unfold csV
  have m0 := hMb.cell 0 rfl
  have m1 := hMb.cell 1 rfl
  have m2 := hMb.cell 2 rfl
  clear h' b'
  go_wp2_with fail
  refine (A.viewK h).mono ?_
  rintro _ u13 ⟨rfl, h', b'⟩
  replace b := b.trans (b'.mono b.size)
  rw [f1, f2]
  unfold csV
  clear h' b' m0 m1 m2
  go_wp2_with fail
  refine (known_nd A _).mono ?_
  rintro _ wk ⟨rfl, bk⟩
  replace bk := b.trans (bk.mono b.size)
  go_wp2
  go_ret
  exact ⟨rfl, bk⟩
set_option maxRecDepth 100000 in
set_option maxHeartbeats 2000000 in
theorem hears_lo_2 {NAt : List Nat → World → Nat → NM → Prop} (A : NodeApi NAt) (M : NodeMore NAt) (x y : Int) (l : List Int) (A0 : Option Addr) (c0 : Nat) (w : World) (hv : SeesL w w.heap.size (.slice A0 l.length c0) l) (hl : bytesL l) (hd : l.length ≤ 8) (hx : 0 ≤ x ∧ x ≤ 1) (hy : y = 2) :
    Calls Tryz.prog 12 #[.int .i64 x, .int .i64 y, .slice A0 l.length c0] w fun e w' => e = .returned (.bool true) ∧ Below w.heap.size w w' := by
  have x1 : decide (x < 0) = false := decide_eq_false (by omega)
  have x2 : decide ((3 : Int) < x) = false := decide_eq_false (by omega)
  have x3 : (x == 3) = false := by rw [beq_eq_false_iff_ne]; omega
  have x4 : (x == 2) = false := by rw [beq_eq_false_iff_ne]; omega
  have x5 : decide (x < 2) = true := decide_eq_true (by omega)
  have x6 : decide (x ≤ 2) = true := decide_eq_true (by omega)
  have x7 : min x 2 = x := by omega
  have x8 : decide ((2 : Int) < x) = false := decide_eq_false (by omega)
  subst hy
  have dl : decide ((8 : Int) < ((l.length : Nat) : Int)) = false := decide_eq_false (by omega)
  obtain ⟨a1, a2, a3, a4, -⟩ := ns_a
  obtain ⟨c1, c2, c3, -⟩ := nh_c
  have q0 := sent_pos a1
  have q1 := sent_nil a3
  obtain ⟨i1, i2⟩ := nh_is l hd
  have g1 : bytesL (nhG l).bytes := Fr.F.bytes_ok i1 hl
  have g2 : bytesL (nhB l).bytes := Fr.F.bytes_ok i2 hl
  obtain ⟨r1, -⟩ := nh_good l hd
  have r2 := nh_bad l hd
  have Fm := field_m
  have Fs : ∀ (r s m : Int) (w : World), (Instr.field 55 (.agg #[.int .i64 r, .int .i64 s, .int .i64 m]) 1).run Tryz.prog w = .ok (.int .i64 s) w := fun _ _ _ _ => by kernel_rfl
  have z0' : bits BinOp.or IntKind.i64 3 4 = 7 := by decide
  have HE1 := fun W (hW : Below w.heap.size w W) => Lib.hid (encode_ref (nhG l) (.slice A0 l.length c0) W ((hv.below hW).more hW.size) hl)
  have HE2 := fun W (hW : Below w.heap.size w W) => Lib.hid (encode_ref (nhB l) (.slice A0 l.length c0) W ((hv.below hW).more hW.size) hl)
  unfold Enc at HE1 HE2
  rw [(encR_ok i1).1, (encR_ok i1).2] at HE1
  rw [(encR_ok i2).1, (encR_ok i2).2] at HE2
  have HV : Hid (SeesL w w.heap.size (.slice A0 l.length c0) l) := Lib.hid hv
  obtain ⟨H, hH⟩ : ∃ H : Hd, H = ⟨x, 2, (nhG l).bytes, (nhG l).bytes, 0⟩ := ⟨_, rfl⟩
  obtain ⟨fin, hfin⟩ : ∃ fin, fin = ns2.take H := ⟨_, rfl⟩
  have hR : ns2.rightL H = some (nhG l).bytes := by
    subst hH
    have n1 : ¬ x = 2 := by omega
    unfold NM.rightL NM.rows
    simp [r1, n1]
  obtain ⟨f1, f2, f3, f4, f5⟩ := nh_right H _ l hd hR rfl fin hfin
  clear i1 i2 r1 r2 hR hv
  go_enter Tryz.func12, Tryz.ntmps12
  go_wp2_with fail
  refine (passive_nd A _).mono ?_
  rintro _ w1 ⟨g, rfl, h, b⟩
  replace h : Nd NAt w.heap.size [] _ g pv := h
  go_wp2_with fail
  refine (A.sendB h).mono ?_
  rintro _ u1 ⟨x1, rfl, hx', h', b'⟩
  replace b := b.trans b'.b
  replace h : Nd NAt w.heap.size [] _ g ns0 := h'
  clear h' b' 
  obtain ⟨A2, c2', rfl, -⟩ := hx'.at_
  have z0 : (((pv.sent.length : Nat) : Int) == 0) = false := by rw [beq_eq_false_iff_ne]; omega
  clear hx'
  generalize pv.sent.length = len2 at *
  go_wp2_with fail
  refine (A.silentB h a2.1 a2.2.1 a2.2.2).mono ?_
  rintro _ u2 ⟨rfl, h', b'⟩
  replace b := b.trans b'.b
  replace h : Nd NAt w.heap.size [] _ g ns1 := h'
  clear h' b' 
  go_wp2_with fail
  refine (A.viewK h).mono ?_
  rintro _ u3 ⟨rfl, h', b'⟩
  replace b := b.trans (b'.mono b.size)
  replace h := h'
  clear h' b'
  rw [c1, c2, c3]
  unfold csV
  have hk := (Below.refl u3.heap.size u3).alloc (Nat.le_refl _) (.cells #[.int .i64 0, .int .i64 2, .int .i64 7] 55)
  have hSb := Blk.new u3 u3.heap.size rfl #[.int .i64 0, .int .i64 2, .int .i64 7] 55
  replace b := b.trans (hk.mono b.size)
  replace h := A.ndKeep h hk
  have hlt3 : u3.heap.size < (u3.alloc (.cells #[.int .i64 0, .int .i64 2, .int .i64 7] 55)).heap.size := by simp
  clear hk
  have H1 := HE1 _ b
  go_wp2_with fail
  refine H1.out.mono ?_
  rintro _ w4 ⟨v4, rfl, ho4, b4⟩
  have hSb := hSb.below b4 hlt3
  have h4 := A.ndOwn h b4 ho4
  replace b := b.trans (b4.mono b.size)
  replace h := h4
  clear HE1 H1 h4 b4 hlt3
  have hs4 := ho4.sees
  have hj4 : ∀ j, v4.ownBlock = some j → j ∈ v4.ownBlock.toList ++ [] ∨ j < w.heap.size := fun j hj => .inl (by simp [hj])
  have hx4 := ho4.lt
  generalize v4.ownBlock.toList ++ [] = P4 at *
  clear ho4
  obtain ⟨A4, c4, rfl, -⟩ := hs4.at_
  generalize u3.heap.size = gs at *
  have y0 := hSb.cell 0 rfl
  have y1 := hSb.cell 1 rfl
  have y2 := hSb.cell 2 rfl
  have H2 := HE2 _ b
  go_wp2_with fail
  refine H2.out.mono ?_
  rintro _ w5 ⟨v5, rfl, ho5, b5⟩
  have h5 := A.ndOwn h b5 ho5
  replace hs4 := (hs4.below b5).more b5.size
  replace b := b.trans (b5.mono b.size)
  replace h := h5
  clear HE2 H2 h5 y0 y1 y2 hSb
  have hs5 := ho5.sees
  have hj5 : ∀ j, v5.ownBlock = some j → j ∈ v5.ownBlock.toList ++ P4 ∨ j < w.heap.size := fun j hj => .inl (by simp [hj])
  replace hj4 : ∀ j, (Value.slice A4 (nhG l).bytes.length c4).ownBlock = some j → j ∈ v5.ownBlock.toList ++ P4 ∨ j < w.heap.size := fun j h => (hj4 j h).elim (fun h => .inl (List.mem_append_right _ h)) .inr
  generalize v5.ownBlock.toList ++ P4 = P5 at *
  clear ho5 b5
  obtain ⟨A5, c5, rfl, -⟩ := hs5.at_
  have HB := fun (o : Obj) => A.ndBox h o
  have hK5 := Below.refl w5.heap.size w5
  generalize hLG : (nhG l).bytes.length = LG at *
  generalize hLB : (nhB l).bytes.length = LB at *
  replace h := HB (.cells #[.int .i64 x, .int .i64 2, .slice A4 LG c4, .slice A4 LG c4, .int .i64 0] 39)
  have hBx := Blk.new w5 w5.heap.size rfl #[.int .i64 x, .int .i64 2, .slice A4 LG c4, .slice A4 LG c4, .int .i64 0] 39
  have hk := hK5.alloc (Nat.le_refl _) (.cells #[.int .i64 x, .int .i64 2, .slice A4 LG c4, .slice A4 LG c4, .int .i64 0] 39)
  replace hs4 := (hs4.below hk).more hk.size
  replace hs5 := (hs5.below hk).more hk.size
  replace b := b.trans (hk.mono b.size)
  replace hj4 : ∀ j, (Value.slice A4 LG c4).ownBlock = some j → j ∈ w5.heap.size :: P5 ∨ j < w.heap.size := fun j h => (hj4 j h).elim (fun h => .inl (List.mem_cons_of_mem _ h)) .inr
  replace hj5 : ∀ j, (Value.slice A5 LB c5).ownBlock = some j → j ∈ w5.heap.size :: P5 ∨ j < w.heap.size := fun j h => (hj5 j h).elim (fun h => .inl (List.mem_cons_of_mem _ h)) .inr
  clear HB hK5 hk
  go_wp2_with fail
  generalize (w5.alloc (.cells #[.int .i64 x, .int .i64 2, .slice A4 LG c4, .slice A4 LG c4, .int .i64 0] 39)) = w6 at *
  generalize w5.heap.size = gb at *
  refine (A.sendB h).mono ?_
  rintro _ u7 ⟨x7, rfl, hx', h', b'⟩
  replace b := b.trans b'.b
  replace hBx := b'.blk (by simp) hBx
  replace hs4 := b'.sees hs4 hj4
  replace hs5 := b'.sees hs5 hj5
  replace h : Nd NAt w.heap.size (gb :: P5) _ g ns2 := h'
  rw [q1] at hx'
  obtain ⟨A7, c7', rfl, -⟩ := hx'.at_
  clear h' b' hx'
  have y0 := hBx.cell 0 rfl
  have y1 := hBx.cell 1 rfl
  have y2 := hBx.cell 2 rfl
  have y3 := hBx.cell 3 rfl
  have y4 := hBx.cell 4 rfl
  have hT := Lib.hid (A.takeB H h (vx := .slice A4 LG c4) (vy := .slice A4 LG c4) (by rw [hH]; exact (hLG ▸ hs4)) (by rw [hH]; exact g1) (by rw [hH]; exact (hLG ▸ hs4)) (by rw [hH]; exact g1) a4.1 a4.2.1 a4.2.2 (by rw [hH]; show _ ≤ (0 : Int) ∧ (0 : Int) ≤ _; omega))
  rw [← hfin] at hT
  unfold hdV at hT
  have e1 : H.a = x := by rw [hH]
  have e2 : H.b = 2 := by rw [hH]
  have e3 : H.o = 0 := by rw [hH]
  rw [e1, e2, e3] at hT
  clear e1 e2 e3 hs4 hs5 hj4 hj5 hH hfin hBx
  go_wp2_with fail
  refine hT.out.mono ?_
  rintro _ u8 ⟨rfl, h', b'⟩
  replace b := b.trans b'.b
  replace h := h'
  clear h' b' y0 y1 y2 y3 y4 hT
  go_wp2_with fail
  refine (M.readK A 2 h).mono ?_
  rintro _ u9 ⟨v9, rfl, hs9, -, h', b'⟩
  replace b := b.trans (b'.mono b.size)
  replace h := h'
  rw [f3, f4]
  clear h' b' 
  rw [f5] at hs9
  obtain ⟨A9, c9, rfl, -⟩ := hs9.at_
  have hMb := Blk.new u9 u9.heap.size rfl #[.slice A9 l.length c9, .int .i64 0, .bool true] 64
  have hk := (Below.refl u9.heap.size u9).alloc (Nat.le_refl _) (.cells #[.slice A9 l.length c9, .int .i64 0, .bool true] 64)
  replace hs9 := (hs9.below hk).more hk.size
  replace b := b.trans (hk.mono b.size)
  replace h := A.ndKeep h hk
  have hlt9 : u9.heap.size < (u9.alloc (.cells #[.slice A9 l.length c9, .int .i64 0, .bool true] 64)).heap.size := by simp
  clear hk
  go_wp2_with fail
  generalize (u9.alloc (.cells #[.slice A9 l.length c9, .int .i64 0, .bool true] 64)) = u10 at *
  generalize u9.heap.size = gm at *
  refine (A.viewK h).mono ?_
  rintro _ u11 ⟨rfl, h', b'⟩
  replace hMb := hMb.below b' hlt9
  replace hs9 := (hs9.below b').more b'.size
  replace b := b.trans (b'.mono b.size)
  replace h := h'
  rw [f1, f2]
  unfold csV
  clear h' b' hlt9
  go_wp2_with fail
  refine (A.viewK h).mono ?_
  rintro _ u12 ⟨rfl, h', b'⟩
  have hMl := hMb.lt
  replace hMb := hMb.below b' hMl
  replace hs9 := (hs9.below b').more b'.size
  replace b := b.trans (b'.mono b.size)
  replace h := h'
  rw [f1, f2]
  unfold csV
  have R1 := run_textL hs9
  have R2 := run_textL (HV.out.below b)
  have m0 := hMb.cell 0 rfl
  have m1 := hMb.cell 1 rfl
  have m2 := hMb.cell 2 rfl
  clear h' b'
  go_wp2_with fail
  refine (A.viewK h).mono ?_
  rintro _ u13 ⟨rfl, h', b'⟩
  replace b := b.trans (b'.mono b.size)
  rw [f1, f2]
  unfold csV
  clear h' b' m0 m1 m2
  go_wp2_with fail
  refine (known_nd A _).mono ?_
  rintro _ wk ⟨rfl, bk⟩
  replace bk := b.trans (bk.mono b.size)
  go_wp2
  go_ret
  exact ⟨rfl, bk⟩
set_option maxRecDepth 100000 in
set_option maxHeartbeats 2000000 in
theorem hears_lo_3 {NAt : List Nat → World → Nat → NM → Prop} (A : NodeApi NAt) (M : NodeMore NAt) (x y : Int) (l : List Int) (A0 : Option Addr) (c0 : Nat) (w : World) (hv : SeesL w w.heap.size (.slice A0 l.length c0) l) (hl : bytesL l) (hd : l.length ≤ 8) (hx : 0 ≤ x ∧ x ≤ 1) (hy : y = 3) :
    Calls Tryz.prog 12 #[.int .i64 x, .int .i64 y, .slice A0 l.length c0] w fun e w' => e = .returned (.bool true) ∧ Below w.heap.size w w' := by
  have x1 : decide (x < 0) = false := decide_eq_false (by omega)
  have x2 : decide ((3 : Int) < x) = false := decide_eq_false (by omega)
  have x3 : (x == 3) = false := by rw [beq_eq_false_iff_ne]; omega
  have x4 : (x == 2) = false := by rw [beq_eq_false_iff_ne]; omega
  have x5 : decide (x < 2) = true := decide_eq_true (by omega)
  have x6 : decide (x ≤ 2) = true := decide_eq_true (by omega)
  have x7 : min x 2 = x := by omega
  have x8 : decide ((2 : Int) < x) = false := decide_eq_false (by omega)
  subst hy
  have dl : decide ((8 : Int) < ((l.length : Nat) : Int)) = false := decide_eq_false (by omega)
  obtain ⟨a1, a2, a3, a4, -⟩ := ns_a
  obtain ⟨c1, c2, c3, -⟩ := nh_c
  have q0 := sent_pos a1
  have q1 := sent_nil a3
  obtain ⟨i1, i2⟩ := nh_is l hd
  have g1 : bytesL (nhG l).bytes := Fr.F.bytes_ok i1 hl
  have g2 : bytesL (nhB l).bytes := Fr.F.bytes_ok i2 hl
  obtain ⟨r1, -⟩ := nh_good l hd
  have r2 := nh_bad l hd
  have Fm := field_m
  have Fs : ∀ (r s m : Int) (w : World), (Instr.field 55 (.agg #[.int .i64 r, .int .i64 s, .int .i64 m]) 1).run Tryz.prog w = .ok (.int .i64 s) w := fun _ _ _ _ => by kernel_rfl
  have z0' : bits BinOp.or IntKind.i64 3 4 = 7 := by decide
  have HE1 := fun W (hW : Below w.heap.size w W) => Lib.hid (encode_ref (nhG l) (.slice A0 l.length c0) W ((hv.below hW).more hW.size) hl)
  have HE2 := fun W (hW : Below w.heap.size w W) => Lib.hid (encode_ref (nhB l) (.slice A0 l.length c0) W ((hv.below hW).more hW.size) hl)
  unfold Enc at HE1 HE2
  rw [(encR_ok i1).1, (encR_ok i1).2] at HE1
  rw [(encR_ok i2).1, (encR_ok i2).2] at HE2
  have HV : Hid (SeesL w w.heap.size (.slice A0 l.length c0) l) := Lib.hid hv
  obtain ⟨H, hH⟩ : ∃ H : Hd, H = ⟨x, 2, (nhG l).bytes, (nhB l).bytes, 0⟩ := ⟨_, rfl⟩
  obtain ⟨fin, hfin⟩ : ∃ fin, fin = ns2.take H := ⟨_, rfl⟩
  have hR : ns2.rightL H = none := by
    subst hH
    have n1 : ¬ x = 2 := by omega
    unfold NM.rightL NM.rows
    simp [r2, n1]
  obtain ⟨f1, f2, f3, f4⟩ := nh_wrong H hR fin hfin
  clear i1 i2 r1 r2 hR hv
  go_enter Tryz.func12, Tryz.ntmps12
  go_wp2_with fail
  refine (passive_nd A _).mono ?_
  rintro _ w1 ⟨g, rfl, h, b⟩
  replace h : Nd NAt w.heap.size [] _ g pv := h
  go_wp2_with fail
  refine (A.sendB h).mono ?_
  rintro _ u1 ⟨x1, rfl, hx', h', b'⟩
  replace b := b.trans b'.b
  replace h : Nd NAt w.heap.size [] _ g ns0 := h'
  clear h' b' 
  obtain ⟨A2, c2', rfl, -⟩ := hx'.at_
  have z0 : (((pv.sent.length : Nat) : Int) == 0) = false := by rw [beq_eq_false_iff_ne]; omega
  clear hx'
  generalize pv.sent.length = len2 at *
  go_wp2_with fail
  refine (A.silentB h a2.1 a2.2.1 a2.2.2).mono ?_
  rintro _ u2 ⟨rfl, h', b'⟩
  replace b := b.trans b'.b
  replace h : Nd NAt w.heap.size [] _ g ns1 := h'
  clear h' b' 
  go_wp2_with fail
  refine (A.viewK h).mono ?_
  rintro _ u3 ⟨rfl, h', b'⟩
  replace b := b.trans (b'.mono b.size)
  replace h := h'
  clear h' b'
  rw [c1, c2, c3]
  unfold csV
  have hk := (Below.refl u3.heap.size u3).alloc (Nat.le_refl _) (.cells #[.int .i64 0, .int .i64 2, .int .i64 7] 55)
  have hSb := Blk.new u3 u3.heap.size rfl #[.int .i64 0, .int .i64 2, .int .i64 7] 55
  replace b := b.trans (hk.mono b.size)
  replace h := A.ndKeep h hk
  have hlt3 : u3.heap.size < (u3.alloc (.cells #[.int .i64 0, .int .i64 2, .int .i64 7] 55)).heap.size := by simp
  clear hk
  have H1 := HE1 _ b
  go_wp2_with fail
  refine H1.out.mono ?_
  rintro _ w4 ⟨v4, rfl, ho4, b4⟩
  have hSb := hSb.below b4 hlt3
  have h4 := A.ndOwn h b4 ho4
  replace b := b.trans (b4.mono b.size)
  replace h := h4
  clear HE1 H1 h4 b4 hlt3
  have hs4 := ho4.sees
  have hj4 : ∀ j, v4.ownBlock = some j → j ∈ v4.ownBlock.toList ++ [] ∨ j < w.heap.size := fun j hj => .inl (by simp [hj])
  have hx4 := ho4.lt
  generalize v4.ownBlock.toList ++ [] = P4 at *
  clear ho4
  obtain ⟨A4, c4, rfl, -⟩ := hs4.at_
  generalize u3.heap.size = gs at *
  have y0 := hSb.cell 0 rfl
  have y1 := hSb.cell 1 rfl
  have y2 := hSb.cell 2 rfl
  have H2 := HE2 _ b
  go_wp2_with fail
  refine H2.out.mono ?_
  rintro _ w5 ⟨v5, rfl, ho5, b5⟩
  have h5 := A.ndOwn h b5 ho5
  replace hs4 := (hs4.below b5).more b5.size
  replace b := b.trans (b5.mono b.size)
  replace h := h5
  clear HE2 H2 h5 y0 y1 y2 hSb
  have hs5 := ho5.sees
  have hj5 : ∀ j, v5.ownBlock = some j → j ∈ v5.ownBlock.toList ++ P4 ∨ j < w.heap.size := fun j hj => .inl (by simp [hj])
  replace hj4 : ∀ j, (Value.slice A4 (nhG l).bytes.length c4).ownBlock = some j → j ∈ v5.ownBlock.toList ++ P4 ∨ j < w.heap.size := fun j h => (hj4 j h).elim (fun h => .inl (List.mem_append_right _ h)) .inr
  generalize v5.ownBlock.toList ++ P4 = P5 at *
  clear ho5 b5
  obtain ⟨A5, c5, rfl, -⟩ := hs5.at_
  have HB := fun (o : Obj) => A.ndBox h o
  have hK5 := Below.refl w5.heap.size w5
  generalize hLG : (nhG l).bytes.length = LG at *
  generalize hLB : (nhB l).bytes.length = LB at *
  replace h := HB (.cells #[.int .i64 x, .int .i64 2, .slice A4 LG c4, .slice A5 LB c5, .int .i64 0] 39)
  have hBx := Blk.new w5 w5.heap.size rfl #[.int .i64 x, .int .i64 2, .slice A4 LG c4, .slice A5 LB c5, .int .i64 0] 39
  have hk := hK5.alloc (Nat.le_refl _) (.cells #[.int .i64 x, .int .i64 2, .slice A4 LG c4, .slice A5 LB c5, .int .i64 0] 39)
  replace hs4 := (hs4.below hk).more hk.size
  replace hs5 := (hs5.below hk).more hk.size
  replace b := b.trans (hk.mono b.size)
  replace hj4 : ∀ j, (Value.slice A4 LG c4).ownBlock = some j → j ∈ w5.heap.size :: P5 ∨ j < w.heap.size := fun j h => (hj4 j h).elim (fun h => .inl (List.mem_cons_of_mem _ h)) .inr
  replace hj5 : ∀ j, (Value.slice A5 LB c5).ownBlock = some j → j ∈ w5.heap.size :: P5 ∨ j < w.heap.size := fun j h => (hj5 j h).elim (fun h => .inl (List.mem_cons_of_mem _ h)) .inr
  clear HB hK5 hk
  go_wp2_with fail
  generalize (w5.alloc (.cells #[.int .i64 x, .int .i64 2, .slice A4 LG c4, .slice A5 LB c5, .int .i64 0] 39)) = w6 at *
  generalize w5.heap.size = gb at *
  refine (A.sendB h).mono ?_
  rintro _ u7 ⟨x7, rfl, hx', h', b'⟩
  replace b := b.trans b'.b
  replace hBx := b'.blk (by simp) hBx
  replace hs4 := b'.sees hs4 hj4
  replace hs5 := b'.sees hs5 hj5
  replace h : Nd NAt w.heap.size (gb :: P5) _ g ns2 := h'
  rw [q1] at hx'
  obtain ⟨A7, c7', rfl, -⟩ := hx'.at_
  clear h' b' hx'
  have y0 := hBx.cell 0 rfl
  have y1 := hBx.cell 1 rfl
  have y2 := hBx.cell 2 rfl
  have y3 := hBx.cell 3 rfl
  have y4 := hBx.cell 4 rfl
  have hT := Lib.hid (A.takeB H h (vx := .slice A4 LG c4) (vy := .slice A5 LB c5) (by rw [hH]; exact (hLG ▸ hs4)) (by rw [hH]; exact g1) (by rw [hH]; exact (hLB ▸ hs5)) (by rw [hH]; exact g2) a4.1 a4.2.1 a4.2.2 (by rw [hH]; show _ ≤ (0 : Int) ∧ (0 : Int) ≤ _; omega))
  rw [← hfin] at hT
  unfold hdV at hT
  have e1 : H.a = x := by rw [hH]
  have e2 : H.b = 2 := by rw [hH]
  have e3 : H.o = 0 := by rw [hH]
  rw [e1, e2, e3] at hT
  clear e1 e2 e3 hs4 hs5 hj4 hj5 hH hfin hBx
  go_wp2_with fail
  refine hT.out.mono ?_
  rintro _ u8 ⟨rfl, h', b'⟩
  replace b := b.trans b'.b
  replace h := h'
  clear h' b' y0 y1 y2 y3 y4 hT
  go_wp2_with fail
  refine (M.readK A 2 h).mono ?_
  rintro _ u9 ⟨v9, rfl, hs9, -, h', b'⟩
  replace b := b.trans (b'.mono b.size)
  replace h := h'
  rw [f3, f4]
  clear h' b' 
  obtain ⟨A9, c9, rfl, -⟩ := hs9.at_
  generalize (fin.so.gd 2).length = len9 at *
  have hMb := Blk.new u9 u9.heap.size rfl #[.slice A9 len9 c9, .int .i64 (-1), .bool false] 64
  have hk := (Below.refl u9.heap.size u9).alloc (Nat.le_refl _) (.cells #[.slice A9 len9 c9, .int .i64 (-1), .bool false] 64)
  clear hs9
  replace b := b.trans (hk.mono b.size)
  replace h := A.ndKeep h hk
  have hlt9 : u9.heap.size < (u9.alloc (.cells #[.slice A9 len9 c9, .int .i64 (-1), .bool false] 64)).heap.size := by simp
  clear hk
  go_wp2_with fail
  generalize (u9.alloc (.cells #[.slice A9 len9 c9, .int .i64 (-1), .bool false] 64)) = u10 at *
  generalize u9.heap.size = gm at *
  refine (A.viewK h).mono ?_
  rintro _ u11 ⟨rfl, h', b'⟩
  replace hMb := hMb.below b' hlt9
  replace b := b.trans (b'.mono b.size)
  replace h := h'
  rw [f1, f2]
  unfold csV
  clear h' b' hlt9
  go_wp2_with fail
  refine (A.viewK h).mono ?_
  rintro _ u12 ⟨rfl, h', b'⟩
  have hMl := hMb.lt
  replace hMb := hMb.below b' hMl
  replace b := b.trans (b'.mono b.size)
  replace h := h'
  rw [f1, f2]
  unfold csV
  have m0 := hMb.cell 0 rfl
  have m1 := hMb.cell 1 rfl
  have m2 := hMb.cell 2 rfl
  clear h' b'
  go_wp2_with fail
  refine (A.viewK h).mono ?_
  rintro _ u13 ⟨rfl, h', b'⟩
  replace b := b.trans (b'.mono b.size)
  rw [f1, f2]
  unfold csV
  clear h' b' m0 m1 m2
  go_wp2_with fail
  refine (known_nd A _).mono ?_
  rintro _ wk ⟨rfl, bk⟩
  replace bk := b.trans (bk.mono b.size)
  go_wp2
  go_ret
  exact ⟨rfl, bk⟩
set_option maxRecDepth 100000 in
set_option maxHeartbeats 2000000 in
theorem hears_2_lo {NAt : List Nat → World → Nat → NM → Prop} (A : NodeApi NAt) (M : NodeMore NAt) (x y : Int) (l : List Int) (A0 : Option Addr) (c0 : Nat) (w : World) (hv : SeesL w w.heap.size (.slice A0 l.length c0) l) (hl : bytesL l) (hd : l.length ≤ 8) (hx : x = 2) (hy : 0 ≤ y ∧ y ≤ 1) :
    Calls Tryz.prog 12 #[.int .i64 x, .int .i64 y, .slice A0 l.length c0] w fun e w' => e = .returned (.bool true) ∧ Below w.heap.size w w' := by
  subst hx
  have y1 : decide (y < 0) = false := decide_eq_false (by omega)
  have y2 : decide ((3 : Int) < y) = false := decide_eq_false (by omega)
  have y3 : (y == 3) = false := by rw [beq_eq_false_iff_ne]; omega
  have y4 : (y == 2) = false := by rw [beq_eq_false_iff_ne]; omega
  have y5 : decide (y < 2) = true := decide_eq_true (by omega)
  have y6 : decide (y ≤ 2) = true := decide_eq_true (by omega)
  have y7 : min y 2 = y := by omega
  have y8 : decide ((2 : Int) < y) = false := decide_eq_false (by omega)
  have dl : decide ((8 : Int) < ((l.length : Nat) : Int)) = false := decide_eq_false (by omega)
  obtain ⟨a1, a2, a3, a4, -⟩ := ns_a
  obtain ⟨c1, c2, c3, -⟩ := nh_c
  have q0 := sent_pos a1
  have q1 := sent_nil a3
  obtain ⟨i1, i2⟩ := nh_is l hd
  have g1 : bytesL (nhG l).bytes := Fr.F.bytes_ok i1 hl
  have g2 : bytesL (nhB l).bytes := Fr.F.bytes_ok i2 hl
  obtain ⟨r1, -⟩ := nh_good l hd
  have r2 := nh_bad l hd
  have Fm := field_m
  have Fs : ∀ (r s m : Int) (w : World), (Instr.field 55 (.agg #[.int .i64 r, .int .i64 s, .int .i64 m]) 1).run Tryz.prog w = .ok (.int .i64 s) w := fun _ _ _ _ => by kernel_rfl
  have z0' : bits BinOp.or IntKind.i64 3 4 = 7 := by decide
  have HE1 := fun W (hW : Below w.heap.size w W) => Lib.hid (encode_ref (nhG l) (.slice A0 l.length c0) W ((hv.below hW).more hW.size) hl)
  have HE2 := fun W (hW : Below w.heap.size w W) => Lib.hid (encode_ref (nhB l) (.slice A0 l.length c0) W ((hv.below hW).more hW.size) hl)
  unfold Enc at HE1 HE2
  rw [(encR_ok i1).1, (encR_ok i1).2] at HE1
  rw [(encR_ok i2).1, (encR_ok i2).2] at HE2
  have HV : Hid (SeesL w w.heap.size (.slice A0 l.length c0) l) := Lib.hid hv
  obtain ⟨H, hH⟩ : ∃ H : Hd, H = ⟨2, y, (nhG l).bytes, (nhG l).bytes, 0⟩ := ⟨_, rfl⟩
  obtain ⟨fin, hfin⟩ : ∃ fin, fin = ns2.take H := ⟨_, rfl⟩
  have hR : ns2.rightL H = some (nhG l).bytes := by
    subst hH
    have n2 : ¬ y = 2 := by omega
    unfold NM.rightL NM.rows
    simp [r1, n2]
  obtain ⟨f1, f2, f3, f4, f5⟩ := nh_right H _ l hd hR rfl fin hfin
  clear i1 i2 r1 r2 hR hv
  go_enter Tryz.func12, Tryz.ntmps12
  go_wp2_with fail
  refine (passive_nd A _).mono ?_
  rintro _ w1 ⟨g, rfl, h, b⟩
  replace h : Nd NAt w.heap.size [] _ g pv := h
  go_wp2_with fail
  refine (A.sendB h).mono ?_
  rintro _ u1 ⟨x1, rfl, hx', h', b'⟩
  replace b := b.trans b'.b
  replace h : Nd NAt w.heap.size [] _ g ns0 := h'
  clear h' b' 
  obtain ⟨A2, c2', rfl, -⟩ := hx'.at_
  have z0 : (((pv.sent.length : Nat) : Int) == 0) = false := by rw [beq_eq_false_iff_ne]; omega
  clear hx'
  generalize pv.sent.length = len2 at *
  go_wp2_with fail
  refine (A.silentB h a2.1 a2.2.1 a2.2.2).mono ?_
  rintro _ u2 ⟨rfl, h', b'⟩
  replace b := b.trans b'.b
  replace h : Nd NAt w.heap.size [] _ g ns1 := h'
  clear h' b' 
  go_wp2_with fail
  refine (A.viewK h).mono ?_
  rintro _ u3 ⟨rfl, h', b'⟩
  replace b := b.trans (b'.mono b.size)
  replace h := h'
  clear h' b'
  rw [c1, c2, c3]
  unfold csV
  have hk := (Below.refl u3.heap.size u3).alloc (Nat.le_refl _) (.cells #[.int .i64 0, .int .i64 2, .int .i64 7] 55)
  have hSb := Blk.new u3 u3.heap.size rfl #[.int .i64 0, .int .i64 2, .int .i64 7] 55
  replace b := b.trans (hk.mono b.size)
  replace h := A.ndKeep h hk
  have hlt3 : u3.heap.size < (u3.alloc (.cells #[.int .i64 0, .int .i64 2, .int .i64 7] 55)).heap.size := by simp
  clear hk
  have H1 := HE1 _ b
  go_wp2_with fail
  refine H1.out.mono ?_
  rintro _ w4 ⟨v4, rfl, ho4, b4⟩
  have hSb := hSb.below b4 hlt3
  have h4 := A.ndOwn h b4 ho4
  replace b := b.trans (b4.mono b.size)
  replace h := h4
  clear HE1 H1 h4 b4 hlt3
  have hs4 := ho4.sees
  have hj4 : ∀ j, v4.ownBlock = some j → j ∈ v4.ownBlock.toList ++ [] ∨ j < w.heap.size := fun j hj => .inl (by simp [hj])
  have hx4 := ho4.lt
  generalize v4.ownBlock.toList ++ [] = P4 at *
  clear ho4
  obtain ⟨A4, c4, rfl, -⟩ := hs4.at_
  generalize u3.heap.size = gs at *
  have y0 := hSb.cell 0 rfl
  have y1 := hSb.cell 1 rfl
  have y2 := hSb.cell 2 rfl
  have H2 := HE2 _ b
  go_wp2_with fail
  refine H2.out.mono ?_
  rintro _ w5 ⟨v5, rfl, ho5, b5⟩
  have h5 := A.ndOwn h b5 ho5
  replace hs4 := (hs4.below b5).more b5.size
  replace b := b.trans (b5.mono b.size)
  replace h := h5
  clear HE2 H2 h5 y0 y1 y2 hSb
  have hs5 := ho5.sees
  have hj5 : ∀ j, v5.ownBlock = some j → j ∈ v5.ownBlock.toList ++ P4 ∨ j < w.heap.size := fun j hj => .inl (by simp [hj])
  replace hj4 : ∀ j, (Value.slice A4 (nhG l).bytes.length c4).ownBlock = some j → j ∈ v5.ownBlock.toList ++ P4 ∨ j < w.heap.size := fun j h => (hj4 j h).elim (fun h => .inl (List.mem_append_right _ h)) .inr
  generalize v5.ownBlock.toList ++ P4 = P5 at *
  clear ho5 b5
  obtain ⟨A5, c5, rfl, -⟩ := hs5.at_
  have HB := fun (o : Obj) => A.ndBox h o
  have hK5 := Below.refl w5.heap.size w5
  generalize hLG : (nhG l).bytes.length = LG at *
  generalize hLB : (nhB l).bytes.length = LB at *
  replace h := HB (.cells #[.int .i64 2, .int .i64 y, .slice A4 LG c4, .slice A4 LG c4, .int .i64 0] 39)
  have hBx := Blk.new w5 w5.heap.size rfl #[.int .i64 2, .int .i64 y, .slice A4 LG c4, .slice A4 LG c4, .int .i64 0] 39
  have hk := hK5.alloc (Nat.le_refl _) (.cells #[.int .i64 2, .int .i64 y, .slice A4 LG c4, .slice A4 LG c4, .int .i64 0] 39)
  replace hs4 := (hs4.below hk).more hk.size
  replace hs5 := (hs5.below hk).more hk.size
  replace b := b.trans (hk.mono b.size)
  replace hj4 : ∀ j, (Value.slice A4 LG c4).ownBlock = some j → j ∈ w5.heap.size :: P5 ∨ j < w.heap.size := fun j h => (hj4 j h).elim (fun h => .inl (List.mem_cons_of_mem _ h)) .inr
  replace hj5 : ∀ j, (Value.slice A5 LB c5).ownBlock = some j → j ∈ w5.heap.size :: P5 ∨ j < w.heap.size := fun j h => (hj5 j h).elim (fun h => .inl (List.mem_cons_of_mem _ h)) .inr
  clear HB hK5 hk
  go_wp2_with fail
  generalize (w5.alloc (.cells #[.int .i64 2, .int .i64 y, .slice A4 LG c4, .slice A4 LG c4, .int .i64 0] 39)) = w6 at *
  generalize w5.heap.size = gb at *
  refine (A.sendB h).mono ?_
  rintro _ u7 ⟨x7, rfl, hx', h', b'⟩
  replace b := b.trans b'.b
  replace hBx := b'.blk (by simp) hBx
  replace hs4 := b'.sees hs4 hj4
  replace hs5 := b'.sees hs5 hj5
  replace h : Nd NAt w.heap.size (gb :: P5) _ g ns2 := h'
  rw [q1] at hx'
  obtain ⟨A7, c7', rfl, -⟩ := hx'.at_
  clear h' b' hx'
  have y0 := hBx.cell 0 rfl
  have y1 := hBx.cell 1 rfl
  have y2 := hBx.cell 2 rfl
  have y3 := hBx.cell 3 rfl
  have y4 := hBx.cell 4 rfl
  have hT := Lib.hid (A.takeB H h (vx := .slice A4 LG c4) (vy := .slice A4 LG c4) (by rw [hH]; exact (hLG ▸ hs4)) (by rw [hH]; exact g1) (by rw [hH]; exact (hLG ▸ hs4)) (by rw [hH]; exact g1) a4.1 a4.2.1 a4.2.2 (by rw [hH]; show _ ≤ (0 : Int) ∧ (0 : Int) ≤ _; omega))
  rw [← hfin] at hT
  unfold hdV at hT
  have e1 : H.a = 2 := by rw [hH]
  have e2 : H.b = y := by rw [hH]
  have e3 : H.o = 0 := by rw [hH]
  rw [e1, e2, e3] at hT
  clear e1 e2 e3 hs4 hs5 hj4 hj5 hH hfin hBx
  go_wp2_with fail
  refine hT.out.mono ?_
  rintro _ u8 ⟨rfl, h', b'⟩
  replace b := b.trans b'.b
  replace h := h'
  clear h' b' y0 y1 y2 y3 y4 hT
  go_wp2_with fail
  refine (M.readK A 2 h).mono ?_
  rintro _ u9 ⟨v9, rfl, hs9, -, h', b'⟩
  replace b := b.trans (b'.mono b.size)
  replace h := h'
  rw [f3, f4]
  clear h' b' 
  rw [f5] at hs9
  obtain ⟨A9, c9, rfl, -⟩ := hs9.at_
  have hMb := Blk.new u9 u9.heap.size rfl #[.slice A9 l.length c9, .int .i64 0, .bool true] 64
  have hk := (Below.refl u9.heap.size u9).alloc (Nat.le_refl _) (.cells #[.slice A9 l.length c9, .int .i64 0, .bool true] 64)
  replace hs9 := (hs9.below hk).more hk.size
  replace b := b.trans (hk.mono b.size)
  replace h := A.ndKeep h hk
  have hlt9 : u9.heap.size < (u9.alloc (.cells #[.slice A9 l.length c9, .int .i64 0, .bool true] 64)).heap.size := by simp
  clear hk
  go_wp2_with fail
  generalize (u9.alloc (.cells #[.slice A9 l.length c9, .int .i64 0, .bool true] 64)) = u10 at *
  generalize u9.heap.size = gm at *
  refine (A.viewK h).mono ?_
  rintro _ u11 ⟨rfl, h', b'⟩
  replace hMb := hMb.below b' hlt9
  replace hs9 := (hs9.below b').more b'.size
  replace b := b.trans (b'.mono b.size)
  replace h := h'
  rw [f1, f2]
  unfold csV
  clear h' b' hlt9
  go_wp2_with fail
  refine (A.viewK h).mono ?_
  rintro _ u12 ⟨rfl, h', b'⟩
  have hMl := hMb.lt
  replace hMb := hMb.below b' hMl
  replace hs9 := (hs9.below b').more b'.size
  replace b := b.trans (b'.mono b.size)
  replace h := h'
  rw [f1, f2]
  unfold csV
  have R1 := run_textL hs9
  have R2 := run_textL (HV.out.below b)
  have m0 := hMb.cell 0 rfl
  have m1 := hMb.cell 1 rfl
  have m2 := hMb.cell 2 rfl
  clear h' b'
  go_wp2_with fail
  refine (A.viewK h).mono ?_
  rintro _ u13 ⟨rfl, h', b'⟩
  replace b := b.trans (b'.mono b.size)
  rw [f1, f2]
  unfold csV
  clear h' b' m0 m1 m2
  go_wp2_with fail
  refine (known_nd A _).mono ?_
  rintro _ wk ⟨rfl, bk⟩
  replace bk := b.trans (bk.mono b.size)
  go_wp2
  go_ret
  exact ⟨rfl, bk⟩
set_option maxRecDepth 100000 in
set_option maxHeartbeats 2000000 in
theorem hears_2_2 {NAt : List Nat → World → Nat → NM → Prop} (A : NodeApi NAt) (M : NodeMore NAt) (x y : Int) (l : List Int) (A0 : Option Addr) (c0 : Nat) (w : World) (hv : SeesL w w.heap.size (.slice A0 l.length c0) l) (hl : bytesL l) (hd : l.length ≤ 8) (hx : x = 2) (hy : y = 2) :
    Calls Tryz.prog 12 #[.int .i64 x, .int .i64 y, .slice A0 l.length c0] w fun e w' => e = .returned (.bool true) ∧ Below w.heap.size w w' := by
  subst hx
  subst hy
  have dl : decide ((8 : Int) < ((l.length : Nat) : Int)) = false := decide_eq_false (by omega)
  obtain ⟨a1, a2, a3, a4, -⟩ := ns_a
  obtain ⟨c1, c2, c3, -⟩ := nh_c
  have q0 := sent_pos a1
  have q1 := sent_nil a3
  obtain ⟨i1, i2⟩ := nh_is l hd
  have g1 : bytesL (nhG l).bytes := Fr.F.bytes_ok i1 hl
  have g2 : bytesL (nhB l).bytes := Fr.F.bytes_ok i2 hl
  obtain ⟨r1, -⟩ := nh_good l hd
  have r2 := nh_bad l hd
  have Fm := field_m
  have Fs : ∀ (r s m : Int) (w : World), (Instr.field 55 (.agg #[.int .i64 r, .int .i64 s, .int .i64 m]) 1).run Tryz.prog w = .ok (.int .i64 s) w := fun _ _ _ _ => by kernel_rfl
  have z0' : bits BinOp.or IntKind.i64 3 4 = 7 := by decide
  have HE1 := fun W (hW : Below w.heap.size w W) => Lib.hid (encode_ref (nhG l) (.slice A0 l.length c0) W ((hv.below hW).more hW.size) hl)
  have HE2 := fun W (hW : Below w.heap.size w W) => Lib.hid (encode_ref (nhB l) (.slice A0 l.length c0) W ((hv.below hW).more hW.size) hl)
  unfold Enc at HE1 HE2
  rw [(encR_ok i1).1, (encR_ok i1).2] at HE1
  rw [(encR_ok i2).1, (encR_ok i2).2] at HE2
  have HV : Hid (SeesL w w.heap.size (.slice A0 l.length c0) l) := Lib.hid hv
  obtain ⟨H, hH⟩ : ∃ H : Hd, H = ⟨2, 2, (nhG l).bytes, (nhG l).bytes, 0⟩ := ⟨_, rfl⟩
  obtain ⟨fin, hfin⟩ : ∃ fin, fin = ns2.take H := ⟨_, rfl⟩
  have hR : ns2.rightL H = some (nhG l).bytes := by
    subst hH
    unfold NM.rightL NM.rows
    simp [r1]
  obtain ⟨f1, f2, f3, f4, f5⟩ := nh_right H _ l hd hR rfl fin hfin
  clear i1 i2 r1 r2 hR hv
  go_enter Tryz.func12, Tryz.ntmps12
  go_wp2_with fail
  refine (passive_nd A _).mono ?_
  rintro _ w1 ⟨g, rfl, h, b⟩
  replace h : Nd NAt w.heap.size [] _ g pv := h
  go_wp2_with fail
  refine (A.sendB h).mono ?_
  rintro _ u1 ⟨x1, rfl, hx', h', b'⟩
  replace b := b.trans b'.b
  replace h : Nd NAt w.heap.size [] _ g ns0 := h'
  clear h' b' 
  obtain ⟨A2, c2', rfl, -⟩ := hx'.at_
  have z0 : (((pv.sent.length : Nat) : Int) == 0) = false := by rw [beq_eq_false_iff_ne]; omega
  clear hx'
  generalize pv.sent.length = len2 at *
  go_wp2_with fail
  refine (A.silentB h a2.1 a2.2.1 a2.2.2).mono ?_
  rintro _ u2 ⟨rfl, h', b'⟩
  replace b := b.trans b'.b
  replace h : Nd NAt w.heap.size [] _ g ns1 := h'
  clear h' b' 
  go_wp2_with fail
  refine (A.viewK h).mono ?_
  rintro _ u3 ⟨rfl, h', b'⟩
  replace b := b.trans (b'.mono b.size)
  replace h := h'
  clear h' b'
  rw [c1, c2, c3]
  unfold csV
  have hk := (Below.refl u3.heap.size u3).alloc (Nat.le_refl _) (.cells #[.int .i64 0, .int .i64 2, .int .i64 7] 55)
  have hSb := Blk.new u3 u3.heap.size rfl #[.int .i64 0, .int .i64 2, .int .i64 7] 55
  replace b := b.trans (hk.mono b.size)
  replace h := A.ndKeep h hk
  have hlt3 : u3.heap.size < (u3.alloc (.cells #[.int .i64 0, .int .i64 2, .int .i64 7] 55)).heap.size := by simp
  clear hk
  have H1 := HE1 _ b
  go_wp2_with fail
  refine H1.out.mono ?_
  rintro _ w4 ⟨v4, rfl, ho4, b4⟩
  have hSb := hSb.below b4 hlt3
  have h4 := A.ndOwn h b4 ho4
  replace b := b.trans (b4.mono b.size)
  replace h := h4
  clear HE1 H1 h4 b4 hlt3
  have hs4 := ho4.sees
  have hj4 : ∀ j, v4.ownBlock = some j → j ∈ v4.ownBlock.toList ++ [] ∨ j < w.heap.size := fun j hj => .inl (by simp [hj])
  have hx4 := ho4.lt
  generalize v4.ownBlock.toList ++ [] = P4 at *
  clear ho4
  obtain ⟨A4, c4, rfl, -⟩ := hs4.at_
  generalize u3.heap.size = gs at *
  have y0 := hSb.cell 0 rfl
  have y1 := hSb.cell 1 rfl
  have y2 := hSb.cell 2 rfl
  have H2 := HE2 _ b
  go_wp2_with fail
  refine H2.out.mono ?_
  rintro _ w5 ⟨v5, rfl, ho5, b5⟩
  have h5 := A.ndOwn h b5 ho5
  replace hs4 := (hs4.below b5).more b5.size
  replace b := b.trans (b5.mono b.size)
  replace h := h5
  clear HE2 H2 h5 y0 y1 y2 hSb
  have hs5 := ho5.sees
  have hj5 : ∀ j, v5.ownBlock = some j → j ∈ v5.ownBlock.toList ++ P4 ∨ j < w.heap.size := fun j hj => .inl (by simp [hj])
  replace hj4 : ∀ j, (Value.slice A4 (nhG l).bytes.length c4).ownBlock = some j → j ∈ v5.ownBlock.toList ++ P4 ∨ j < w.heap.size := fun j h => (hj4 j h).elim (fun h => .inl (List.mem_append_right _ h)) .inr
  generalize v5.ownBlock.toList ++ P4 = P5 at *
  clear ho5 b5
  obtain ⟨A5, c5, rfl, -⟩ := hs5.at_
  have HB := fun (o : Obj) => A.ndBox h o
  have hK5 := Below.refl w5.heap.size w5
  generalize hLG : (nhG l).bytes.length = LG at *
  generalize hLB : (nhB l).bytes.length = LB at *
  replace h := HB (.cells #[.int .i64 2, .int .i64 2, .slice A4 LG c4, .slice A4 LG c4, .int .i64 0] 39)
  have hBx := Blk.new w5 w5.heap.size rfl #[.int .i64 2, .int .i64 2, .slice A4 LG c4, .slice A4 LG c4, .int .i64 0] 39
  have hk := hK5.alloc (Nat.le_refl _) (.cells #[.int .i64 2, .int .i64 2, .slice A4 LG c4, .slice A4 LG c4, .int .i64 0] 39)
  replace hs4 := (hs4.below hk).more hk.size
  replace hs5 := (hs5.below hk).more hk.size
  replace b := b.trans (hk.mono b.size)
  replace hj4 : ∀ j, (Value.slice A4 LG c4).ownBlock = some j → j ∈ w5.heap.size :: P5 ∨ j < w.heap.size := fun j h => (hj4 j h).elim (fun h => .inl (List.mem_cons_of_mem _ h)) .inr
  replace hj5 : ∀ j, (Value.slice A5 LB c5).ownBlock = some j → j ∈ w5.heap.size :: P5 ∨ j < w.heap.size := fun j h => (hj5 j h).elim (fun h => .inl (List.mem_cons_of_mem _ h)) .inr
  clear HB hK5 hk
  go_wp2_with fail
  generalize (w5.alloc (.cells #[.int .i64 2, .int .i64 2, .slice A4 LG c4, .slice A4 LG c4, .int .i64 0] 39)) = w6 at *
  generalize w5.heap.size = gb at *
  refine (A.sendB h).mono ?_
  rintro _ u7 ⟨x7, rfl, hx', h', b'⟩
  replace b := b.trans b'.b
  replace hBx := b'.blk (by simp) hBx
  replace hs4 := b'.sees hs4 hj4
  replace hs5 := b'.sees hs5 hj5
  replace h : Nd NAt w.heap.size (gb :: P5) _ g ns2 := h'
  rw [q1] at hx'
  obtain ⟨A7, c7', rfl, -⟩ := hx'.at_
  clear h' b' hx'
  have y0 := hBx.cell 0 rfl
  have y1 := hBx.cell 1 rfl
  have y2 := hBx.cell 2 rfl
  have y3 := hBx.cell 3 rfl
  have y4 := hBx.cell 4 rfl
  have hT := Lib.hid (A.takeB H h (vx := .slice A4 LG c4) (vy := .slice A4 LG c4) (by rw [hH]; exact (hLG ▸ hs4)) (by rw [hH]; exact g1) (by rw [hH]; exact (hLG ▸ hs4)) (by rw [hH]; exact g1) a4.1 a4.2.1 a4.2.2 (by rw [hH]; show _ ≤ (0 : Int) ∧ (0 : Int) ≤ _; omega))
  rw [← hfin] at hT
  unfold hdV at hT
  have e1 : H.a = 2 := by rw [hH]
  have e2 : H.b = 2 := by rw [hH]
  have e3 : H.o = 0 := by rw [hH]
  rw [e1, e2, e3] at hT
  clear e1 e2 e3 hs4 hs5 hj4 hj5 hH hfin hBx
  go_wp2_with fail
  refine hT.out.mono ?_
  rintro _ u8 ⟨rfl, h', b'⟩
  replace b := b.trans b'.b
  replace h := h'
  clear h' b' y0 y1 y2 y3 y4 hT
  go_wp2_with fail
  refine (M.readK A 2 h).mono ?_
  rintro _ u9 ⟨v9, rfl, hs9, -, h', b'⟩
  replace b := b.trans (b'.mono b.size)
  replace h := h'
  rw [f3, f4]
  clear h' b' 
  rw [f5] at hs9
  obtain ⟨A9, c9, rfl, -⟩ := hs9.at_
  have hMb := Blk.new u9 u9.heap.size rfl #[.slice A9 l.length c9, .int .i64 0, .bool true] 64
  have hk := (Below.refl u9.heap.size u9).alloc (Nat.le_refl _) (.cells #[.slice A9 l.length c9, .int .i64 0, .bool true] 64)
  replace hs9 := (hs9.below hk).more hk.size
  replace b := b.trans (hk.mono b.size)
  replace h := A.ndKeep h hk
  have hlt9 : u9.heap.size < (u9.alloc (.cells #[.slice A9 l.length c9, .int .i64 0, .bool true] 64)).heap.size := by simp
  clear hk
  go_wp2_with fail
  generalize (u9.alloc (.cells #[.slice A9 l.length c9, .int .i64 0, .bool true] 64)) = u10 at *
  generalize u9.heap.size = gm at *
  refine (A.viewK h).mono ?_
  rintro _ u11 ⟨rfl, h', b'⟩
  replace hMb := hMb.below b' hlt9
  replace hs9 := (hs9.below b').more b'.size
  replace b := b.trans (b'.mono b.size)
  replace h := h'
  rw [f1, f2]
  unfold csV
  clear h' b' hlt9
  go_wp2_with fail
  refine (A.viewK h).mono ?_
  rintro _ u12 ⟨rfl, h', b'⟩
  have hMl := hMb.lt
  replace hMb := hMb.below b' hMl
  replace hs9 := (hs9.below b').more b'.size
  replace b := b.trans (b'.mono b.size)
  replace h := h'
  rw [f1, f2]
  unfold csV
  have R1 := run_textL hs9
  have R2 := run_textL (HV.out.below b)
  have m0 := hMb.cell 0 rfl
  have m1 := hMb.cell 1 rfl
  have m2 := hMb.cell 2 rfl
  clear h' b'
  go_wp2_with fail
  refine (A.viewK h).mono ?_
  rintro _ u13 ⟨rfl, h', b'⟩
  replace b := b.trans (b'.mono b.size)
  rw [f1, f2]
  unfold csV
  clear h' b' m0 m1 m2
  go_wp2_with fail
  refine (known_nd A _).mono ?_
  rintro _ wk ⟨rfl, bk⟩
  replace bk := b.trans (bk.mono b.size)
  go_wp2
  go_ret
  exact ⟨rfl, bk⟩
set_option maxRecDepth 100000 in
set_option maxHeartbeats 2000000 in
theorem hears_2_3 {NAt : List Nat → World → Nat → NM → Prop} (A : NodeApi NAt) (M : NodeMore NAt) (x y : Int) (l : List Int) (A0 : Option Addr) (c0 : Nat) (w : World) (hv : SeesL w w.heap.size (.slice A0 l.length c0) l) (hl : bytesL l) (hd : l.length ≤ 8) (hx : x = 2) (hy : y = 3) :
    Calls Tryz.prog 12 #[.int .i64 x, .int .i64 y, .slice A0 l.length c0] w fun e w' => e = .returned (.bool true) ∧ Below w.heap.size w w' := by
  subst hx
  subst hy
  have dl : decide ((8 : Int) < ((l.length : Nat) : Int)) = false := decide_eq_false (by omega)
  obtain ⟨a1, a2, a3, a4, -⟩ := ns_a
  obtain ⟨c1, c2, c3, -⟩ := nh_c
  have q0 := sent_pos a1
  have q1 := sent_nil a3
  obtain ⟨i1, i2⟩ := nh_is l hd
  have g1 : bytesL (nhG l).bytes := Fr.F.bytes_ok i1 hl
  have g2 : bytesL (nhB l).bytes := Fr.F.bytes_ok i2 hl
  obtain ⟨r1, -⟩ := nh_good l hd
  have r2 := nh_bad l hd
  have Fm := field_m
  have Fs : ∀ (r s m : Int) (w : World), (Instr.field 55 (.agg #[.int .i64 r, .int .i64 s, .int .i64 m]) 1).run Tryz.prog w = .ok (.int .i64 s) w := fun _ _ _ _ => by kernel_rfl
  have z0' : bits BinOp.or IntKind.i64 3 4 = 7 := by decide
  have HE1 := fun W (hW : Below w.heap.size w W) => Lib.hid (encode_ref (nhG l) (.slice A0 l.length c0) W ((hv.below hW).more hW.size) hl)
  have HE2 := fun W (hW : Below w.heap.size w W) => Lib.hid (encode_ref (nhB l) (.slice A0 l.length c0) W ((hv.below hW).more hW.size) hl)
  unfold Enc at HE1 HE2
  rw [(encR_ok i1).1, (encR_ok i1).2] at HE1
  rw [(encR_ok i2).1, (encR_ok i2).2] at HE2
  have HV : Hid (SeesL w w.heap.size (.slice A0 l.length c0) l) := Lib.hid hv
  obtain ⟨H, hH⟩ : ∃ H : Hd, H = ⟨2, 2, (nhG l).bytes, (nhB l).bytes, 0⟩ := ⟨_, rfl⟩
  obtain ⟨fin, hfin⟩ : ∃ fin, fin = ns2.take H := ⟨_, rfl⟩
  have hR : ns2.rightL H = some (nhG l).bytes := by
    subst hH
    unfold NM.rightL NM.rows
    simp [r1]
  obtain ⟨f1, f2, f3, f4, f5⟩ := nh_right H _ l hd hR rfl fin hfin
  clear i1 i2 r1 r2 hR hv
  go_enter Tryz.func12, Tryz.ntmps12
  go_wp2_with fail
  refine (passive_nd A _).mono ?_
  rintro _ w1 ⟨g, rfl, h, b⟩
  replace h : Nd NAt w.heap.size [] _ g pv := h
  go_wp2_with fail
  refine (A.sendB h).mono ?_
  rintro _ u1 ⟨x1, rfl, hx', h', b'⟩
  replace b := b.trans b'.b
  replace h : Nd NAt w.heap.size [] _ g ns0 := h'
  clear h' b' 
  obtain ⟨A2, c2', rfl, -⟩ := hx'.at_
  have z0 : (((pv.sent.length : Nat) : Int) == 0) = false := by rw [beq_eq_false_iff_ne]; omega
  clear hx'
  generalize pv.sent.length = len2 at *
  go_wp2_with fail
  refine (A.silentB h a2.1 a2.2.1 a2.2.2).mono ?_
  rintro _ u2 ⟨rfl, h', b'⟩
  replace b := b.trans b'.b
  replace h : Nd NAt w.heap.size [] _ g ns1 := h'
  clear h' b' 
  go_wp2_with fail
  refine (A.viewK h).mono ?_
  rintro _ u3 ⟨rfl, h', b'⟩
  replace b := b.trans (b'.mono b.size)
  replace h := h'
  clear h' b'
  rw [c1, c2, c3]
  unfold csV
  have hk := (Below.refl u3.heap.size u3).alloc (Nat.le_refl _) (.cells #[.int .i64 0, .int .i64 2, .int .i64 7] 55)
  have hSb := Blk.new u3 u3.heap.size rfl #[.int .i64 0, .int .i64 2, .int .i64 7] 55
  replace b := b.trans (hk.mono b.size)
  replace h := A.ndKeep h hk
  have hlt3 : u3.heap.size < (u3.alloc (.cells #[.int .i64 0, .int .i64 2, .int .i64 7] 55)).heap.size := by simp
  clear hk
  have H1 := HE1 _ b
  go_wp2_with fail
  refine H1.out.mono ?_
  rintro _ w4 ⟨v4, rfl, ho4, b4⟩
  have hSb := hSb.below b4 hlt3
  have h4 := A.ndOwn h b4 ho4
  replace b := b.trans (b4.mono b.size)
  replace h := h4
  clear HE1 H1 h4 b4 hlt3
  have hs4 := ho4.sees
  have hj4 : ∀ j, v4.ownBlock = some j → j ∈ v4.ownBlock.toList ++ [] ∨ j < w.heap.size := fun j hj => .inl (by simp [hj])
  have hx4 := ho4.lt
  generalize v4.ownBlock.toList ++ [] = P4 at *
  clear ho4
  obtain ⟨A4, c4, rfl, -⟩ := hs4.at_
  generalize u3.heap.size = gs at *
  have y0 := hSb.cell 0 rfl
  have y1 := hSb.cell 1 rfl
  have y2 := hSb.cell 2 rfl
  have H2 := HE2 _ b
  go_wp2_with fail
  refine H2.out.mono ?_
  rintro _ w5 ⟨v5, rfl, ho5, b5⟩
  have h5 := A.ndOwn h b5 ho5
  replace hs4 := (hs4.below b5).more b5.size
  replace b := b.trans (b5.mono b.size)
  replace h := h5
  clear HE2 H2 h5 y0 y1 y2 hSb
  have hs5 := ho5.sees
  have hj5 : ∀ j, v5.ownBlock = some j → j ∈ v5.ownBlock.toList ++ P4 ∨ j < w.heap.size := fun j hj => .inl (by simp [hj])
  replace hj4 : ∀ j, (Value.slice A4 (nhG l).bytes.length c4).ownBlock = some j → j ∈ v5.ownBlock.toList ++ P4 ∨ j < w.heap.size := fun j h => (hj4 j h).elim (fun h => .inl (List.mem_append_right _ h)) .inr
  generalize v5.ownBlock.toList ++ P4 = P5 at *
  clear ho5 b5
  obtain ⟨A5, c5, rfl, -⟩ := hs5.at_
  have HB := fun (o : Obj) => A.ndBox h o
  have hK5 := Below.refl w5.heap.size w5
  generalize hLG : (nhG l).bytes.length = LG at *
  generalize hLB : (nhB l).bytes.length = LB at *
  replace h := HB (.cells #[.int .i64 2, .int .i64 2, .slice A4 LG c4, .slice A5 LB c5, .int .i64 0] 39)
  have hBx := Blk.new w5 w5.heap.size rfl #[.int .i64 2, .int .i64 2, .slice A4 LG c4, .slice A5 LB c5, .int .i64 0] 39
  have hk := hK5.alloc (Nat.le_refl _) (.cells #[.int .i64 2, .int .i64 2, .slice A4 LG c4, .slice A5 LB c5, .int .i64 0] 39)
  replace hs4 := (hs4.below hk).more hk.size
  replace hs5 := (hs5.below hk).more hk.size
  replace b := b.trans (hk.mono b.size)
  replace hj4 : ∀ j, (Value.slice A4 LG c4).ownBlock = some j → j ∈ w5.heap.size :: P5 ∨ j < w.heap.size := fun j h => (hj4 j h).elim (fun h => .inl (List.mem_cons_of_mem _ h)) .inr
  replace hj5 : ∀ j, (Value.slice A5 LB c5).ownBlock = some j → j ∈ w5.heap.size :: P5 ∨ j < w.heap.size := fun j h => (hj5 j h).elim (fun h => .inl (List.mem_cons_of_mem _ h)) .inr
  clear HB hK5 hk
  go_wp2_with fail
  generalize (w5.alloc (.cells #[.int .i64 2, .int .i64 2, .slice A4 LG c4, .slice A5 LB c5, .int .i64 0] 39)) = w6 at *
  generalize w5.heap.size = gb at *
  refine (A.sendB h).mono ?_
  rintro _ u7 ⟨x7, rfl, hx', h', b'⟩
  replace b := b.trans b'.b
  replace hBx := b'.blk (by simp) hBx
  replace hs4 := b'.sees hs4 hj4
  replace hs5 := b'.sees hs5 hj5
  replace h : Nd NAt w.heap.size (gb :: P5) _ g ns2 := h'
  rw [q1] at hx'
  obtain ⟨A7, c7', rfl, -⟩ := hx'.at_
  clear h' b' hx'
  have y0 := hBx.cell 0 rfl
  have y1 := hBx.cell 1 rfl
  have y2 := hBx.cell 2 rfl
  have y3 := hBx.cell 3 rfl
  have y4 := hBx.cell 4 rfl
  have hT := Lib.hid (A.takeB H h (vx := .slice A4 LG c4) (vy := .slice A5 LB c5) (by rw [hH]; exact (hLG ▸ hs4)) (by rw [hH]; exact g1) (by rw [hH]; exact (hLB ▸ hs5)) (by rw [hH]; exact g2) a4.1 a4.2.1 a4.2.2 (by rw [hH]; show _ ≤ (0 : Int) ∧ (0 : Int) ≤ _; omega))
  rw [← hfin] at hT
  unfold hdV at hT
  have e1 : H.a = 2 := by rw [hH]
  have e2 : H.b = 2 := by rw [hH]
  have e3 : H.o = 0 := by rw [hH]
  rw [e1, e2, e3] at hT
  clear e1 e2 e3 hs4 hs5 hj4 hj5 hH hfin hBx
  go_wp2_with fail
  refine hT.out.mono ?_
  rintro _ u8 ⟨rfl, h', b'⟩
  replace b := b.trans b'.b
  replace h := h'
  clear h' b' y0 y1 y2 y3 y4 hT
  go_wp2_with fail
  refine (M.readK A 2 h).mono ?_
  rintro _ u9 ⟨v9, rfl, hs9, -, h', b'⟩
  replace b := b.trans (b'.mono b.size)
  replace h := h'
  rw [f3, f4]
  clear h' b' 
  rw [f5] at hs9
  obtain ⟨A9, c9, rfl, -⟩ := hs9.at_
  have hMb := Blk.new u9 u9.heap.size rfl #[.slice A9 l.length c9, .int .i64 0, .bool true] 64
  have hk := (Below.refl u9.heap.size u9).alloc (Nat.le_refl _) (.cells #[.slice A9 l.length c9, .int .i64 0, .bool true] 64)
  replace hs9 := (hs9.below hk).more hk.size
  replace b := b.trans (hk.mono b.size)
  replace h := A.ndKeep h hk
  have hlt9 : u9.heap.size < (u9.alloc (.cells #[.slice A9 l.length c9, .int .i64 0, .bool true] 64)).heap.size := by simp
  clear hk
  go_wp2_with fail
  generalize (u9.alloc (.cells #[.slice A9 l.length c9, .int .i64 0, .bool true] 64)) = u10 at *
  generalize u9.heap.size = gm at *
  refine (A.viewK h).mono ?_
  rintro _ u11 ⟨rfl, h', b'⟩
  replace hMb := hMb.below b' hlt9
  replace hs9 := (hs9.below b').more b'.size
  replace b := b.trans (b'.mono b.size)
  replace h := h'
  rw [f1, f2]
  unfold csV
  clear h' b' hlt9
  go_wp2_with fail
  refine (A.viewK h).mono ?_
  rintro _ u12 ⟨rfl, h', b'⟩
  have hMl := hMb.lt
  replace hMb := hMb.below b' hMl
  replace hs9 := (hs9.below b').more b'.size
  replace b := b.trans (b'.mono b.size)
  replace h := h'
  rw [f1, f2]
  unfold csV
  have R1 := run_textL hs9
  have R2 := run_textL (HV.out.below b)
  have m0 := hMb.cell 0 rfl
  have m1 := hMb.cell 1 rfl
  have m2 := hMb.cell 2 rfl
  clear h' b'
  go_wp2_with fail
  refine (A.viewK h).mono ?_
  rintro _ u13 ⟨rfl, h', b'⟩
  replace b := b.trans (b'.mono b.size)
  rw [f1, f2]
  unfold csV
  clear h' b' m0 m1 m2
  go_wp2_with fail
  refine (known_nd A _).mono ?_
  rintro _ wk ⟨rfl, bk⟩
  replace bk := b.trans (bk.mono b.size)
  go_wp2
  go_ret
  exact ⟨rfl, bk⟩
set_option maxRecDepth 100000 in
set_option maxHeartbeats 2000000 in
theorem hears_3_lo {NAt : List Nat → World → Nat → NM → Prop} (A : NodeApi NAt) (M : NodeMore NAt) (x y : Int) (l : List Int) (A0 : Option Addr) (c0 : Nat) (w : World) (hv : SeesL w w.heap.size (.slice A0 l.length c0) l) (hl : bytesL l) (hd : l.length ≤ 8) (hx : x = 3) (hy : 0 ≤ y ∧ y ≤ 1) :
    Calls Tryz.prog 12 #[.int .i64 x, .int .i64 y, .slice A0 l.length c0] w fun e w' => e = .returned (.bool true) ∧ Below w.heap.size w w' := by
  subst hx
  have y1 : decide (y < 0) = false := decide_eq_false (by omega)
  have y2 : decide ((3 : Int) < y) = false := decide_eq_false (by omega)
  have y3 : (y == 3) = false := by rw [beq_eq_false_iff_ne]; omega
  have y4 : (y == 2) = false := by rw [beq_eq_false_iff_ne]; omega
  have y5 : decide (y < 2) = true := decide_eq_true (by omega)
  have y6 : decide (y ≤ 2) = true := decide_eq_true (by omega)
  have y7 : min y 2 = y := by omega
  have y8 : decide ((2 : Int) < y) = false := decide_eq_false (by omega)
  have dl : decide ((8 : Int) < ((l.length : Nat) : Int)) = false := decide_eq_false (by omega)
  obtain ⟨a1, a2, a3, a4, -⟩ := ns_a
  obtain ⟨c1, c2, c3, -⟩ := nh_c
  have q0 := sent_pos a1
  have q1 := sent_nil a3
  obtain ⟨i1, i2⟩ := nh_is l hd
  have g1 : bytesL (nhG l).bytes := Fr.F.bytes_ok i1 hl
  have g2 : bytesL (nhB l).bytes := Fr.F.bytes_ok i2 hl
  obtain ⟨r1, -⟩ := nh_good l hd
  have r2 := nh_bad l hd
  have Fm := field_m
  have Fs : ∀ (r s m : Int) (w : World), (Instr.field 55 (.agg #[.int .i64 r, .int .i64 s, .int .i64 m]) 1).run Tryz.prog w = .ok (.int .i64 s) w := fun _ _ _ _ => by kernel_rfl
  have z0' : bits BinOp.or IntKind.i64 3 4 = 7 := by decide
  have HE1 := fun W (hW : Below w.heap.size w W) => Lib.hid (encode_ref (nhG l) (.slice A0 l.length c0) W ((hv.below hW).more hW.size) hl)
  have HE2 := fun W (hW : Below w.heap.size w W) => Lib.hid (encode_ref (nhB l) (.slice A0 l.length c0) W ((hv.below hW).more hW.size) hl)
  unfold Enc at HE1 HE2
  rw [(encR_ok i1).1, (encR_ok i1).2] at HE1
  rw [(encR_ok i2).1, (encR_ok i2).2] at HE2
  have HV : Hid (SeesL w w.heap.size (.slice A0 l.length c0) l) := Lib.hid hv
  obtain ⟨H, hH⟩ : ∃ H : Hd, H = ⟨2, y, (nhB l).bytes, (nhG l).bytes, 0⟩ := ⟨_, rfl⟩
  obtain ⟨fin, hfin⟩ : ∃ fin, fin = ns2.take H := ⟨_, rfl⟩
  have hR : ns2.rightL H = none := by
    subst hH
    have n2 : ¬ y = 2 := by omega
    unfold NM.rightL NM.rows
    simp [r2, n2]
  obtain ⟨f1, f2, f3, f4⟩ := nh_wrong H hR fin hfin
  clear i1 i2 r1 r2 hR hv
  go_enter Tryz.func12, Tryz.ntmps12
  go_wp2_with fail
  refine (passive_nd A _).mono ?_
  rintro _ w1 ⟨g, rfl, h, b⟩
  replace h : Nd NAt w.heap.size [] _ g pv := h
  go_wp2_with fail
  refine (A.sendB h).mono ?_
  rintro _ u1 ⟨x1, rfl, hx', h', b'⟩
  replace b := b.trans b'.b
  replace h : Nd NAt w.heap.size [] _ g ns0 := h'
  clear h' b' 
  obtain ⟨A2, c2', rfl, -⟩ := hx'.at_
  have z0 : (((pv.sent.length : Nat) : Int) == 0) = false := by rw [beq_eq_false_iff_ne]; omega
  clear hx'
  generalize pv.sent.length = len2 at *
  go_wp2_with fail
  refine (A.silentB h a2.1 a2.2.1 a2.2.2).mono ?_
  rintro _ u2 ⟨rfl, h', b'⟩
  replace b := b.trans b'.b
  replace h : Nd NAt w.heap.size [] _ g ns1 := h'
  clear h' b' 
  go_wp2_with fail
  refine (A.viewK h).mono ?_
  rintro _ u3 ⟨rfl, h', b'⟩
  replace b := b.trans (b'.mono b.size)
  replace h := h'
  clear h' b'
  rw [c1, c2, c3]
  unfold csV
  have hk := (Below.refl u3.heap.size u3).alloc (Nat.le_refl _) (.cells #[.int .i64 0, .int .i64 2, .int .i64 7] 55)
  have hSb := Blk.new u3 u3.heap.size rfl #[.int .i64 0, .int .i64 2, .int .i64 7] 55
  replace b := b.trans (hk.mono b.size)
  replace h := A.ndKeep h hk
  have hlt3 : u3.heap.size < (u3.alloc (.cells #[.int .i64 0, .int .i64 2, .int .i64 7] 55)).heap.size := by simp
  clear hk
  have H1 := HE1 _ b
  go_wp2_with fail
  refine H1.out.mono ?_
  rintro _ w4 ⟨v4, rfl, ho4, b4⟩
  have hSb := hSb.below b4 hlt3
  have h4 := A.ndOwn h b4 ho4
  replace b := b.trans (b4.mono b.size)
  replace h := h4
  clear HE1 H1 h4 b4 hlt3
  have hs4 := ho4.sees
  have hj4 : ∀ j, v4.ownBlock = some j → j ∈ v4.ownBlock.toList ++ [] ∨ j < w.heap.size := fun j hj => .inl (by simp [hj])
  have hx4 := ho4.lt
  generalize v4.ownBlock.toList ++ [] = P4 at *
  clear ho4
  obtain ⟨A4, c4, rfl, -⟩ := hs4.at_
  generalize u3.heap.size = gs at *
  have y0 := hSb.cell 0 rfl
  have y1 := hSb.cell 1 rfl
  have y2 := hSb.cell 2 rfl
  have H2 := HE2 _ b
  go_wp2_with fail
  refine H2.out.mono ?_
  rintro _ w5 ⟨v5, rfl, ho5, b5⟩
  have h5 := A.ndOwn h b5 ho5
  replace hs4 := (hs4.below b5).more b5.size
  replace b := b.trans (b5.mono b.size)
  replace h := h5
  clear HE2 H2 h5 y0 y1 y2 hSb
  have hs5 := ho5.sees
  have hj5 : ∀ j, v5.ownBlock = some j → j ∈ v5.ownBlock.toList ++ P4 ∨ j < w.heap.size := fun j hj => .inl (by simp [hj])
  replace hj4 : ∀ j, (Value.slice A4 (nhG l).bytes.length c4).ownBlock = some j → j ∈ v5.ownBlock.toList ++ P4 ∨ j < w.heap.size := fun j h => (hj4 j h).elim (fun h => .inl (List.mem_append_right _ h)) .inr
  generalize v5.ownBlock.toList ++ P4 = P5 at *
  clear ho5 b5
  obtain ⟨A5, c5, rfl, -⟩ := hs5.at_
  have HB := fun (o : Obj) => A.ndBox h o
  have hK5 := Below.refl w5.heap.size w5
  generalize hLG : (nhG l).bytes.length = LG at *
  generalize hLB : (nhB l).bytes.length = LB at *
  replace h := HB (.cells #[.int .i64 2, .int .i64 y, .slice A5 LB c5, .slice A4 LG c4, .int .i64 0] 39)
  have hBx := Blk.new w5 w5.heap.size rfl #[.int .i64 2, .int .i64 y, .slice A5 LB c5, .slice A4 LG c4, .int .i64 0] 39
  have hk := hK5.alloc (Nat.le_refl _) (.cells #[.int .i64 2, .int .i64 y, .slice A5 LB c5, .slice A4 LG c4, .int .i64 0] 39)
  replace hs4 := (hs4.below hk).more hk.size
  replace hs5 := (hs5.below hk).more hk.size
  replace b := b.trans (hk.mono b.size)
  replace hj4 : ∀ j, (Value.slice A4 LG c4).ownBlock = some j → j ∈ w5.heap.size :: P5 ∨ j < w.heap.size := fun j h => (hj4 j h).elim (fun h => .inl (List.mem_cons_of_mem _ h)) .inr
  replace hj5 : ∀ j, (Value.slice A5 LB c5).ownBlock = some j → j ∈ w5.heap.size :: P5 ∨ j < w.heap.size := fun j h => (hj5 j h).elim (fun h => .inl (List.mem_cons_of_mem _ h)) .inr
  clear HB hK5 hk
  go_wp2_with fail
  generalize (w5.alloc (.cells #[.int .i64 2, .int .i64 y, .slice A5 LB c5, .slice A4 LG c4, .int .i64 0] 39)) = w6 at *
  generalize w5.heap.size = gb at *
  refine (A.sendB h).mono ?_
  rintro _ u7 ⟨x7, rfl, hx', h', b'⟩
  replace b := b.trans b'.b
  replace hBx := b'.blk (by simp) hBx
  replace hs4 := b'.sees hs4 hj4
  replace hs5 := b'.sees hs5 hj5
  replace h : Nd NAt w.heap.size (gb :: P5) _ g ns2 := h'
  rw [q1] at hx'
  obtain ⟨A7, c7', rfl, -⟩ := hx'.at_
  clear h' b' hx'
  have y0 := hBx.cell 0 rfl
  have y1 := hBx.cell 1 rfl
  have y2 := hBx.cell 2 rfl
  have y3 := hBx.cell 3 rfl
  have y4 := hBx.cell 4 rfl
  have hT := Lib.hid (A.takeB H h (vx := .slice A5 LB c5) (vy := .slice A4 LG c4) (by rw [hH]; exact (hLB ▸ hs5)) (by rw [hH]; exact g2) (by rw [hH]; exact (hLG ▸ hs4)) (by rw [hH]; exact g1) a4.1 a4.2.1 a4.2.2 (by rw [hH]; show _ ≤ (0 : Int) ∧ (0 : Int) ≤ _; omega))
  rw [← hfin] at hT
  unfold hdV at hT
  have e1 : H.a = 2 := by rw [hH]
  have e2 : H.b = y := by rw [hH]
  have e3 : H.o = 0 := by rw [hH]
  rw [e1, e2, e3] at hT
  clear e1 e2 e3 hs4 hs5 hj4 hj5 hH hfin hBx
  go_wp2_with fail
  refine hT.out.mono ?_
  rintro _ u8 ⟨rfl, h', b'⟩
  replace b := b.trans b'.b
  replace h := h'
  clear h' b' y0 y1 y2 y3 y4 hT
  go_wp2_with fail
  refine (M.readK A 2 h).mono ?_
  rintro _ u9 ⟨v9, rfl, hs9, -, h', b'⟩
  replace b := b.trans (b'.mono b.size)
  replace h := h'
  rw [f3, f4]
  clear h' b' 
  obtain ⟨A9, c9, rfl, -⟩ := hs9.at_
  generalize (fin.so.gd 2).length = len9 at *
  have hMb := Blk.new u9 u9.heap.size rfl #[.slice A9 len9 c9, .int .i64 (-1), .bool false] 64
  have hk := (Below.refl u9.heap.size u9).alloc (Nat.le_refl _) (.cells #[.slice A9 len9 c9, .int .i64 (-1), .bool false] 64)
  clear hs9
  replace b := b.trans (hk.mono b.size)
  replace h := A.ndKeep h hk
  have hlt9 : u9.heap.size < (u9.alloc (.cells #[.slice A9 len9 c9, .int .i64 (-1), .bool false] 64)).heap.size := by simp
  clear hk
  go_wp2_with fail
  generalize (u9.alloc (.cells #[.slice A9 len9 c9, .int .i64 (-1), .bool false] 64)) = u10 at *
  generalize u9.heap.size = gm at *
  refine (A.viewK h).mono ?_
  rintro _ u11 ⟨rfl, h', b'⟩
  replace hMb := hMb.below b' hlt9
  replace b := b.trans (b'.mono b.size)
  replace h := h'
  rw [f1, f2]
  unfold csV
  clear h' b' hlt9
  go_wp2_with fail
  refine (A.viewK h).mono ?_
  rintro _ u12 ⟨rfl, h', b'⟩
  have hMl := hMb.lt
  replace hMb := hMb.below b' hMl
  replace b := b.trans (b'.mono b.size)
  replace h := h'
  rw [f1, f2]
  unfold csV
  have m0 := hMb.cell 0 rfl
  have m1 := hMb.cell 1 rfl
  have m2 := hMb.cell 2 rfl
  clear h' b'
  go_wp2_with fail
  refine (A.viewK h).mono ?_
  rintro _ u13 ⟨rfl, h', b'⟩
  replace b := b.trans (b'.mono b.size)
  rw [f1, f2]
  unfold csV
  clear h' b' m0 m1 m2
  go_wp2_with fail
  refine (known_nd A _).mono ?_
  rintro _ wk ⟨rfl, bk⟩
  replace bk := b.trans (bk.mono b.size)
  go_wp2
  go_ret
  exact ⟨rfl, bk⟩
set_option maxRecDepth 100000 in
set_option maxHeartbeats 2000000 in
theorem hears_3_2 {NAt : List Nat → World → Nat → NM → Prop} (A : NodeApi NAt) (M : NodeMore NAt) (x y : Int) (l : List Int) (A0 : Option Addr) (c0 : Nat) (w : World) (hv : SeesL w w.heap.size (.slice A0 l.length c0) l) (hl : bytesL l) (hd : l.length ≤ 8) (hx : x = 3) (hy : y = 2) :
    Calls Tryz.prog 12 #[.int .i64 x, .int .i64 y, .slice A0 l.length c0] w fun e w' => e = .returned (.bool true) ∧ Below w.heap.size w w' := by
  subst hx
  subst hy
  have dl : decide ((8 : Int) < ((l.length : Nat) : Int)) = false := decide_eq_false (by omega)
  obtain ⟨a1, a2, a3, a4, -⟩ := ns_a
  obtain ⟨c1, c2, c3, -⟩ := nh_c
  have q0 := sent_pos a1
  have q1 := sent_nil a3
  obtain ⟨i1, i2⟩ := nh_is l hd
  have g1 : bytesL (nhG l).bytes := Fr.F.bytes_ok i1 hl
  have g2 : bytesL (nhB l).bytes := Fr.F.bytes_ok i2 hl
  obtain ⟨r1, -⟩ := nh_good l hd
  have r2 := nh_bad l hd
  have Fm := field_m
  have Fs : ∀ (r s m : Int) (w : World), (Instr.field 55 (.agg #[.int .i64 r, .int .i64 s, .int .i64 m]) 1).run Tryz.prog w = .ok (.int .i64 s) w := fun _ _ _ _ => by kernel_rfl
  have z0' : bits BinOp.or IntKind.i64 3 4 = 7 := by decide
  have HE1 := fun W (hW : Below w.heap.size w W) => Lib.hid (encode_ref (nhG l) (.slice A0 l.length c0) W ((hv.below hW).more hW.size) hl)
  have HE2 := fun W (hW : Below w.heap.size w W) => Lib.hid (encode_ref (nhB l) (.slice A0 l.length c0) W ((hv.below hW).more hW.size) hl)
  unfold Enc at HE1 HE2
  rw [(encR_ok i1).1, (encR_ok i1).2] at HE1
  rw [(encR_ok i2).1, (encR_ok i2).2] at HE2
  have HV : Hid (SeesL w w.heap.size (.slice A0 l.length c0) l) := Lib.hid hv
  obtain ⟨H, hH⟩ : ∃ H : Hd, H = ⟨2, 2, (nhB l).bytes, (nhG l).bytes, 0⟩ := ⟨_, rfl⟩
  obtain ⟨fin, hfin⟩ : ∃ fin, fin = ns2.take H := ⟨_, rfl⟩
  have hR : ns2.rightL H = some (nhG l).bytes := by
    subst hH
    unfold NM.rightL NM.rows
    simp [r1, r2]
  obtain ⟨f1, f2, f3, f4, f5⟩ := nh_right H _ l hd hR rfl fin hfin
  clear i1 i2 r1 r2 hR hv
  go_enter Tryz.func12, Tryz.ntmps12
  go_wp2_with fail
  refine (passive_nd A _).mono ?_
  rintro _ w1 ⟨g, rfl, h, b⟩
  replace h : Nd NAt w.heap.size [] _ g pv := h
  go_wp2_with fail
  refine (A.sendB h).mono ?_
  rintro _ u1 ⟨x1, rfl, hx', h', b'⟩
  replace b := b.trans b'.b
  replace h : Nd NAt w.heap.size [] _ g ns0 := h'
  clear h' b' 
  obtain ⟨A2, c2', rfl, -⟩ := hx'.at_
  have z0 : (((pv.sent.length : Nat) : Int) == 0) = false := by rw [beq_eq_false_iff_ne]; omega
  clear hx'
  generalize pv.sent.length = len2 at *
  go_wp2_with fail
  refine (A.silentB h a2.1 a2.2.1 a2.2.2).mono ?_
  rintro _ u2 ⟨rfl, h', b'⟩
  replace b := b.trans b'.b
  replace h : Nd NAt w.heap.size [] _ g ns1 := h'
  clear h' b' 
  go_wp2_with fail
  refine (A.viewK h).mono ?_
  rintro _ u3 ⟨rfl, h', b'⟩
  replace b := b.trans (b'.mono b.size)
  replace h := h'
  clear h' b'
  rw [c1, c2, c3]
  unfold csV
  have hk := (Below.refl u3.heap.size u3).alloc (Nat.le_refl _) (.cells #[.int .i64 0, .int .i64 2, .int .i64 7] 55)
  have hSb := Blk.new u3 u3.heap.size rfl #[.int .i64 0, .int .i64 2, .int .i64 7] 55
  replace b := b.trans (hk.mono b.size)
  replace h := A.ndKeep h hk
  have hlt3 : u3.heap.size < (u3.alloc (.cells #[.int .i64 0, .int .i64 2, .int .i64 7] 55)).heap.size := by simp
  clear hk
  have H1 := HE1 _ b
  go_wp2_with fail
  refine H1.out.mono ?_
  rintro _ w4 ⟨v4, rfl, ho4, b4⟩
  have hSb := hSb.below b4 hlt3
  have h4 := A.ndOwn h b4 ho4
  replace b := b.trans (b4.mono b.size)
  replace h := h4
  clear HE1 H1 h4 b4 hlt3
  have hs4 := ho4.sees
  have hj4 : ∀ j, v4.ownBlock = some j → j ∈ v4.ownBlock.toList ++ [] ∨ j < w.heap.size := fun j hj => .inl (by simp [hj])
  have hx4 := ho4.lt
  generalize v4.ownBlock.toList ++ [] = P4 at *
  clear ho4
  obtain ⟨A4, c4, rfl, -⟩ := hs4.at_
  generalize u3.heap.size = gs at *
  have y0 := hSb.cell 0 rfl
  have y1 := hSb.cell 1 rfl
  have y2 := hSb.cell 2 rfl
  have H2 := HE2 _ b
  go_wp2_with fail
  refine H2.out.mono ?_
  rintro _ w5 ⟨v5, rfl, ho5, b5⟩
  have h5 := A.ndOwn h b5 ho5
  replace hs4 := (hs4.below b5).more b5.size
  replace b := b.trans (b5.mono b.size)
  replace h := h5
  clear HE2 H2 h5 y0 y1 y2 hSb
  have hs5 := ho5.sees
  have hj5 : ∀ j, v5.ownBlock = some j → j ∈ v5.ownBlock.toList ++ P4 ∨ j < w.heap.size := fun j hj => .inl (by simp [hj])
  replace hj4 : ∀ j, (Value.slice A4 (nhG l).bytes.length c4).ownBlock = some j → j ∈ v5.ownBlock.toList ++ P4 ∨ j < w.heap.size := fun j h => (hj4 j h).elim (fun h => .inl (List.mem_append_right _ h)) .inr
  generalize v5.ownBlock.toList ++ P4 = P5 at *
  clear ho5 b5
  obtain ⟨A5, c5, rfl, -⟩ := hs5.at_
  have HB := fun (o : Obj) => A.ndBox h o
  have hK5 := Below.refl w5.heap.size w5
  generalize hLG : (nhG l).bytes.length = LG at *
  generalize hLB : (nhB l).bytes.length = LB at *
  replace h := HB (.cells #[.int .i64 2, .int .i64 2, .slice A5 LB c5, .slice A4 LG c4, .int .i64 0] 39)
  have hBx := Blk.new w5 w5.heap.size rfl #[.int .i64 2, .int .i64 2, .slice A5 LB c5, .slice A4 LG c4, .int .i64 0] 39
  have hk := hK5.alloc (Nat.le_refl _) (.cells #[.int .i64 2, .int .i64 2, .slice A5 LB c5, .slice A4 LG c4, .int .i64 0] 39)
  replace hs4 := (hs4.below hk).more hk.size
  replace hs5 := (hs5.below hk).more hk.size
  replace b := b.trans (hk.mono b.size)
  replace hj4 : ∀ j, (Value.slice A4 LG c4).ownBlock = some j → j ∈ w5.heap.size :: P5 ∨ j < w.heap.size := fun j h => (hj4 j h).elim (fun h => .inl (List.mem_cons_of_mem _ h)) .inr
  replace hj5 : ∀ j, (Value.slice A5 LB c5).ownBlock = some j → j ∈ w5.heap.size :: P5 ∨ j < w.heap.size := fun j h => (hj5 j h).elim (fun h => .inl (List.mem_cons_of_mem _ h)) .inr
  clear HB hK5 hk
  go_wp2_with fail
  generalize (w5.alloc (.cells #[.int .i64 2, .int .i64 2, .slice A5 LB c5, .slice A4 LG c4, .int .i64 0] 39)) = w6 at *
  generalize w5.heap.size = gb at *
  refine (A.sendB h).mono ?_
  rintro _ u7 ⟨x7, rfl, hx', h', b'⟩
  replace b := b.trans b'.b
  replace hBx := b'.blk (by simp) hBx
  replace hs4 := b'.sees hs4 hj4
  replace hs5 := b'.sees hs5 hj5
  replace h : Nd NAt w.heap.size (gb :: P5) _ g ns2 := h'
  rw [q1] at hx'
  obtain ⟨A7, c7', rfl, -⟩ := hx'.at_
  clear h' b' hx'
  have y0 := hBx.cell 0 rfl
  have y1 := hBx.cell 1 rfl
  have y2 := hBx.cell 2 rfl
  have y3 := hBx.cell 3 rfl
  have y4 := hBx.cell 4 rfl
  have hT := Lib.hid (A.takeB H h (vx := .slice A5 LB c5) (vy := .slice A4 LG c4) (by rw [hH]; exact (hLB ▸ hs5)) (by rw [hH]; exact g2) (by rw [hH]; exact (hLG ▸ hs4)) (by rw [hH]; exact g1) a4.1 a4.2.1 a4.2.2 (by rw [hH]; show _ ≤ (0 : Int) ∧ (0 : Int) ≤ _; omega))
  rw [← hfin] at hT
  unfold hdV at hT
  have e1 : H.a = 2 := by rw [hH]
  have e2 : H.b = 2 := by rw [hH]
  have e3 : H.o = 0 := by rw [hH]
  rw [e1, e2, e3] at hT
  clear e1 e2 e3 hs4 hs5 hj4 hj5 hH hfin hBx
  go_wp2_with fail
  refine hT.out.mono ?_
  rintro _ u8 ⟨rfl, h', b'⟩
  replace b := b.trans b'.b
  replace h := h'
  clear h' b' y0 y1 y2 y3 y4 hT
  go_wp2_with fail
  refine (M.readK A 2 h).mono ?_
  rintro _ u9 ⟨v9, rfl, hs9, -, h', b'⟩
  replace b := b.trans (b'.mono b.size)
  replace h := h'
  rw [f3, f4]
  clear h' b' 
  rw [f5] at hs9
  obtain ⟨A9, c9, rfl, -⟩ := hs9.at_
  have hMb := Blk.new u9 u9.heap.size rfl #[.slice A9 l.length c9, .int .i64 0, .bool true] 64
  have hk := (Below.refl u9.heap.size u9).alloc (Nat.le_refl _) (.cells #[.slice A9 l.length c9, .int .i64 0, .bool true] 64)
  replace hs9 := (hs9.below hk).more hk.size
  replace b := b.trans (hk.mono b.size)
  replace h := A.ndKeep h hk
  have hlt9 : u9.heap.size < (u9.alloc (.cells #[.slice A9 l.length c9, .int .i64 0, .bool true] 64)).heap.size := by simp
  clear hk
  go_wp2_with fail
  generalize (u9.alloc (.cells #[.slice A9 l.length c9, .int .i64 0, .bool true] 64)) = u10 at *
  generalize u9.heap.size = gm at *
  refine (A.viewK h).mono ?_
  rintro _ u11 ⟨rfl, h', b'⟩
  replace hMb := hMb.below b' hlt9
  replace hs9 := (hs9.below b').more b'.size
  replace b := b.trans (b'.mono b.size)
  replace h := h'
  rw [f1, f2]
  unfold csV
  clear h' b' hlt9
  go_wp2_with fail
  refine (A.viewK h).mono ?_
  rintro _ u12 ⟨rfl, h', b'⟩
  have hMl := hMb.lt
  replace hMb := hMb.below b' hMl
  replace hs9 := (hs9.below b').more b'.size
  replace b := b.trans (b'.mono b.size)
  replace h := h'
  rw [f1, f2]
  unfold csV
  have R1 := run_textL hs9
  have R2 := run_textL (HV.out.below b)
  have m0 := hMb.cell 0 rfl
  have m1 := hMb.cell 1 rfl
  have m2 := hMb.cell 2 rfl
  clear h' b'
  go_wp2_with fail
  refine (A.viewK h).mono ?_
  rintro _ u13 ⟨rfl, h', b'⟩
  replace b := b.trans (b'.mono b.size)
  rw [f1, f2]
  unfold csV
  clear h' b' m0 m1 m2
  go_wp2_with fail
  refine (known_nd A _).mono ?_
  rintro _ wk ⟨rfl, bk⟩
  replace bk := b.trans (bk.mono b.size)
  go_wp2
  go_ret
  exact ⟨rfl, bk⟩
set_option maxRecDepth 100000 in
set_option maxHeartbeats 2000000 in
theorem hears_3_3 {NAt : List Nat → World → Nat → NM → Prop} (A : NodeApi NAt) (M : NodeMore NAt) (x y : Int) (l : List Int) (A0 : Option Addr) (c0 : Nat) (w : World) (hv : SeesL w w.heap.size (.slice A0 l.length c0) l) (hl : bytesL l) (hd : l.length ≤ 8) (hx : x = 3) (hy : y = 3) :
    Calls Tryz.prog 12 #[.int .i64 x, .int .i64 y, .slice A0 l.length c0] w fun e w' => e = .returned (.bool true) ∧ Below w.heap.size w w' := by
  subst hx
  subst hy
  have dl : decide ((8 : Int) < ((l.length : Nat) : Int)) = false := decide_eq_false (by omega)
  obtain ⟨a1, a2, a3, a4, -⟩ := ns_a
  obtain ⟨c1, c2, c3, -⟩ := nh_c
  have q0 := sent_pos a1
  have q1 := sent_nil a3
  obtain ⟨i1, i2⟩ := nh_is l hd
  have g1 : bytesL (nhG l).bytes := Fr.F.bytes_ok i1 hl
  have g2 : bytesL (nhB l).bytes := Fr.F.bytes_ok i2 hl
  obtain ⟨r1, -⟩ := nh_good l hd
  have r2 := nh_bad l hd
  have Fm := field_m
  have Fs : ∀ (r s m : Int) (w : World), (Instr.field 55 (.agg #[.int .i64 r, .int .i64 s, .int .i64 m]) 1).run Tryz.prog w = .ok (.int .i64 s) w := fun _ _ _ _ => by kernel_rfl
  have z0' : bits BinOp.or IntKind.i64 3 4 = 7 := by decide
  have HE1 := fun W (hW : Below w.heap.size w W) => Lib.hid (encode_ref (nhG l) (.slice A0 l.length c0) W ((hv.below hW).more hW.size) hl)
  have HE2 := fun W (hW : Below w.heap.size w W) => Lib.hid (encode_ref (nhB l) (.slice A0 l.length c0) W ((hv.below hW).more hW.size) hl)
  unfold Enc at HE1 HE2
  rw [(encR_ok i1).1, (encR_ok i1).2] at HE1
  rw [(encR_ok i2).1, (encR_ok i2).2] at HE2
  have HV : Hid (SeesL w w.heap.size (.slice A0 l.length c0) l) := Lib.hid hv
  obtain ⟨H, hH⟩ : ∃ H : Hd, H = ⟨2, 2, (nhB l).bytes, (nhB l).bytes, 0⟩ := ⟨_, rfl⟩
  obtain ⟨fin, hfin⟩ : ∃ fin, fin = ns2.take H := ⟨_, rfl⟩
  have hR : ns2.rightL H = none := by
    subst hH
    unfold NM.rightL NM.rows
    simp [r2]
  obtain ⟨f1, f2, f3, f4⟩ := nh_wrong H hR fin hfin
  clear i1 i2 r1 r2 hR hv
  go_enter Tryz.func12, Tryz.ntmps12
  go_wp2_with fail
  refine (passive_nd A _).mono ?_
  rintro _ w1 ⟨g, rfl, h, b⟩
  replace h : Nd NAt w.heap.size [] _ g pv := h
  go_wp2_with fail
  refine (A.sendB h).mono ?_
  rintro _ u1 ⟨x1, rfl, hx', h', b'⟩
  replace b := b.trans b'.b
  replace h : Nd NAt w.heap.size [] _ g ns0 := h'
  clear h' b' 
  obtain ⟨A2, c2', rfl, -⟩ := hx'.at_
  have z0 : (((pv.sent.length : Nat) : Int) == 0) = false := by rw [beq_eq_false_iff_ne]; omega
  clear hx'
  generalize pv.sent.length = len2 at *
  go_wp2_with fail
  refine (A.silentB h a2.1 a2.2.1 a2.2.2).mono ?_
  rintro _ u2 ⟨rfl, h', b'⟩
  replace b := b.trans b'.b
  replace h : Nd NAt w.heap.size [] _ g ns1 := h'
  clear h' b' 
  go_wp2_with fail
  refine (A.viewK h).mono ?_
  rintro _ u3 ⟨rfl, h', b'⟩
  replace b := b.trans (b'.mono b.size)
  replace h := h'
  clear h' b'
  rw [c1, c2, c3]
  unfold csV
  have hk := (Below.refl u3.heap.size u3).alloc (Nat.le_refl _) (.cells #[.int .i64 0, .int .i64 2, .int .i64 7] 55)
  have hSb := Blk.new u3 u3.heap.size rfl #[.int .i64 0, .int .i64 2, .int .i64 7] 55
  replace b := b.trans (hk.mono b.size)
  replace h := A.ndKeep h hk
  have hlt3 : u3.heap.size < (u3.alloc (.cells #[.int .i64 0, .int .i64 2, .int .i64 7] 55)).heap.size := by simp
  clear hk
  have H1 := HE1 _ b
  go_wp2_with fail
  refine H1.out.mono ?_
  rintro _ w4 ⟨v4, rfl, ho4, b4⟩
  have hSb := hSb.below b4 hlt3
  have h4 := A.ndOwn h b4 ho4
  replace b := b.trans (b4.mono b.size)
  replace h := h4
  clear HE1 H1 h4 b4 hlt3
  have hs4 := ho4.sees
  have hj4 : ∀ j, v4.ownBlock = some j → j ∈ v4.ownBlock.toList ++ [] ∨ j < w.heap.size := fun j hj => .inl (by simp [hj])
  have hx4 := ho4.lt
  generalize v4.ownBlock.toList ++ [] = P4 at *
  clear ho4
  obtain ⟨A4, c4, rfl, -⟩ := hs4.at_
  generalize u3.heap.size = gs at *
  have y0 := hSb.cell 0 rfl
  have y1 := hSb.cell 1 rfl
  have y2 := hSb.cell 2 rfl
  have H2 := HE2 _ b
  go_wp2_with fail
  refine H2.out.mono ?_
  rintro _ w5 ⟨v5, rfl, ho5, b5⟩
  have h5 := A.ndOwn h b5 ho5
  replace hs4 := (hs4.below b5).more b5.size
  replace b := b.trans (b5.mono b.size)
  replace h := h5
  clear HE2 H2 h5 y0 y1 y2 hSb
  have hs5 := ho5.sees
  have hj5 : ∀ j, v5.ownBlock = some j → j ∈ v5.ownBlock.toList ++ P4 ∨ j < w.heap.size := fun j hj => .inl (by simp [hj])
  replace hj4 : ∀ j, (Value.slice A4 (nhG l).bytes.length c4).ownBlock = some j → j ∈ v5.ownBlock.toList ++ P4 ∨ j < w.heap.size := fun j h => (hj4 j h).elim (fun h => .inl (List.mem_append_right _ h)) .inr
  generalize v5.ownBlock.toList ++ P4 = P5 at *
  clear ho5 b5
  obtain ⟨A5, c5, rfl, -⟩ := hs5.at_
  have HB := fun (o : Obj) => A.ndBox h o
  have hK5 := Below.refl w5.heap.size w5
  generalize hLG : (nhG l).bytes.length = LG at *
  generalize hLB : (nhB l).bytes.length = LB at *
  replace h := HB (.cells #[.int .i64 2, .int .i64 2, .slice A5 LB c5, .slice A5 LB c5, .int .i64 0] 39)
  have hBx := Blk.new w5 w5.heap.size rfl #[.int .i64 2, .int .i64 2, .slice A5 LB c5, .slice A5 LB c5, .int .i64 0] 39
  have hk := hK5.alloc (Nat.le_refl _) (.cells #[.int .i64 2, .int .i64 2, .slice A5 LB c5, .slice A5 LB c5, .int .i64 0] 39)
  replace hs4 := (hs4.below hk).more hk.size
  replace hs5 := (hs5.below hk).more hk.size
  replace b := b.trans (hk.mono b.size)
  replace hj4 : ∀ j, (Value.slice A4 LG c4).ownBlock = some j → j ∈ w5.heap.size :: P5 ∨ j < w.heap.size := fun j h => (hj4 j h).elim (fun h => .inl (List.mem_cons_of_mem _ h)) .inr
  replace hj5 : ∀ j, (Value.slice A5 LB c5).ownBlock = some j → j ∈ w5.heap.size :: P5 ∨ j < w.heap.size := fun j h => (hj5 j h).elim (fun h => .inl (List.mem_cons_of_mem _ h)) .inr
  clear HB hK5 hk
  go_wp2_with fail
  generalize (w5.alloc (.cells #[.int .i64 2, .int .i64 2, .slice A5 LB c5, .slice A5 LB c5, .int .i64 0] 39)) = w6 at *
  generalize w5.heap.size = gb at *
  refine (A.sendB h).mono ?_
  rintro _ u7 ⟨x7, rfl, hx', h', b'⟩
  replace b := b.trans b'.b
  replace hBx := b'.blk (by simp) hBx
  replace hs4 := b'.sees hs4 hj4
  replace hs5 := b'.sees hs5 hj5
  replace h : Nd NAt w.heap.size (gb :: P5) _ g ns2 := h'
  rw [q1] at hx'
  obtain ⟨A7, c7', rfl, -⟩ := hx'.at_
  clear h' b' hx'
  have y0 := hBx.cell 0 rfl
  have y1 := hBx.cell 1 rfl
  have y2 := hBx.cell 2 rfl
  have y3 := hBx.cell 3 rfl
  have y4 := hBx.cell 4 rfl
  have hT := Lib.hid (A.takeB H h (vx := .slice A5 LB c5) (vy := .slice A5 LB c5) (by rw [hH]; exact (hLB ▸ hs5)) (by rw [hH]; exact g2) (by rw [hH]; exact (hLB ▸ hs5)) (by rw [hH]; exact g2) a4.1 a4.2.1 a4.2.2 (by rw [hH]; show _ ≤ (0 : Int) ∧ (0 : Int) ≤ _; omega))
  rw [← hfin] at hT
  unfold hdV at hT
  have e1 : H.a = 2 := by rw [hH]
  have e2 : H.b = 2 := by rw [hH]
  have e3 : H.o = 0 := by rw [hH]
  rw [e1, e2, e3] at hT
  clear e1 e2 e3 hs4 hs5 hj4 hj5 hH hfin hBx
  go_wp2_with fail
  refine hT.out.mono ?_
  rintro _ u8 ⟨rfl, h', b'⟩
  replace b := b.trans b'.b
  replace h := h'
  clear h' b' y0 y1 y2 y3 y4 hT
  go_wp2_with fail
  refine (M.readK A 2 h).mono ?_
  rintro _ u9 ⟨v9, rfl, hs9, -, h', b'⟩
  replace b := b.trans (b'.mono b.size)
  replace h := h'
  rw [f3, f4]
  clear h' b' 
  obtain ⟨A9, c9, rfl, -⟩ := hs9.at_
  generalize (fin.so.gd 2).length = len9 at *
  have hMb := Blk.new u9 u9.heap.size rfl #[.slice A9 len9 c9, .int .i64 (-1), .bool false] 64
  have hk := (Below.refl u9.heap.size u9).alloc (Nat.le_refl _) (.cells #[.slice A9 len9 c9, .int .i64 (-1), .bool false] 64)
  clear hs9
  replace b := b.trans (hk.mono b.size)
  replace h := A.ndKeep h hk
  have hlt9 : u9.heap.size < (u9.alloc (.cells #[.slice A9 len9 c9, .int .i64 (-1), .bool false] 64)).heap.size := by simp
  clear hk
  go_wp2_with fail
  generalize (u9.alloc (.cells #[.slice A9 len9 c9, .int .i64 (-1), .bool false] 64)) = u10 at *
  generalize u9.heap.size = gm at *
  refine (A.viewK h).mono ?_
  rintro _ u11 ⟨rfl, h', b'⟩
  replace hMb := hMb.below b' hlt9
  replace b := b.trans (b'.mono b.size)
  replace h := h'
  rw [f1, f2]
  unfold csV
  clear h' b' hlt9
  go_wp2_with fail
  refine (A.viewK h).mono ?_
  rintro _ u12 ⟨rfl, h', b'⟩
  have hMl := hMb.lt
  replace hMb := hMb.below b' hMl
  replace b := b.trans (b'.mono b.size)
  replace h := h'
  rw [f1, f2]
  unfold csV
  have m0 := hMb.cell 0 rfl
  have m1 := hMb.cell 1 rfl
  have m2 := hMb.cell 2 rfl
  clear h' b'
  go_wp2_with fail
  refine (A.viewK h).mono ?_
  rintro _ u13 ⟨rfl, h', b'⟩
  replace b := b.trans (b'.mono b.size)
  rw [f1, f2]
  unfold csV
  clear h' b' m0 m1 m2
  go_wp2_with fail
  refine (known_nd A _).mono ?_
  rintro _ wk ⟨rfl, bk⟩
  replace bk := b.trans (bk.mono b.size)
  go_wp2
  go_ret
  exact ⟨rfl, bk⟩
set_option maxRecDepth 100000 in
set_option maxHeartbeats 2000000 in
theorem gcore_nodeHears {NAt : List Nat → World → Nat → NM → Prop} (A : NodeApi NAt) (M : NodeMore NAt) (x y : Int) (l : List Int) (A0 : Option Addr) (c0 : Nat) (w : World) (hv : SeesL w w.heap.size (.slice A0 l.length c0) l) (hl : bytesL l) :
    Calls Tryz.prog 12 #[.int .i64 x, .int .i64 y, .slice A0 l.length c0] w fun e w' => e = .returned (.bool true) ∧ Below w.heap.size w w' := by
  by_cases call : 0 ≤ x ∧ x ≤ 3 ∧ 0 ≤ y ∧ y ≤ 3 ∧ l.length ≤ 8
  case neg =>
    clear hv
    go_enter Tryz.func12, Tryz.ntmps12
    go_wp2
    all_goals first
      | (exfalso; omega)
      | (go_ret; exact ⟨rfl, Below.refl _ _⟩)
      | skip
  obtain ⟨k1, k2, k3, k4, hd⟩ := call
  rcases (by omega : (0 ≤ x ∧ x ≤ 1) ∨ x = 2 ∨ x = 3) with hx | hx | hx <;> rcases (by omega : (0 ≤ y ∧ y ≤ 1) ∨ y = 2 ∨ y = 3) with hy | hy | hy
  · exact hears_lo_lo A M x y l A0 c0 w hv hl hd hx hy
  · exact hears_lo_2 A M x y l A0 c0 w hv hl hd hx hy
  · exact hears_lo_3 A M x y l A0 c0 w hv hl hd hx hy
  · exact hears_2_lo A M x y l A0 c0 w hv hl hd hx hy
  · exact hears_2_2 A M x y l A0 c0 w hv hl hd hx hy
  · exact hears_2_3 A M x y l A0 c0 w hv hl hd hx hy
  · exact hears_3_lo A M x y l A0 c0 w hv hl hd hx hy
  · exact hears_3_2 A M x y l A0 c0 w hv hl hd hx hy
  · exact hears_3_3 A M x y l A0 c0 w hv hl hd hx hy
/-- Of the node that is there. -/
theorem walk_nodeHears (x y : Int) (A0 : Option Addr) (m c : Nat) (z : Nat → Int) (w : World) (_h_x : -9223372036854775808 ≤ x ∧ x ≤ 9223372036854775807) (_h_y : -9223372036854775808 ≤ y ∧ y ≤ 9223372036854775807) (s : InBytesN w A0 m c z) :
    Calls Tryz.prog 12 #[.int .i64 x, .int .i64 y, .slice A0 m c] w fun e w' => e = .returned (.bool true) ∧ Below w.heap.size w w' := by
  obtain ⟨hv, hl⟩ := s.list
  have e := lst_length z m
  generalize lst z m = l at *
  subst e
  exact gcore_nodeHears nodeApi nodeMore x y l A0 c w hv hl

/-! ### THE ROW's STEP around the walk. -/
theorem own_nodeHears : ownKnob Tryz.prog.godebug = none := by kernel_rfl
theorem laidOut_nodeHears : laidOutB Tryz.prog = true := by kernel_rfl
set_option maxRecDepth 100000 in
theorem lifted_nodeHears (os : Os) (started : os.Started) (H : Type) (enc : TypeId × Value → H) :
    ReturnsInHanded {} Tryz.checked os 12 .any (Rows.nodeHearsSpec.pre6 enc Tryz.prog Tryz.f12 Rows.nodeHearsRow.domain false) (Rows.nodeHearsSpec.post enc Tryz.prog Tryz.f12 false true false false) := by
  refine returnsInHanded_of_change_sized (C := Tryz.checked) own_nodeHears started (by kernel_rfl) Tryz.func12
    (ChangeSpec.witness6 (enc := enc) (C := Tryz.checked) false ⟨#[], #[.int .i64 0, .int .i64 0, .slice none 0 0], []⟩ 8 (by kernel_rfl) (by kernel_rfl) (by kernel_rfl) (by kernel_rfl)) ?_
  intro W base args ds gs before hval0 hW hcnd hsz0 _
  have hval : ∀ (j : Nat) t v, Tryz.f12.params[j]? = some t → args[j]? = some v → Value.okWide Tryz.prog W .any base t v := hval0
  have hW' := hW
  obtain ⟨p, q, hA0, hV, rfl, hfz, hnd⟩ := hW
  have hA : DataW.TrodAll enc Tryz.prog W 0 (fun _ => true) true Tryz.f12.params.toList args.toList ds p := hA0
  have hsz : (DataW.weightsEach Tryz.prog (Tryz.f12.params.toList ++ Rows.nodeHearsSpec.plain.varTypes Tryz.prog) (ds ++ gs)).all (· ≤ reachBytes) = true := hsz0
  rw [Tryz.params12] at hA hval hsz
  obtain ⟨v0, vs0, d0, ds0, p0, q0, hargs, rfl, rfl, h0, r0⟩ := trodAll_cons hA
  obtain ⟨v1, vs1, d1, ds1, p1, q1, rfl, rfl, rfl, h1, r1⟩ := trodAll_cons r0
  obtain ⟨v2, vs2, d2, ds2, p2, q2, rfl, rfl, rfl, h2, r2⟩ := trodAll_cons r1
  obtain ⟨rfl, rfl, rfl⟩ := trodAll_nil r2
  obtain rfl : args = #[v0, v1, v2] := by cases args; simp_all
  obtain ⟨rfl, rfl⟩ := trodVars_none hV
  obtain ⟨a0, rfl, rfl, rfl, w0⟩ := open_int Tryz.underlying3 (hval 0 3 v0 rfl rfl) h0
  obtain ⟨a1, rfl, rfl, rfl, w1⟩ := open_int Tryz.underlying3 (hval 1 3 v1 rfl rfl) h1
  obtain ⟨A2, n2, c2, rfl⟩ := okWide_slice Tryz.underlying37 (hval 2 37 v2 rfl rfl)
  have k2 := h2
  have lt2 : ∀ x ∈ p2, x.block < W.heap.size := by obtain ⟨m, hm⟩ := k2; exact DataW.trod_lt m _ _ _ hm
  obtain ⟨z2, s2⟩ := sees_bytesn Tryz.underlying37 Tryz.underlying5 (by kernel_rfl) h2 (by kernel_rfl) (fun _ _ hd => sized_slice hsz (j := 2) (t := 37) (e := 5) rfl (congrArg some hd) Tryz.underlying37)
  clear hA0 hval0
  refine (walk_nodeHears a0 a1 A2 n2 c2 z2 W (bounds_i64 w0) (bounds_i64 w1) s2).mono fun e W' ⟨he, bel⟩ => ?_
  subst he
  exact ⟨_, rfl, _, _, _, [], _, [], hW', trodAll_mk1 (shut_bool Tryz.underlying4 _), (trodAll_cons_mk (shut_int Tryz.underlying3 w0) (trodAll_cons_mk (shut_int Tryz.underlying3 w1) (trodAll_cons_mk (Below.trod laidOut_nodeHears (by kernel_rfl) (of_decide_eq_true (by kernel_rfl)) k2 bel lt2) trodAll_mk0))), rfl, bel.frame _, fun h => by cases h⟩

theorem over_nodeHears : Rows.nodeHearsRow.holds Tryz.pinned (OpenSpec.ofChange Rows.nodeHearsSpec) :=
  OpenClaim.holds_of_wide 12 Tryz.f12 rfl rfl rfl rfl rfl rfl rfl ⟨rfl, rfl, rfl, rfl, rfl⟩ rfl rfl rfl rfl rfl (by kernel_rfl) Tryz.func12 (by kernel_rfl)
    (of_decide_eq_true (by kernel_rfl)) (by unfold Func.isWrapper; first | (rw [if_pos (by decide +kernel)]; kernel_rfl) | (rw [if_neg (by decide +kernel)]; exact ⟨rfl, rfl⟩))
    (fun os started H enc _ => lifted_nodeHears os started H enc)

theorem proved_nodeHears : Rows.NodeHearsSaid := over_nodeHears
end Go.Proofs.YtfakibajipmkjaaGreat
