/- NodeJoins holds: by a frame that tells a state it knows it. For all numbers and bytes. -/
import Derived.Test.YtfakibajipmkjaaGreatNB36
namespace Go.Proofs.YtfakibajipmkjaaGreat
open Go.ChangeShapes Go.WideShapes Go.ChangeAt Go.RowKit

def nj0 (I : Nat) : NM := (NM.new (smnT 4 0) (I : Int).toNat 0 []).on 7
theorem nj_a : ∀ I : Fin 4, (nj0 I.val).st = 1 ∧ 20 ≤ (nj0 I.val).me.li ∧ (nj0 I.val).low ∧ (nj0 I.val).tm = 7 ∧ (nj0 I.val).wt = 0 ∧ (nj0 I.val).se = false ∧ (nj0 I.val).i = I.val ∧ (nj0 I.val).t = smnT 4 0 ∧ (nj0 I.val).dr = 0 := by
  intro I
  refine ⟨rfl, ?_, ?_, rfl, rfl, rfl, rfl, rfl, rfl⟩
  · revert I; decide +kernel
  · revert I; decide +kernel
theorem sil_self' (s : NM) (h1 : s.wt = 0) (h2 : s.se = false) : s.sil 0 = s := by
  cases s
  simp at h1 h2
  simp [NM.sil, h1, h2]
theorem take_known (s : NM) (h : Hd) (l : List Int) (h1 : s.st = 1) (hf : s.firstL h = some l) : s.take h = (s.knows (Fr.res l NM.z3) h.o).goOn := by
  unfold NM.take
  rw [if_neg (by omega), if_pos h1, hf]
theorem first_y (s : NM) (L : List Int) (o : Int) : s.firstL ⟨0, 2, [], L, o⟩ = if s.tells L then some L else none := by
  unfold NM.firstL NM.rows
  by_cases h : s.tells L <;> simp [h]
theorem told_back (r J m : Int) (d : List Int) (hr : 0 ≤ r ∧ r ≤ 65535) (hJ : 0 ≤ J ∧ J < 4) (hm : 0 ≤ m ∧ m ≤ 255) (hd : d.length ≤ 8) : (⟨2, ⟨r, J, m⟩, d⟩ : Fr.F).is = true ∧ Fr.res (⟨2, ⟨r, J, m⟩, d⟩ : Fr.F).bytes NM.z3 = ⟨2, ⟨r, J, m⟩, d⟩ ∧ Fr.err (⟨2, ⟨r, J, m⟩, d⟩ : Fr.F).bytes NM.z3 = 0 := by
  have hs : (⟨r, J, m⟩ : Fr.St).may = true := by
    rw [Fr.St.may_iff]
    exact ⟨hr, ⟨hJ.1, by show J < 8; omega⟩, hm⟩
  have hi : (⟨2, ⟨r, J, m⟩, d⟩ : Fr.F).is = true := by
    rw [Fr.F.is_iff]
    exact ⟨⟨by show (1 : Int) ≤ 2; omega, by show (2 : Int) ≤ 3; omega⟩, hs, hd⟩
  obtain ⟨b1, b2, b3⟩ := Fr.back hi NM.z3 (by decide)
  have b3 : Fr.sumB (⟨2, ⟨r, J, m⟩, d⟩ : Fr.F).bytes NM.z3 = true := b3.2 (fun h => absurd h (by show ¬ (2 : Int) = 1; omega))
  refine ⟨hi, ?_, ?_⟩
  · unfold Fr.res
    rw [b1, b3, b2]
    rfl
  · unfold Fr.err
    rw [b1, b3]
    rfl
theorem nj_take (I : Nat) (hI : I < 4) (r m o : Int) (J : Nat) (d : List Int) (hr : 0 ≤ r ∧ r < 65535) (hJ : J < 4) (hIJ : J ≠ I) (hm : 0 ≤ m ∧ m ≤ 255) (hd : d.length ≤ 8) (L : List Int) (hL : L = (⟨2, ⟨r, J, m⟩, d⟩ : Fr.F).bytes) :
    ((nj0 I).sil 1).take ⟨0, 2, [], L, o⟩ = (((nj0 I).sil 1).knows ⟨2, ⟨r, J, m⟩, d⟩ o).goOn := by
  obtain ⟨n1, n2, n3⟩ := told_back r J m d ⟨hr.1, by omega⟩ ⟨by omega, by omega⟩ hm hd
  have hf := first_y ((nj0 I).sil 1) L o
  have ht : ((nj0 I).sil 1).tells L := by
    unfold NM.tells
    rw [hL, n3, n2]
    refine ⟨rfl, by show (2 : Int) ≠ 1; omega, ?_, ?_⟩
    · show (J : Int) < ((4 : Nat) : Int)
      omega
    · show (J : Int) ≠ ((I : Int).toNat : Int)
      omega
  rw [if_pos ht] at hf
  rw [take_known _ _ L rfl hf, hL, n2]
theorem nj_mid (I : Nat) (r m o : Int) (J : Nat) (d : List Int) (hJ : J < 3) (hm : 0 ≤ m ∧ m ≤ 255) (hd : d.length ≤ 8) (fin : NM) (hf : fin = (((nj0 I).sil 1).knows ⟨2, ⟨r, J, m⟩, d⟩ o).goOn) :
    fin.st = 3 ∧ fin.rd = r ∧ fin.sl = J + 1 ∧ fin.ty.m = ins m.toNat J ∧ fin.tm = 7 + o ∧ fin.so.ga J = 0 ∧ fin.so.gd J = d ∧ fin.so.gg J = true := by
  have hN : isN (J : Int) := ⟨by omega, by omega⟩
  have hx : nxS ((((nj0 I).sil 1).knows ⟨2, ⟨r, J, m⟩, d⟩ o).t.ns.length) (((nj0 I).sil 1).knows ⟨2, ⟨r, J, m⟩, d⟩ o).sl = J + 1 := by
    show nxS ((4 : Nat) : Int) (((J : Int).toNat : Nat) : Int) = J + 1
    unfold nxS
    rw [if_pos (by omega)]
    omega
  rw [NM.goOn_mid _ (by rw [hx]; omega)] at hf
  have hty : (((nj0 I).sil 1).knows ⟨2, ⟨r, J, m⟩, d⟩ o).ty.m = ins m.toNat J := by
    show ((⟨(m % 256).toNat, 0, 0⟩ : TS).right (J : Int)).m = _
    unfold TS.right
    rw [if_pos (by omega)]
    show ins (m % 256).toNat ((J : Int)).toNat = _
    rw [Int.toNat_natCast, show m % 256 = m by omega]
  subst hf
  refine ⟨rfl, ?_, ?_, hty, rfl, ?_, ?_, ?_⟩
  · show nxR ((4 : Nat) : Int) r (((J : Int).toNat : Nat) : Int) = r
    unfold nxR
    rw [if_pos (by omega)]
  · show (nxS _ _).toNat = J + 1
    rw [hx]
    omega
  · show (NM.goods (MS.new.put (J : Int) d) _).ga (J : Int) = 0
    simp [NM.goods, MS.ga, MS.put, hN, hd, upd]
  · show (NM.goods (MS.new.put (J : Int) d) _).gd (J : Int) = d
    simp [NM.goods, MS.gd, MS.put, hN, hd, upd]
  · show (NM.goods (MS.new.put (J : Int) d) (((nj0 I).sil 1).knows ⟨2, ⟨r, J, m⟩, d⟩ o).ty.m).gg (J : Int) = true
    rw [hty]
    have : isB (ins m.toNat J) (J : Int) = true := by
      unfold isB
      rw [Int.toNat_natCast, ins_has (by omega) (by omega)]
      simp
      omega
    simp [NM.goods, MS.gg, hN, this]
    omega
theorem nj_end (I : Nat) (r m o : Int) (d : List Int) (hr : 0 ≤ r ∧ r < 65535) (hm : 0 ≤ m ∧ m ≤ 255) (hd : d.length ≤ 8) (fin : NM) (hf : fin = (((nj0 I).sil 1).knows ⟨2, ⟨r, (3 : Nat), m⟩, d⟩ o).goOn) :
    fin.st = 3 ∧ fin.rd = r + 1 ∧ fin.sl = 0 ∧ fin.ty.m = ins m.toNat 3 ∧ fin.tm = 7 + o ∧ fin.so.ga (3 : Nat) = 1 ∧ fin.so.gd (3 : Nat) = d ∧ fin.so.gg (3 : Nat) = true := by
  have hN : isN 3 := ⟨by omega, by omega⟩
  have hx : nxS ((4 : Nat) : Int) ((((3 : Nat) : Int).toNat : Nat) : Int) = 0 := by decide
  have hy : nxR ((4 : Nat) : Int) r ((((3 : Nat) : Int).toNat : Nat) : Int) = r + 1 := by
    unfold nxR
    rw [if_neg (by decide), if_pos hr.2]
  have hty : (((nj0 I).sil 1).knows ⟨2, ⟨r, (3 : Nat), m⟩, d⟩ o).ty.m = ins m.toNat 3 := by
    show ((⟨(m % 256).toNat, 0, 0⟩ : TS).right ((3 : Nat) : Int)).m = _
    unfold TS.right
    rw [if_pos (by omega)]
    show ins (m % 256).toNat (((3 : Nat) : Int)).toNat = _
    rw [Int.toNat_natCast, show m % 256 = m by omega]
  have hso : ∀ (x : Nat), ((NM.goods (MS.new.put ((3 : Nat) : Int) d) x).age).ga ((3 : Nat) : Int) = 1 ∧ ((NM.goods (MS.new.put ((3 : Nat) : Int) d) x).age).gd ((3 : Nat) : Int) = d ∧ ((NM.goods (MS.new.put ((3 : Nat) : Int) d) x).age).gg ((3 : Nat) : Int) = isB x ((3 : Nat) : Int) := by
    intro x
    refine ⟨?_, ?_, ?_⟩
    · simp [NM.goods, MS.ga, MS.put, MS.age, hN, hd, upd, older]
      decide
    · simp [NM.goods, MS.gd, MS.put, MS.age, hN, hd, upd]
    · simp [NM.goods, MS.gg, MS.put, MS.age, hN]
  have hb : isB (ins m.toNat 3) ((3 : Nat) : Int) = true := by
    unfold isB
    rw [Int.toNat_natCast, ins_has (by omega) (by omega)]
    rfl
  obtain ⟨p1, p2, p3⟩ := hso (ins m.toNat 3)
  have hg : (((nj0 I).sil 1).knows ⟨2, ⟨r, (3 : Nat), m⟩, d⟩ o).goOn.ty.m = ins m.toNat 3 ∧ (((nj0 I).sil 1).knows ⟨2, ⟨r, (3 : Nat), m⟩, d⟩ o).goOn.st = 3 ∧ (((nj0 I).sil 1).knows ⟨2, ⟨r, (3 : Nat), m⟩, d⟩ o).goOn.rd = nxR ((4 : Nat) : Int) r ((((3 : Nat) : Int).toNat : Nat) : Int) ∧ (((nj0 I).sil 1).knows ⟨2, ⟨r, (3 : Nat), m⟩, d⟩ o).goOn.sl = 0 ∧ (((nj0 I).sil 1).knows ⟨2, ⟨r, (3 : Nat), m⟩, d⟩ o).goOn.tm = 7 + o + termV 9 [] + 0 ∧ (((nj0 I).sil 1).knows ⟨2, ⟨r, (3 : Nat), m⟩, d⟩ o).goOn.so = (NM.goods (MS.new.put ((3 : Nat) : Int) d) (((nj0 I).sil 1).knows ⟨2, ⟨r, (3 : Nat), m⟩, d⟩ o).ty.m).age := ⟨hty, rfl, rfl, rfl, rfl, rfl⟩
  obtain ⟨g1, g2, g3, g4, g5, g6⟩ := hg
  rw [hty] at g6
  subst hf
  refine ⟨g2, g3.trans hy, g4, g1, ?_, ?_, ?_, ?_⟩
  · rw [g5, show termV 9 [] = 0 from by decide]
    omega
  · rw [g6]; exact p1
  · rw [g6]; exact p2
  · rw [g6, p3]; exact hb
set_option maxRecDepth 100000 in
set_option maxHeartbeats 2000000 in
theorem njoins_core {NAt : List Nat → World → Nat → NM → Prop} (A : NodeApi NAt) (M : NodeMore NAt) (I J : Nat) (r m o : Int) (l : List Int) (A0 : Option Addr) (c0 : Nat) (w : World) (hv : SeesL w w.heap.size (.slice A0 l.length c0) l) (hl : bytesL l)
    (hI : I < 4) (hJ : J < 4) (hne : J ≠ I) (hr : 0 ≤ r ∧ r < 65535) (hm : 0 ≤ m ∧ m ≤ 255) (ho : -1000 ≤ o ∧ o ≤ 1000) (hd : l.length ≤ 8) (nx : Nat) (rr ag : Int) (fin : NM) (f0 : ((nj0 I).sil 1).take ⟨0, 2, [], (⟨2, ⟨r, J, m⟩, l⟩ : Fr.F).bytes, o⟩ = fin)
    (f1 : fin.st = 3) (f2 : fin.rd = rr) (f3 : fin.sl = nx) (f4 : fin.ty.m = ins m.toNat J) (f5 : fin.tm = 7 + o) (f6 : fin.so.ga J = ag) (f7 : fin.so.gd J = l) (f8 : fin.so.gg J = true)
    (t1 : ((J : Int) + 1).tmod 4 = nx) (t2 : if nx = 0 then rr = r + 1 ∧ ag = 1 else rr = r ∧ ag = 0) :
    Calls Tryz.prog 7 #[.int .i64 I, .int .i64 J, .int .i64 r, .int .i64 m, .int .i64 o, .slice A0 l.length c0] w fun e w' => e = .returned (.bool true) ∧ Below w.heap.size w w' := by
  have d1 : decide (((I : Nat) : Int) < 0) = false := decide_eq_false (by omega)
  have d2 : decide ((3 : Int) < ((I : Nat) : Int)) = false := decide_eq_false (by omega)
  have d3 : decide (((J : Nat) : Int) < 0) = false := decide_eq_false (by omega)
  have d4 : decide ((3 : Int) < ((J : Nat) : Int)) = false := decide_eq_false (by omega)
  have d5 : (((J : Nat) : Int) == ((I : Nat) : Int)) = false := by rw [beq_eq_false_iff_ne]; omega
  have d6 : decide (r < 0) = false := decide_eq_false (by omega)
  have d7 : decide ((65535 : Int) ≤ r) = false := decide_eq_false (by omega)
  have d8 : decide (m < 0) = false := decide_eq_false (by omega)
  have d9 : decide ((255 : Int) < m) = false := decide_eq_false (by omega)
  have da : decide (o < -1000) = false := decide_eq_false (by omega)
  have db : decide ((1000 : Int) < o) = false := decide_eq_false (by omega)
  have dc : decide ((8 : Int) < ((l.length : Nat) : Int)) = false := decide_eq_false (by omega)
  obtain ⟨a1, a2, a3, a4, a5, a6, a7, -⟩ := nj_a ⟨I, hI⟩
  simp only at a1 a2 a3 a4 a5 a6 a7
  have e0 := sil_self' _ a5 a6
  obtain ⟨L1, L2, L3⟩ := (nj0 I).listens a1 0 (by omega)
  obtain ⟨n1, n2, n3⟩ := told_back r J m l ⟨hr.1, by omega⟩ ⟨by omega, by omega⟩ hm hd
  have n4 : bytesL (⟨2, ⟨r, J, m⟩, l⟩ : Fr.F).bytes := Fr.F.bytes_ok n1 hl
  have HE := fun W (hW : Below w.heap.size w W) => Lib.hid (encode_ref ⟨2, ⟨r, J, m⟩, l⟩ (.slice A0 l.length c0) W ((hv.below hW).more hW.size) hl)
  unfold Enc at HE
  rw [(encR_ok n1).1, (encR_ok n1).2] at HE
  have HV : Hid (SeesL w w.heap.size (.slice A0 l.length c0) l) := Lib.hid hv
  clear n1 n2 n3 hv
  generalize (⟨2, ⟨r, J, m⟩, l⟩ : Fr.F).bytes = L at *
  unfold frV at HE
  have z1 : IntKind.i64.wrap ((J : Int) + 1) = J + 1 := IntWalk.i64_in _ (by omega)
  have z2 : IntKind.i64.wrap (r + 1) = r + 1 := IntWalk.i64_in _ (by omega)
  have z3 : IntKind.i64.wrap (7 + o) = 7 + o := IntWalk.i64_in _ (by omega)
  have z4 : IntKind.u64.wrap (J : Int) = J := IntWalk.u64_in _ (by omega)
  have z5 : bits BinOp.or IntKind.i64 m (wrap64 ((2 : Int) ^ J)) = (ins m.toNat J : Nat) := by
    have := or_w (m := m.toNat) (k := J) (by omega) (by omega)
    rwa [show ((m.toNat : Nat) : Int) = m by omega] at this
  have z6 : (((ins m.toNat J : Nat) : Int) == ((ins m.toNat J : Nat) : Int)) = true := by simp
  go_enter Tryz.func7, Tryz.ntmps7
  have HS := fun W => Lib.hid (some_nd 4 0 (by omega) (by omega) W)
  go_wp2_with fail
  refine (HS _).out.mono ?_
  rintro _ w1 ⟨v, rfl, ho, b⟩
  have hv := ho.sees
  have hB1 := b.size
  have hm := may_some 4 0 (I : Int) 0 [] (by omega) (by omega) (by omega) (by omega) (by simp) (by simp)
  clear ho HS
  go_wp2_with fail
  refine (A.newB (smnT 4 0) v _ (I : Int) 0 [] w1 hv SeesRs.nil hm).mono ?_
  rintro _ w2 ⟨g, rfl, h, b'⟩
  replace b := b.trans (b'.mono b.size)
  clear hv hm b'
  go_wp2_with fail
  refine (A.onB 7 h).mono ?_
  rintro _ wo ⟨rfl, h', b'⟩
  replace b := b.trans (b'.b.mono hB1)
  rw [show NM.onE _ 7 = 0 from rfl]
  replace h : Nd NAt w1.heap.size [] _ g (nj0 I) := h'
  clear h' b' 
  rw [← e0] at h
  have HE := HE _ b
  go_wp2_with fail
  refine HE.out.mono ?_
  rintro _ w4 ⟨v4, rfl, ho4, b4⟩
  have h4 := A.ndOwn h b4 ho4
  replace b := b.trans (b4.mono b.size)
  replace h := h4
  clear HE h4 b4
  have hs4 := ho4.sees
  have hj : ∀ j, v4.ownBlock = some j → j ∈ v4.ownBlock.toList ++ [] ∨ j < w1.heap.size := fun j hj => .inl (by simp [hj])
  generalize v4.ownBlock.toList ++ [] = P at *
  clear ho4
  obtain ⟨A4, c4, rfl, -⟩ := hs4.at_
  have hs := Lib.hid hs4
  clear hs4
  go_wp2_with fail
  refine (A.sendB h).mono ?_
  rintro _ u5 ⟨x1, rfl, hx, h', b'⟩
  replace b := b.trans (b'.b.mono hB1)
  have hs := Lib.hid (b'.sees hs.out hj)
  rw [L2] at h'
  replace h : Nd NAt w1.heap.size P _ g ((nj0 I).sil 1) := h'
  rw [L1] at hx
  obtain ⟨A1, c1', rfl, -⟩ := hx.at_
  clear h' b' hx
  have hT := fun W (h : Nd NAt w1.heap.size P W g ((nj0 I).sil 1)) (hs : SeesL W W.heap.size (.slice A4 L.length c4) L) => Lib.hid (A.takeB ⟨0, 2, [], L, o⟩ h SeesL.nil (fun x hx => by simp at hx) hs n4 a3.1 a3.2.1 a3.2.2 (by show _ ≤ o ∧ o ≤ _; omega))
  rw [f0] at hT
  go_wp2_with fail
  refine (hT _ h hs.out).out.mono ?_
  rintro _ u6 ⟨rfl, h', b'⟩
  replace b := b.trans (b'.b.mono hB1)
  replace h := h'
  clear h' b' hs hT hj f0 L1 L2 L3 e0
  generalize nj0 I = s0 at *
  go_wp2_with fail
  refine (A.viewK h).mono ?_
  rintro _ u7 ⟨rfl, h', b'⟩
  replace b := b.trans (b'.mono b.size)
  replace h := h'
  clear h' b'
  rw [f2, f3, f4]
  unfold csV
  have hB1' := b.size
  have hVb := Blk.new u7 u7.heap.size rfl #[.int .i64 rr, .int .i64 (nx : Nat), .int .i64 (ins m.toNat J : Nat)] 55
  have hk := (Below.refl u7.heap.size u7).alloc (Nat.le_refl _) (.cells #[.int .i64 rr, .int .i64 (nx : Nat), .int .i64 (ins m.toNat J : Nat)] 55)
  replace b := b.trans (hk.mono b.size)
  replace h := A.ndKeep h hk
  have hsz : (u7.alloc (.cells #[.int .i64 rr, .int .i64 (nx : Nat), .int .i64 (ins m.toNat J : Nat)] 55)).heap.size = u7.heap.size + 1 := by simp
  clear hk
  by_cases hnx : nx = 0
  · rw [if_pos hnx] at t2
    obtain ⟨t2, t3⟩ := t2
    have t4 : (((nx : Nat) : Int) == 0) = true := by rw [beq_iff_eq]; omega
    subst t2 t3
    have ez : ((nx : Nat) : Int) = 0 := by omega
    rw [ez] at hVb h b hsz t1 ⊢
    clear ez t4 hnx
    go_wp2_with fail
    refine (M.readK A (J : Int) h).mono ?_
    rintro _ u8 ⟨v8, rfl, hs8, -, h', b8⟩
    replace hVb := hVb.below b8 (by rw [hsz]; omega)
    replace b := b.trans (b8.mono b.size)
    replace h := h'
    rw [f6, f8]
    rw [f7] at hs8
    obtain ⟨A8, c8, rfl, -⟩ := hs8.at_
    clear h' b8
    have hMb := Blk.new u8 u8.heap.size rfl #[.slice A8 l.length c8, .int .i64 1, .bool true] 64
    have hk := (Below.refl u8.heap.size u8).alloc (Nat.le_refl _) (.cells #[.slice A8 l.length c8, .int .i64 1, .bool true] 64)
    replace hVb := hVb.below hk hVb.lt
    replace hs8 := (hs8.below hk).more hk.size
    replace b := b.trans (hk.mono b.size)
    replace h := A.ndKeep h hk
    have hlt8 : u8.heap.size < (u8.alloc (.cells #[.slice A8 l.length c8, .int .i64 1, .bool true] 64)).heap.size := by simp
    clear hk
    go_wp2_with fail
    generalize (u8.alloc (.cells #[.slice A8 l.length c8, .int .i64 1, .bool true] 64)) = u9 at *
    generalize u8.heap.size = gm at *
    generalize u7.heap.size = gv at *
    refine (A.stateK h).mono ?_
    rintro _ u10 ⟨rfl, h', b'⟩
    replace hVb := hVb.below b' hVb.lt
    replace hMb := hMb.below b' hlt8
    replace hs8 := (hs8.below b').more b'.size
    replace b := b.trans (b'.mono b.size)
    replace h := h'
    rw [f1]
    have y0 := hVb.cell 0 rfl
    have y1 := hVb.cell 1 rfl
    have y2 := hVb.cell 2 rfl
    clear h' b'
    go_wp2_with fail
    refine (A.clockK h).mono ?_
    rintro _ u11 ⟨rfl, h', b'⟩
    have hMl := hMb.lt
    replace hMb := hMb.below b' hMl
    replace hs8 := (hs8.below b').more b'.size
    replace b := b.trans (b'.mono b.size)
    rw [f5]
    have R1 := run_textL hs8
    have R2 := run_textL (HV.out.below b)
    have m0 := hMb.cell 0 rfl
    have m1 := hMb.cell 1 rfl
    have m2 := hMb.cell 2 rfl
    clear h' b' y0 y1 y2
    go_wp2_with fail
    refine (known_nd A _).mono ?_
    rintro _ wk ⟨rfl, bk⟩
    replace bk := b.trans (bk.mono b.size)
    go_wp2
    go_ret
    exact ⟨rfl, bk⟩
  · rw [if_neg hnx] at t2
    obtain ⟨t2, t3⟩ := t2
    have t4 : (((nx : Nat) : Int) == 0) = false := by rw [beq_eq_false_iff_ne]; omega
    subst t2 t3
    go_wp2_with fail
    refine (M.readK A (J : Int) h).mono ?_
    rintro _ u8 ⟨v8, rfl, hs8, -, h', b8⟩
    replace hVb := hVb.below b8 (by rw [hsz]; omega)
    replace b := b.trans (b8.mono b.size)
    replace h := h'
    rw [f6, f8]
    rw [f7] at hs8
    obtain ⟨A8, c8, rfl, -⟩ := hs8.at_
    clear h' b8
    have hMb := Blk.new u8 u8.heap.size rfl #[.slice A8 l.length c8, .int .i64 0, .bool true] 64
    have hk := (Below.refl u8.heap.size u8).alloc (Nat.le_refl _) (.cells #[.slice A8 l.length c8, .int .i64 0, .bool true] 64)
    replace hVb := hVb.below hk hVb.lt
    replace hs8 := (hs8.below hk).more hk.size
    replace b := b.trans (hk.mono b.size)
    replace h := A.ndKeep h hk
    have hlt8 : u8.heap.size < (u8.alloc (.cells #[.slice A8 l.length c8, .int .i64 0, .bool true] 64)).heap.size := by simp
    clear hk
    go_wp2_with fail
    generalize (u8.alloc (.cells #[.slice A8 l.length c8, .int .i64 0, .bool true] 64)) = u9 at *
    generalize u8.heap.size = gm at *
    generalize u7.heap.size = gv at *
    refine (A.stateK h).mono ?_
    rintro _ u10 ⟨rfl, h', b'⟩
    replace hVb := hVb.below b' hVb.lt
    replace hMb := hMb.below b' hlt8
    replace hs8 := (hs8.below b').more b'.size
    replace b := b.trans (b'.mono b.size)
    replace h := h'
    rw [f1]
    have y0 := hVb.cell 0 rfl
    have y1 := hVb.cell 1 rfl
    have y2 := hVb.cell 2 rfl
    clear h' b'
    go_wp2_with fail
    refine (A.clockK h).mono ?_
    rintro _ u11 ⟨rfl, h', b'⟩
    have hMl := hMb.lt
    replace hMb := hMb.below b' hMl
    replace hs8 := (hs8.below b').more b'.size
    replace b := b.trans (b'.mono b.size)
    rw [f5]
    have R1 := run_textL hs8
    have R2 := run_textL (HV.out.below b)
    have m0 := hMb.cell 0 rfl
    have m1 := hMb.cell 1 rfl
    have m2 := hMb.cell 2 rfl
    clear h' b' y0 y1 y2
    go_wp2_with fail
    refine (known_nd A _).mono ?_
    rintro _ wk ⟨rfl, bk⟩
    replace bk := b.trans (bk.mono b.size)
    go_wp2
    go_ret
    exact ⟨rfl, bk⟩
set_option maxRecDepth 100000 in
set_option maxHeartbeats 2000000 in
theorem gcore_nodeJoins {NAt : List Nat → World → Nat → NM → Prop} (A : NodeApi NAt) (M : NodeMore NAt) (i j r m o : Int) (l : List Int) (A0 : Option Addr) (c0 : Nat) (w : World) (hv : SeesL w w.heap.size (.slice A0 l.length c0) l) (hl : bytesL l) :
    Calls Tryz.prog 7 #[.int .i64 i, .int .i64 j, .int .i64 r, .int .i64 m, .int .i64 o, .slice A0 l.length c0] w fun e w' => e = .returned (.bool true) ∧ Below w.heap.size w w' := by
  by_cases call : 0 ≤ i ∧ i ≤ 3 ∧ 0 ≤ j ∧ j ≤ 3 ∧ j ≠ i ∧ 0 ≤ r ∧ r < 65535 ∧ 0 ≤ m ∧ m ≤ 255 ∧ -1000 ≤ o ∧ o ≤ 1000 ∧ l.length ≤ 8
  case neg =>
    clear hv
    go_enter Tryz.func7, Tryz.ntmps7
    go_wp2
    all_goals first
      | (exfalso; omega)
      | (go_ret; exact ⟨rfl, Below.refl _ _⟩)
      | skip
  obtain ⟨k1, k2, k3, k4, k5, k6, k7, k8, k9, ka, kb, kc⟩ := call
  obtain ⟨I, rfl⟩ : ∃ t : Nat, i = t := ⟨i.toNat, by omega⟩
  obtain ⟨J, rfl⟩ : ∃ t : Nat, j = t := ⟨j.toNat, by omega⟩
  have ht := nj_take I (by omega) r m o J l ⟨k6, k7⟩ (by omega) (by omega) ⟨k8, k9⟩ kc _ rfl
  by_cases h3 : J = 3
  · subst h3
    obtain ⟨f1, f2, f3, f4, f5, f6, f7, f8⟩ := nj_end I r m o l ⟨k6, k7⟩ ⟨k8, k9⟩ kc _ rfl
    exact njoins_core A M I 3 r m o l A0 c0 w hv hl (by omega) (by omega) (by omega) ⟨k6, k7⟩ ⟨k8, k9⟩ ⟨ka, kb⟩ kc 0 (r + 1) 1 _ ht f1 f2 f3 f4 f5 f6 f7 f8 (by decide) (by simp)
  · obtain ⟨f1, f2, f3, f4, f5, f6, f7, f8⟩ := nj_mid I r m o J l (by omega) ⟨k8, k9⟩ kc _ rfl
    refine njoins_core A M I J r m o l A0 c0 w hv hl (by omega) (by omega) (by omega) ⟨k6, k7⟩ ⟨k8, k9⟩ ⟨ka, kb⟩ kc (J + 1) r 0 _ ht f1 f2 f3 f4 f5 f6 f7 f8 ?_ (by simp)
    rw [IntWalk.rem_in _ _ (by omega)]
    omega
/-- Of the node that is there. -/
theorem walk_nodeJoins (i j r mm o : Int) (A0 : Option Addr) (m c : Nat) (z : Nat → Int) (w : World) (_h_i : -9223372036854775808 ≤ i ∧ i ≤ 9223372036854775807) (_h_j : -9223372036854775808 ≤ j ∧ j ≤ 9223372036854775807) (_h_r : -9223372036854775808 ≤ r ∧ r ≤ 9223372036854775807) (_h_mm : -9223372036854775808 ≤ mm ∧ mm ≤ 9223372036854775807) (_h_o : -9223372036854775808 ≤ o ∧ o ≤ 9223372036854775807) (s : InBytesN w A0 m c z) :
    Calls Tryz.prog 7 #[.int .i64 i, .int .i64 j, .int .i64 r, .int .i64 mm, .int .i64 o, .slice A0 m c] w fun e w' => e = .returned (.bool true) ∧ Below w.heap.size w w' := by
  obtain ⟨hv, hl⟩ := s.list
  have e := lst_length z m
  generalize lst z m = l at *
  subst e
  exact gcore_nodeJoins nodeApi nodeMore i j r mm o l A0 c w hv hl

/-! ### THE ROW's STEP around the walk. -/
theorem own_nodeJoins : ownKnob Tryz.prog.godebug = none := by kernel_rfl
theorem laidOut_nodeJoins : laidOutB Tryz.prog = true := by kernel_rfl
set_option maxRecDepth 100000 in
theorem lifted_nodeJoins (os : Os) (started : os.Started) (H : Type) (enc : TypeId × Value → H) :
    ReturnsInHanded {} Tryz.checked os 7 .any (Rows.nodeJoinsSpec.pre6 enc Tryz.prog Tryz.f7 Rows.nodeJoinsRow.domain false) (Rows.nodeJoinsSpec.post enc Tryz.prog Tryz.f7 false true false false) := by
  refine returnsInHanded_of_change_sized (C := Tryz.checked) own_nodeJoins started (by kernel_rfl) Tryz.func7
    (ChangeSpec.witness6 (enc := enc) (C := Tryz.checked) false ⟨#[], #[.int .i64 0, .int .i64 0, .int .i64 0, .int .i64 0, .int .i64 0, .slice none 0 0], []⟩ 8 (by kernel_rfl) (by kernel_rfl) (by kernel_rfl) (by kernel_rfl)) ?_
  intro W base args ds gs before hval0 hW hcnd hsz0 _
  have hval : ∀ (j : Nat) t v, Tryz.f7.params[j]? = some t → args[j]? = some v → Value.okWide Tryz.prog W .any base t v := hval0
  have hW' := hW
  obtain ⟨p, q, hA0, hV, rfl, hfz, hnd⟩ := hW
  have hA : DataW.TrodAll enc Tryz.prog W 0 (fun _ => true) true Tryz.f7.params.toList args.toList ds p := hA0
  have hsz : (DataW.weightsEach Tryz.prog (Tryz.f7.params.toList ++ Rows.nodeJoinsSpec.plain.varTypes Tryz.prog) (ds ++ gs)).all (· ≤ reachBytes) = true := hsz0
  rw [Tryz.params7] at hA hval hsz
  obtain ⟨v0, vs0, d0, ds0, p0, q0, hargs, rfl, rfl, h0, r0⟩ := trodAll_cons hA
  obtain ⟨v1, vs1, d1, ds1, p1, q1, rfl, rfl, rfl, h1, r1⟩ := trodAll_cons r0
  obtain ⟨v2, vs2, d2, ds2, p2, q2, rfl, rfl, rfl, h2, r2⟩ := trodAll_cons r1
  obtain ⟨v3, vs3, d3, ds3, p3, q3, rfl, rfl, rfl, h3, r3⟩ := trodAll_cons r2
  obtain ⟨v4, vs4, d4, ds4, p4, q4, rfl, rfl, rfl, h4, r4⟩ := trodAll_cons r3
  obtain ⟨v5, vs5, d5, ds5, p5, q5, rfl, rfl, rfl, h5, r5⟩ := trodAll_cons r4
  obtain ⟨rfl, rfl, rfl⟩ := trodAll_nil r5
  obtain rfl : args = #[v0, v1, v2, v3, v4, v5] := by cases args; simp_all
  obtain ⟨rfl, rfl⟩ := trodVars_none hV
  obtain ⟨a0, rfl, rfl, rfl, w0⟩ := open_int Tryz.underlying3 (hval 0 3 v0 rfl rfl) h0
  obtain ⟨a1, rfl, rfl, rfl, w1⟩ := open_int Tryz.underlying3 (hval 1 3 v1 rfl rfl) h1
  obtain ⟨a2, rfl, rfl, rfl, w2⟩ := open_int Tryz.underlying3 (hval 2 3 v2 rfl rfl) h2
  obtain ⟨a3, rfl, rfl, rfl, w3⟩ := open_int Tryz.underlying3 (hval 3 3 v3 rfl rfl) h3
  obtain ⟨a4, rfl, rfl, rfl, w4⟩ := open_int Tryz.underlying3 (hval 4 3 v4 rfl rfl) h4
  obtain ⟨A5, n5, c5, rfl⟩ := okWide_slice Tryz.underlying37 (hval 5 37 v5 rfl rfl)
  have k5 := h5
  have lt5 : ∀ x ∈ p5, x.block < W.heap.size := by obtain ⟨m, hm⟩ := k5; exact DataW.trod_lt m _ _ _ hm
  obtain ⟨z5, s5⟩ := sees_bytesn Tryz.underlying37 Tryz.underlying5 (by kernel_rfl) h5 (by kernel_rfl) (fun _ _ hd => sized_slice hsz (j := 5) (t := 37) (e := 5) rfl (congrArg some hd) Tryz.underlying37)
  clear hA0 hval0
  refine (walk_nodeJoins a0 a1 a2 a3 a4 A5 n5 c5 z5 W (bounds_i64 w0) (bounds_i64 w1) (bounds_i64 w2) (bounds_i64 w3) (bounds_i64 w4) s5).mono fun e W' ⟨he, bel⟩ => ?_
  subst he
  exact ⟨_, rfl, _, _, _, [], _, [], hW', trodAll_mk1 (shut_bool Tryz.underlying4 _), (trodAll_cons_mk (shut_int Tryz.underlying3 w0) (trodAll_cons_mk (shut_int Tryz.underlying3 w1) (trodAll_cons_mk (shut_int Tryz.underlying3 w2) (trodAll_cons_mk (shut_int Tryz.underlying3 w3) (trodAll_cons_mk (shut_int Tryz.underlying3 w4) (trodAll_cons_mk (Below.trod laidOut_nodeJoins (by kernel_rfl) (of_decide_eq_true (by kernel_rfl)) k5 bel lt5) trodAll_mk0)))))), rfl, bel.frame _, fun h => by cases h⟩

theorem over_nodeJoins : Rows.nodeJoinsRow.holds Tryz.pinned (OpenSpec.ofChange Rows.nodeJoinsSpec) :=
  OpenClaim.holds_of_wide 7 Tryz.f7 rfl rfl rfl rfl rfl rfl rfl ⟨rfl, rfl, rfl, rfl, rfl⟩ rfl rfl rfl rfl rfl (by kernel_rfl) Tryz.func7 (by kernel_rfl)
    (of_decide_eq_true (by kernel_rfl)) (by unfold Func.isWrapper; first | (rw [if_pos (by decide +kernel)]; kernel_rfl) | (rw [if_neg (by decide +kernel)]; exact ⟨rfl, rfl⟩))
    (fun os started H enc _ => lifted_nodeJoins os started H enc)

theorem proved_nodeJoins : Rows.NodeJoinsSaid := over_nodeJoins
end Go.Proofs.YtfakibajipmkjaaGreat
