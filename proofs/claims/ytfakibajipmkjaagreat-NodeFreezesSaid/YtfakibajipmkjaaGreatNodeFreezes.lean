/- NodeFreezes holds: who hears more wrong than right falls out; who hears nothing listens anew. -/
import Derived.Test.YtfakibajipmkjaaGreatNB36
namespace Go.Proofs.YtfakibajipmkjaaGreat
open Go.ChangeShapes Go.WideShapes Go.ChangeAt Go.RowKit

def fzF : Fr.F := ⟨3, ⟨0, 3, 8⟩, []⟩
def fz0 : NM := (NM.new (smnT 4 0) (0 : Int).toNat 0 []).on 0
def fz1 : NM := fz0.sendS
def fz2 : NM := fz1.take ⟨2, 0, encR fzF, [], 0⟩
def fz3 : NM := fz2.sendS
def fz4 : NM := fz3.take ⟨0, 0, [], [], 0⟩
def fzH (q : Bool) : Hd := ⟨if q then 1 else 0, 0, [], [], 0⟩
def fzK (q : Bool) : Nat → NM
  | 0 => fz4
  | k + 1 => ((fzK q k).sendS).take (fzH q)
theorem fz_a : fz0.sendK = 0 ∧ fz1.low ∧ fz2.sendK ≠ 0 ∧ fz3.st = 4 ∧ fz3.low := by decide +kernel
theorem fz_b : ∀ (q : Bool) (k : Fin 3), (fzK q k.val).sendK = 0 ∧ (fzK q k.val).sendS.low := by decide +kernel
theorem fz_c : ∀ (q : Bool), (fzK q 3).sendK = 0 ∧ (fzK q 3).sendS.st = if q then 5 else 1 := by decide +kernel
theorem fz_e : encE fzF = 0 := by decide +kernel
set_option maxRecDepth 100000 in
set_option maxHeartbeats 2000000 in
theorem freezes_false {NAt : List Nat → World → Nat → NM → Prop} (A : NodeApi NAt) (w : World) :
    Calls Tryz.prog 8 #[.bool false] w fun e w' => e = .returned (.bool true) ∧ Below w.heap.size w w' := by
  obtain ⟨a1, a2, a3, a4, a5⟩ := fz_a
  have hb := fz_b false
  obtain ⟨c1, c2⟩ := fz_c false
  have hfe := fz_e
  have HS := fun W => Lib.hid (some_nd 4 0 (by omega) (by omega) W)
  go_enter Tryz.func8, Tryz.ntmps8
  go_wp2_with fail
  refine (HS _).out.mono ?_
  rintro _ w1 ⟨v, rfl, ho, b⟩
  have hv := ho.sees
  have hB1 := b.size
  have hm := may_some 4 0 0 0 [] (by omega) (by omega) (by omega) (by omega) (by simp) (by simp)
  clear ho HS
  go_wp2_with fail
  refine (A.newB (smnT 4 0) v _ 0 0 [] w1 hv SeesRs.nil hm).mono ?_
  rintro _ w2 ⟨g, rfl, h, b'⟩
  replace b := b.trans (b'.mono b.size)
  clear hv hm b'
  go_wp2_with fail
  refine (A.onB 0 h).mono ?_
  rintro _ wo ⟨rfl, h', b'⟩
  replace b := b.trans (b'.b.mono hB1)
  rw [show NM.onE _ 0 = 0 from rfl]
  replace h : Nd NAt w1.heap.size [] _ g fz0 := h'
  clear h' b' 
  have HE := fun W => Lib.hid (encode_ref fzF (.slice none 0 0) W SeesL.nil (fun x hx => by simp [fzF] at hx))
  go_wp2_with fail
  refine (HE _).out.mono ?_
  rintro _ w4 ⟨v4, rfl, ho4, b4⟩
  have h4 := A.ndOwn h b4 ho4
  replace b := b.trans (b4.mono b.size)
  replace h := h4
  rw [hfe]
  clear HE h4 b4
  have hs4 := ho4.sees
  have hj : ∀ j, v4.ownBlock = some j → j ∈ v4.ownBlock.toList ++ [] ∨ j < w1.heap.size := fun j hj => .inl (by simp [hj])
  generalize v4.ownBlock.toList ++ [] = P at *
  clear ho4
  have hl4 : bytesL (encR fzF) := by
    unfold bytesL
    decide +kernel
  obtain ⟨A4, c4, rfl, -⟩ := hs4.at_
  have hs := Lib.hid hs4
  clear hs4
  go_wp2_with fail
  refine (A.sendB h).mono ?_
  rintro _ u1 ⟨x1, rfl, hx, h', b'⟩
  replace b := b.trans (b'.b.mono hB1)
  have hs := Lib.hid (b'.sees hs.out hj)
  replace h : Nd NAt w1.heap.size P _ g fz1 := h'
  obtain ⟨A1, c1', rfl, -⟩ := hx.at_
  clear h' b' hx
  have hT := fun W (h : Nd NAt w1.heap.size P W g fz1) (hs : SeesL W W.heap.size (.slice A4 (encR fzF).length c4) (encR fzF)) => Lib.hid (A.takeB ⟨2, 0, encR fzF, [], 0⟩ h hs hl4 SeesL.nil (fun x hx => by simp at hx) a2.1 a2.2.1 a2.2.2 (by show _ ≤ (0 : Int) ∧ (0 : Int) ≤ _; omega))
  go_wp2_with fail
  refine (hT _ h hs.out).out.mono ?_
  rintro _ u2 ⟨rfl, h', b'⟩
  replace b := b.trans (b'.b.mono hB1)
  replace h : Nd NAt w1.heap.size P _ g fz2 := h'
  clear h' b' hs hT
  go_wp2_with fail
  refine (A.sendB h).mono ?_
  rintro _ u1 ⟨x1, rfl, hx, h', b'⟩
  replace b := b.trans (b'.b.mono hB1)
  replace h : Nd NAt w1.heap.size P _ g fz3 := h'
  clear h' b' 
  have hp := sent_pos a3
  obtain ⟨A2, c2', rfl, -⟩ := hx.at_
  have z0 : (((fz2.sent.length : Nat) : Int) == 0) = false := by rw [beq_eq_false_iff_ne]; omega
  clear hx
  generalize fz2.sent.length = len2 at *
  go_wp2_with fail
  refine (A.stateB h).mono ?_
  rintro _ u2 ⟨rfl, h', b'⟩
  replace b := b.trans (b'.b.mono hB1)
  replace h : Nd NAt w1.heap.size P _ g fz3 := h'
  clear h' b' 
  rw [a4]
  go_wp2_with fail
  refine (A.silentB h a5.1 a5.2.1 a5.2.2).mono ?_
  rintro _ u3 ⟨rfl, h', b'⟩
  replace b := b.trans (b'.b.mono hB1)
  replace h : Nd NAt w1.heap.size P _ g fz4 := h'
  clear h' b' 
  have HB := fun W (h : Nd NAt w1.heap.size P W g fz4) => A.ndBox h (.cells #[.int .i64 0, .int .i64 0, .slice none 0 0, .slice none 0 0, .int .i64 0] 39)
  go_wp2_with fail
  replace h := HB _ h
  have hBx := Blk.new u3 u3.heap.size rfl #[.int .i64 0, .int .i64 0, .slice none 0 0, .slice none 0 0, .int .i64 0] 39
  replace b := b.alloc b.size (.cells #[.int .i64 0, .int .i64 0, .slice none 0 0, .slice none 0 0, .int .i64 0] 39)
  generalize u3.heap.size = gb at *
  generalize (u3.alloc (.cells #[.int .i64 0, .int .i64 0, .slice none 0 0, .slice none 0 0, .int .i64 0] 39)) = ub at *
  go_loopw [8] (fun i wr => ∃ k : Nat, k ≤ 3 ∧ i = .int .i64 k ∧ Nd NAt w1.heap.size (gb :: P) wr g (fzK false k) ∧ Blk wr gb #[.int .i64 0, .int .i64 0, .slice none 0 0, .slice none 0 0, .int .i64 0] 39 ∧ Below w.heap.size w wr) (fun i _ => 3 - (intOf i).toNat)
  case atStart => exact ⟨0, by omega, rfl, h, hBx, b⟩
  case round =>
    clear h b hBx
    obtain ⟨k, hk, rfl, h, hBx, b⟩ := hrel
    by_cases hlt : k < 3
    · have r1 : decide ((k : Int) < 3) = true := decide_eq_true (by omega)
      obtain ⟨k0, kl⟩ := hb ⟨k, hlt⟩
      have k0 := sent_nil k0
      go_wp2_with fail
      refine (A.sendB h).mono ?_
      rintro _ u11 ⟨x11, rfl, hx, h', b'⟩
      replace b := b.trans (b'.b.mono hB1)
      replace hBx := b'.blk (by simp) hBx
      rw [k0] at hx
      replace h : Nd NAt w1.heap.size (gb :: P) _ g ((fzK false k).sendS) := h'
      obtain ⟨A11, c11, rfl, -⟩ := hx.at_
      clear h' b' hx
      have y0 := hBx.cell 0 (x := .int .i64 0) rfl
      have y1 := hBx.cell 1 (x := .int .i64 0) rfl
      have y2 := hBx.cell 2 (x := .slice none 0 0) rfl
      have y3 := hBx.cell 3 (x := .slice none 0 0) rfl
      have y4 := hBx.cell 4 (x := .int .i64 0) rfl
      go_wp2_with fail
      refine (A.takeB ⟨0, 0, [], [], 0⟩ h SeesL.nil (fun x hx => by simp at hx) SeesL.nil (fun x hx => by simp at hx) kl.1 kl.2.1 kl.2.2 (by show _ ≤ (0 : Int) ∧ (0 : Int) ≤ _; omega)).mono ?_
      rintro _ u12 ⟨rfl, h', b'⟩
      replace b := b.trans (b'.b.mono hB1)
      replace hBx := b'.blk (by simp) hBx
      replace h : Nd NAt w1.heap.size (gb :: P) _ g (fzK false (k + 1)) := h'
      clear h' b' 
      go_wp2
      go_roundw
      case rel => exact ⟨k + 1, by omega, by go_num, h, hBx, b⟩
      case measure => simp [intOf]; omega
    · obtain rfl : k = 3 := by omega
      have q0 := sent_nil c1
      go_wp2_with fail
      refine (A.sendB h).mono ?_
      rintro _ u21 ⟨x21, rfl, hx, h', b'⟩
      replace b := b.trans (b'.b.mono hB1)
      rw [q0] at hx
      replace h : Nd NAt w1.heap.size (gb :: P) _ g ((fzK false 3).sendS) := h'
      obtain ⟨A21, c21, rfl, -⟩ := hx.at_
      clear h' b' hx
      go_wp2_with fail
      refine (A.stateB h).mono ?_
      rintro _ u22 ⟨rfl, h', b'⟩
      replace b := b.trans (b'.b.mono hB1)
      replace h : Nd NAt w1.heap.size (gb :: P) _ g ((fzK false 3).sendS) := h'
      clear h' b' 
      rw [c2]
      go_wp2_with fail
      refine (known_nd A _).mono ?_
      rintro _ wk ⟨rfl, bk⟩
      replace bk := b.trans (bk.mono b.size)
      go_wp2
      go_ret
      exact ⟨rfl, bk⟩
set_option maxRecDepth 100000 in
set_option maxHeartbeats 2000000 in
theorem freezes_true {NAt : List Nat → World → Nat → NM → Prop} (A : NodeApi NAt) (w : World) :
    Calls Tryz.prog 8 #[.bool true] w fun e w' => e = .returned (.bool true) ∧ Below w.heap.size w w' := by
  obtain ⟨a1, a2, a3, a4, a5⟩ := fz_a
  have hb := fz_b true
  obtain ⟨c1, c2⟩ := fz_c true
  have hfe := fz_e
  have HS := fun W => Lib.hid (some_nd 4 0 (by omega) (by omega) W)
  go_enter Tryz.func8, Tryz.ntmps8
  go_wp2_with fail
  refine (HS _).out.mono ?_
  rintro _ w1 ⟨v, rfl, ho, b⟩
  have hv := ho.sees
  have hB1 := b.size
  have hm := may_some 4 0 0 0 [] (by omega) (by omega) (by omega) (by omega) (by simp) (by simp)
  clear ho HS
  go_wp2_with fail
  refine (A.newB (smnT 4 0) v _ 0 0 [] w1 hv SeesRs.nil hm).mono ?_
  rintro _ w2 ⟨g, rfl, h, b'⟩
  replace b := b.trans (b'.mono b.size)
  clear hv hm b'
  go_wp2_with fail
  refine (A.onB 0 h).mono ?_
  rintro _ wo ⟨rfl, h', b'⟩
  replace b := b.trans (b'.b.mono hB1)
  rw [show NM.onE _ 0 = 0 from rfl]
  replace h : Nd NAt w1.heap.size [] _ g fz0 := h'
  clear h' b' 
  have HE := fun W => Lib.hid (encode_ref fzF (.slice none 0 0) W SeesL.nil (fun x hx => by simp [fzF] at hx))
  go_wp2_with fail
  refine (HE _).out.mono ?_
  rintro _ w4 ⟨v4, rfl, ho4, b4⟩
  have h4 := A.ndOwn h b4 ho4
  replace b := b.trans (b4.mono b.size)
  replace h := h4
  rw [hfe]
  clear HE h4 b4
  have hs4 := ho4.sees
  have hj : ∀ j, v4.ownBlock = some j → j ∈ v4.ownBlock.toList ++ [] ∨ j < w1.heap.size := fun j hj => .inl (by simp [hj])
  generalize v4.ownBlock.toList ++ [] = P at *
  clear ho4
  have hl4 : bytesL (encR fzF) := by
    unfold bytesL
    decide +kernel
  obtain ⟨A4, c4, rfl, -⟩ := hs4.at_
  have hs := Lib.hid hs4
  clear hs4
  go_wp2_with fail
  refine (A.sendB h).mono ?_
  rintro _ u1 ⟨x1, rfl, hx, h', b'⟩
  replace b := b.trans (b'.b.mono hB1)
  have hs := Lib.hid (b'.sees hs.out hj)
  replace h : Nd NAt w1.heap.size P _ g fz1 := h'
  obtain ⟨A1, c1', rfl, -⟩ := hx.at_
  clear h' b' hx
  have hT := fun W (h : Nd NAt w1.heap.size P W g fz1) (hs : SeesL W W.heap.size (.slice A4 (encR fzF).length c4) (encR fzF)) => Lib.hid (A.takeB ⟨2, 0, encR fzF, [], 0⟩ h hs hl4 SeesL.nil (fun x hx => by simp at hx) a2.1 a2.2.1 a2.2.2 (by show _ ≤ (0 : Int) ∧ (0 : Int) ≤ _; omega))
  go_wp2_with fail
  refine (hT _ h hs.out).out.mono ?_
  rintro _ u2 ⟨rfl, h', b'⟩
  replace b := b.trans (b'.b.mono hB1)
  replace h : Nd NAt w1.heap.size P _ g fz2 := h'
  clear h' b' hs hT
  go_wp2_with fail
  refine (A.sendB h).mono ?_
  rintro _ u1 ⟨x1, rfl, hx, h', b'⟩
  replace b := b.trans (b'.b.mono hB1)
  replace h : Nd NAt w1.heap.size P _ g fz3 := h'
  clear h' b' 
  have hp := sent_pos a3
  obtain ⟨A2, c2', rfl, -⟩ := hx.at_
  have z0 : (((fz2.sent.length : Nat) : Int) == 0) = false := by rw [beq_eq_false_iff_ne]; omega
  clear hx
  generalize fz2.sent.length = len2 at *
  go_wp2_with fail
  refine (A.stateB h).mono ?_
  rintro _ u2 ⟨rfl, h', b'⟩
  replace b := b.trans (b'.b.mono hB1)
  replace h : Nd NAt w1.heap.size P _ g fz3 := h'
  clear h' b' 
  rw [a4]
  go_wp2_with fail
  refine (A.silentB h a5.1 a5.2.1 a5.2.2).mono ?_
  rintro _ u3 ⟨rfl, h', b'⟩
  replace b := b.trans (b'.b.mono hB1)
  replace h : Nd NAt w1.heap.size P _ g fz4 := h'
  clear h' b' 
  have HB := fun W (h : Nd NAt w1.heap.size P W g fz4) => A.ndBox h (.cells #[.int .i64 1, .int .i64 0, .slice none 0 0, .slice none 0 0, .int .i64 0] 39)
  go_wp2_with fail
  replace h := HB _ h
  have hBx := Blk.new u3 u3.heap.size rfl #[.int .i64 1, .int .i64 0, .slice none 0 0, .slice none 0 0, .int .i64 0] 39
  replace b := b.alloc b.size (.cells #[.int .i64 1, .int .i64 0, .slice none 0 0, .slice none 0 0, .int .i64 0] 39)
  generalize u3.heap.size = gb at *
  generalize (u3.alloc (.cells #[.int .i64 1, .int .i64 0, .slice none 0 0, .slice none 0 0, .int .i64 0] 39)) = ub at *
  go_loopw [8] (fun i wr => ∃ k : Nat, k ≤ 3 ∧ i = .int .i64 k ∧ Nd NAt w1.heap.size (gb :: P) wr g (fzK true k) ∧ Blk wr gb #[.int .i64 1, .int .i64 0, .slice none 0 0, .slice none 0 0, .int .i64 0] 39 ∧ Below w.heap.size w wr) (fun i _ => 3 - (intOf i).toNat)
  case atStart => exact ⟨0, by omega, rfl, h, hBx, b⟩
  case round =>
    clear h b hBx
    obtain ⟨k, hk, rfl, h, hBx, b⟩ := hrel
    by_cases hlt : k < 3
    · have r1 : decide ((k : Int) < 3) = true := decide_eq_true (by omega)
      obtain ⟨k0, kl⟩ := hb ⟨k, hlt⟩
      have k0 := sent_nil k0
      go_wp2_with fail
      refine (A.sendB h).mono ?_
      rintro _ u11 ⟨x11, rfl, hx, h', b'⟩
      replace b := b.trans (b'.b.mono hB1)
      replace hBx := b'.blk (by simp) hBx
      rw [k0] at hx
      replace h : Nd NAt w1.heap.size (gb :: P) _ g ((fzK true k).sendS) := h'
      obtain ⟨A11, c11, rfl, -⟩ := hx.at_
      clear h' b' hx
      have y0 := hBx.cell 0 (x := .int .i64 1) rfl
      have y1 := hBx.cell 1 (x := .int .i64 0) rfl
      have y2 := hBx.cell 2 (x := .slice none 0 0) rfl
      have y3 := hBx.cell 3 (x := .slice none 0 0) rfl
      have y4 := hBx.cell 4 (x := .int .i64 0) rfl
      go_wp2_with fail
      refine (A.takeB ⟨1, 0, [], [], 0⟩ h SeesL.nil (fun x hx => by simp at hx) SeesL.nil (fun x hx => by simp at hx) kl.1 kl.2.1 kl.2.2 (by show _ ≤ (0 : Int) ∧ (0 : Int) ≤ _; omega)).mono ?_
      rintro _ u12 ⟨rfl, h', b'⟩
      replace b := b.trans (b'.b.mono hB1)
      replace hBx := b'.blk (by simp) hBx
      replace h : Nd NAt w1.heap.size (gb :: P) _ g (fzK true (k + 1)) := h'
      clear h' b' 
      go_wp2
      go_roundw
      case rel => exact ⟨k + 1, by omega, by go_num, h, hBx, b⟩
      case measure => simp [intOf]; omega
    · obtain rfl : k = 3 := by omega
      have q0 := sent_nil c1
      go_wp2_with fail
      refine (A.sendB h).mono ?_
      rintro _ u21 ⟨x21, rfl, hx, h', b'⟩
      replace b := b.trans (b'.b.mono hB1)
      rw [q0] at hx
      replace h : Nd NAt w1.heap.size (gb :: P) _ g ((fzK true 3).sendS) := h'
      obtain ⟨A21, c21, rfl, -⟩ := hx.at_
      clear h' b' hx
      go_wp2_with fail
      refine (A.stateB h).mono ?_
      rintro _ u22 ⟨rfl, h', b'⟩
      replace b := b.trans (b'.b.mono hB1)
      replace h : Nd NAt w1.heap.size (gb :: P) _ g ((fzK true 3).sendS) := h'
      clear h' b' 
      rw [c2]
      go_wp2_with fail
      refine (known_nd A _).mono ?_
      rintro _ wk ⟨rfl, bk⟩
      replace bk := b.trans (bk.mono b.size)
      go_wp2
      go_ret
      exact ⟨rfl, bk⟩
set_option maxRecDepth 100000 in
set_option maxHeartbeats 2000000 in
theorem gwalk_nodeFreezes {NAt : List Nat → World → Nat → NM → Prop} (A : NodeApi NAt) (q : Bool) (w : World) :
    Calls Tryz.prog 8 #[.bool q] w fun e w' => e = .returned (.bool true) ∧ Below w.heap.size w w' := by
  cases q
  · exact freezes_false A w
  · exact freezes_true A w
/-- Of the node that is there. -/
theorem walk_nodeFreezes (q : Bool) (w : World) :
    Calls Tryz.prog 8 #[.bool q] w fun e w' => e = .returned (.bool true) ∧ Below w.heap.size w w' := gwalk_nodeFreezes nodeApi q w

/-! ### THE ROW's STEP around the walk. -/
theorem own_nodeFreezes : ownKnob Tryz.prog.godebug = none := by kernel_rfl
theorem laidOut_nodeFreezes : laidOutB Tryz.prog = true := by kernel_rfl
set_option maxRecDepth 100000 in
theorem lifted_nodeFreezes (os : Os) (started : os.Started) (H : Type) (enc : TypeId × Value → H) :
    ReturnsInHanded {} Tryz.checked os 8 .any (Rows.nodeFreezesSpec.pre6 enc Tryz.prog Tryz.f8 Rows.nodeFreezesRow.domain false) (Rows.nodeFreezesSpec.post enc Tryz.prog Tryz.f8 false true false false) := by
  refine returnsInHanded_of_change (C := Tryz.checked) own_nodeFreezes started (by kernel_rfl) Tryz.func8
    (ChangeSpec.witness6 (enc := enc) (C := Tryz.checked) false ⟨#[], #[.bool false], []⟩ 8 (by kernel_rfl) (by kernel_rfl) (by kernel_rfl) (by kernel_rfl)) ?_
  intro W base args ds gs before hval0 hW hcnd _
  have hval : ∀ (j : Nat) t v, Tryz.f8.params[j]? = some t → args[j]? = some v → Value.okWide Tryz.prog W .any base t v := hval0
  have hW' := hW
  obtain ⟨p, q, hA0, hV, rfl, hfz, hnd⟩ := hW
  have hA : DataW.TrodAll enc Tryz.prog W 0 (fun _ => true) true Tryz.f8.params.toList args.toList ds p := hA0
  rw [Tryz.params8] at hA hval
  obtain ⟨v0, vs0, d0, ds0, p0, q0, hargs, rfl, rfl, h0, r0⟩ := trodAll_cons hA
  obtain ⟨rfl, rfl, rfl⟩ := trodAll_nil r0
  obtain rfl : args = #[v0] := by cases args; simp_all
  obtain ⟨rfl, rfl⟩ := trodVars_none hV
  obtain ⟨a0, rfl, rfl, rfl⟩ := open_bool Tryz.underlying4 (hval 0 4 v0 rfl rfl) h0
  clear hA0 hval0
  refine (walk_nodeFreezes a0 W ).mono fun e W' ⟨he, bel⟩ => ?_
  subst he
  exact ⟨_, rfl, _, _, _, [], _, [], hW', trodAll_mk1 (shut_bool Tryz.underlying4 _), (trodAll_cons_mk (shut_bool Tryz.underlying4 _) trodAll_mk0), rfl, bel.frame _, fun h => by cases h⟩

theorem over_nodeFreezes : Rows.nodeFreezesRow.holds Tryz.pinned (OpenSpec.ofChange Rows.nodeFreezesSpec) :=
  OpenClaim.holds_of_wide 8 Tryz.f8 rfl rfl rfl rfl rfl rfl rfl ⟨rfl, rfl, rfl, rfl, rfl⟩ rfl rfl rfl rfl rfl (by kernel_rfl) Tryz.func8 (by kernel_rfl)
    (of_decide_eq_true (by kernel_rfl)) (by unfold Func.isWrapper; first | (rw [if_pos (by decide +kernel)]; kernel_rfl) | (rw [if_neg (by decide +kernel)]; exact ⟨rfl, rfl⟩))
    (fun os started H enc _ => lifted_nodeFreezes os started H enc)

theorem proved_nodeFreezes : Rows.NodeFreezesSaid := over_nodeFreezes
end Go.Proofs.YtfakibajipmkjaaGreat
