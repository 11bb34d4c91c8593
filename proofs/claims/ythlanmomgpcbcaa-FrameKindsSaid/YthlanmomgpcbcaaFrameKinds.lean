/- FrameKinds holds: the three kinds' bytes are never one another's. For all states and bytes. -/
import Derived.Test.YthlanmomgpcbcaaFrP
namespace Go.Proofs.Ythlanmomgpcbcaa
open Go.ChangeShapes Go.WideShapes Go.ChangeAt Go.RowKit
open Go.ChangeMaps (open_string shut_string)
open Fr (St F)

theorem textL_size (l : List Int) : (textL l).size = l.length := by
  have := congrArg List.length (textL_data l ByteArray.empty)
  rw [List.length_append, List.length_map] at this
  show (textL l).data.size = _
  rw [← Array.length_toList]
  exact this.trans (Nat.zero_add _)
theorem bytes_first (k : Int) (s : St) (d : List Int) : (F.bytes ⟨k, s, d⟩).getD 0 0 = k := by
  by_cases h : k = 1
  · rw [F.bytes_normal (f := ⟨k, s, d⟩) h, h]; rfl
  · rw [F.bytes_told (f := ⟨k, s, d⟩) h]; rfl
/-- A new block of three texts, and what reads it. -/
structure Arr (W : World) (g : Nat) (t0 t1 t2 : ByteArray) : Prop where
  lt : g < W.heap.size
  c0 : W.cell? ⟨g, 0, none⟩ = some (.string t0)
  c1 : W.cell? ⟨g, 1, none⟩ = some (.string t1)
  c2 : W.cell? ⟨g, 2, none⟩ = some (.string t2)
  fz : ∀ i, W.frozen? ⟨g, i, none⟩ = false
theorem Arr.keep {W W' : World} {g : Nat} {t0 t1 t2 : ByteArray} (h : Arr W g t0 t1 t2) (hb : Below W.heap.size W W') : Arr W' g t0 t1 t2 := by
  have hc := bcell hb
  have hlt := h.lt
  exact ⟨by have := hb.size; omega, (hc _ _ hlt).trans h.c0, (hc _ _ hlt).trans h.c1, (hc _ _ hlt).trans h.c2, fun i => by rw [← h.fz i]; exact hb.frozen (p := ⟨g, i, none⟩) hlt⟩
theorem Arr.set0 {W : World} {g : Nat} {t0 t1 t2 : ByteArray} (h : Arr W g t0 t1 t2) (t : ByteArray) : Arr (W.setCell ⟨g, 0, none⟩ (.string t)) g t t1 t2 :=
  ⟨by have := h.lt; simpa [World.setCell] using this, World.cell?_setCell_same _ _ _ h.c0, (World.cell?_setCell_other _ _ _ _ (by simp)).trans h.c1, (World.cell?_setCell_other _ _ _ _ (by simp)).trans h.c2, fun i => by rw [World.frozen?_setCell]; exact h.fz i⟩
theorem Arr.set1 {W : World} {g : Nat} {t0 t1 t2 : ByteArray} (h : Arr W g t0 t1 t2) (t : ByteArray) : Arr (W.setCell ⟨g, 1, none⟩ (.string t)) g t0 t t2 :=
  ⟨by have := h.lt; simpa [World.setCell] using this, (World.cell?_setCell_other _ _ _ _ (by simp)).trans h.c0, World.cell?_setCell_same _ _ _ h.c1, (World.cell?_setCell_other _ _ _ _ (by simp)).trans h.c2, fun i => by rw [World.frozen?_setCell]; exact h.fz i⟩
theorem Arr.set2 {W : World} {g : Nat} {t0 t1 t2 : ByteArray} (h : Arr W g t0 t1 t2) (t : ByteArray) : Arr (W.setCell ⟨g, 2, none⟩ (.string t)) g t0 t1 t :=
  ⟨by have := h.lt; simpa [World.setCell] using this, (World.cell?_setCell_other _ _ _ _ (by simp)).trans h.c0, (World.cell?_setCell_other _ _ _ _ (by simp)).trans h.c1, World.cell?_setCell_same _ _ _ h.c2, fun i => by rw [World.frozen?_setCell]; exact h.fz i⟩

set_option maxRecDepth 100000 in
set_option maxHeartbeats 8000000 in
theorem walk_frameKinds0 (s : St) (v : Value) (l : List Int) (w : World) (hv : SeesL w w.heap.size v l) (hl : bytesL l) (hlong : l.length ≤ 140737488351232) :
    Calls Try.prog 13 #[stV s, v] w fun e w' => e = .returned (.bool true) ∧ Below w.heap.size w w' := by
  have R4 := fun W => Lib.hid (may_ref s W)
  obtain ⟨A, c, rfl, c1, c2, -, -⟩ := hv.at_
  cases hm : s.may
  · rw [hm] at R4
    unfold stV at R4 ⊢
    clear hm
    go_enter Try.func13, Try.ntmps13
    go_wp2_with fail
    refine (R4 _).out.mono ?_
    rintro e w1 ⟨rfl, hb⟩
    have hb := ((Below.refl w.heap.size w).alloc (Nat.le_refl _) _).trans (hb.mono (by simp))
    go_wp2
    go_ret
    exact ⟨rfl, hb⟩
  rw [hm] at R4
  by_cases h8 : 8 < l.length
  · have q1 : decide ((8 : Int) < (l.length : Nat)) = true := by simp; omega
    unfold stV at R4 ⊢
    clear hm
    go_enter Try.func13, Try.ntmps13
    go_wp2_with fail
    refine (R4 _).out.mono ?_
    rintro e w1 ⟨rfl, hb⟩
    have hb := ((Below.refl w.heap.size w).alloc (Nat.le_refl _) _).trans (hb.mono (by simp))
    go_wp2
    go_ret
    exact ⟨rfl, hb⟩
  have q1 : decide ((8 : Int) < (l.length : Nat)) = false := by simp; omega
  have hi : ∀ k : Int, 1 ≤ k → k ≤ 3 → F.is ⟨k, s, l⟩ = true := fun k h1 h3 => (F.is_iff _).2 ⟨⟨h1, h3⟩, hm, by simp only; omega⟩
  have R1 := fun (k : Int) (h1 : 1 ≤ k) (h3 : k ≤ 3) W (hb : Below w.heap.size w W) => (encode_dev ⟨k, s, l⟩ _ W ((hv.below hb).more hb.size) hl).mono (R' := fun e w' => (∃ v', e = .returned (.tuple #[v', .int .i64 0]) ∧ OwnsL w' W.heap.size v' (F.bytes ⟨k, s, l⟩)) ∧ Below W.heap.size W w') fun e w' h => by
    obtain ⟨v', he, ho, hb'⟩ := h
    rw [(encR_is (hi k h1 h3)).1] at ho
    rw [(encR_is (hi k h1 h3)).2] at he
    exact ⟨⟨v', he, ho⟩, hb'⟩
  have n1 : (F.bytes ⟨1, s, l⟩).length = l.length + 4 := by rw [F.bytes_length]; simp [F.hl]; omega
  have n2 : (F.bytes ⟨2, s, l⟩).length = l.length + 8 := by rw [F.bytes_length]; simp [F.hl]; omega
  have n3 : (F.bytes ⟨3, s, l⟩).length = l.length + 8 := by rw [F.bytes_length]; simp [F.hl]; omega
  have g1 := bytes_first 1 s l
  have g2 := bytes_first 2 s l
  have g3 := bytes_first 3 s l
  have b1 : bytesL (F.bytes ⟨1, s, l⟩) := F.bytes_ok (hi 1 (by omega) (by omega)) hl
  have b2 : bytesL (F.bytes ⟨2, s, l⟩) := F.bytes_ok (hi 2 (by omega) (by omega)) hl
  have b3 : bytesL (F.bytes ⟨3, s, l⟩) := F.bytes_ok (hi 3 (by omega) (by omega)) hl
  have Q1 := fun W hb => R1 1 (by omega) (by omega) W hb
  have Q2 := fun W hb => R1 2 (by omega) (by omega) W hb
  have Q3 := fun W hb => R1 3 (by omega) (by omega) W hb
  unfold frV at Q1 Q2 Q3
  unfold stV at R4 ⊢
  simp only at Q1 Q2 Q3
  clear R1 hi hm hv
  generalize F.bytes ⟨1, s, l⟩ = L1 at *
  generalize F.bytes ⟨2, s, l⟩ = L2 at *
  generalize F.bytes ⟨3, s, l⟩ = L3 at *
  have e12 : ¬ textL L1 = textL L2 := fun e => by
    rw [textL_inj b1 b2 e, g2] at g1; cases g1
  have e23 : ¬ textL L2 = textL L3 := fun e => by
    rw [textL_inj b2 b3 e, g3] at g2; cases g2
  have s1 := textL_size L1
  have s2 := textL_size L2
  have s3 := textL_size L3
  have P1 := fun W hb => Lib.hid (Q1 W hb)
  have P2 := fun W hb => Lib.hid (Q2 W hb)
  have P3 := fun W hb => Lib.hid (Q3 W hb)
  clear Q1 Q2 Q3 b1 b2 b3
  go_enter Try.func13, Try.ntmps13
  go_wp2_with fail
  have hbox := Lib.hid (box3 w (.int .i64 s.r) (.int .i64 s.s) (.int .i64 s.m) 23)
  generalize w.alloc (.cells #[.int .i64 s.r, .int .i64 s.s, .int .i64 s.m] 23) = w0 at *
  refine (R4 _).out.mono ?_
  rintro e w1 ⟨rfl, hb1⟩
  clear R4
  go_wp2_with fail
  have hA : Arr (w1.alloc (.cells #[.string ⟨#[]⟩, .string ⟨#[]⟩, .string ⟨#[]⟩] 47)) w1.heap.size ⟨#[]⟩ ⟨#[]⟩ ⟨#[]⟩ := by
    refine ⟨by simp, ?_, ?_, ?_, fun i => World.frozen?_alloc_new _ _ _ _⟩ <;> (rw [World.cell?_alloc_at _ _ _ _ rfl]; rfl)
  have hbX := hb1.alloc hb1.size (.cells #[.string ⟨#[]⟩, .string ⟨#[]⟩, .string ⟨#[]⟩] 47)
  have hgz := hb1.size
  generalize w1.alloc (.cells #[.string ⟨#[]⟩, .string ⟨#[]⟩, .string ⟨#[]⟩] 47) = X at *
  generalize w1.heap.size = g at *
  clear hb1
  go_loopw [6] (fun i wr => Below w0.heap.size w0 wr ∧ ((i = .int .i64 0 ∧ Arr wr g ⟨#[]⟩ ⟨#[]⟩ ⟨#[]⟩) ∨ (i = .int .i64 1 ∧ Arr wr g (textL L1) ⟨#[]⟩ ⟨#[]⟩) ∨ (i = .int .i64 2 ∧ Arr wr g (textL L1) (textL L2) ⟨#[]⟩) ∨ (i = .int .i64 3 ∧ Arr wr g (textL L1) (textL L2) (textL L3)))) (fun i _ => (3 - intOf i).toNat)
  case atStart => exact ⟨hbX, .inl ⟨rfl, hA⟩⟩
  case round =>
    clear hA hbX
    obtain ⟨hbel, hr⟩ := hrel
    obtain ⟨-, o0, o1, o2⟩ := hbox.out.cell wr hbel
    rcases hr with ⟨rfl, hA⟩ | ⟨rfl, hA⟩ | ⟨rfl, hA⟩ | ⟨rfl, hA⟩
    · go_wp2_with fail
      refine (P1 wr (hbox.out.below.trans (hbel.mono (by have := hbox.out.size; omega)))).out.mono ?_
      rintro e wa ⟨⟨va, rfl, hoa⟩, hba⟩
      have hbel2 := hbel.trans (hba.mono hbel.size)
      have hA2 := hA.keep hba
      have tx := run_textL hoa.sees
      obtain ⟨Aa, da, rfl, -, -, hsee, -⟩ := hoa.sees.at_
      obtain ⟨bb, off, rfl, hbb, hcell⟩ := hsee (by omega)
      have k0 : wa.cell? ⟨bb, off, none⟩ = some (.int .u8 1) := by
        have := hcell 0 (by omega)
        unfold bv at this
        rwa [g1] at this
      have d0 := hA2.c0
      have z0 := hA2.fz 0
      have hA2 := Lib.hid hA2
      rw [n1] at tx
      have q0 : ((l.length : Int) + 4 == 0) = false := by simp; omega
      have q2 : (0 : Int) < (l.length : Int) + 4 := by omega
      clear hA hoa hsee hcell hba P1 P2 P3 e12 e23 s1 s2 s3 g1 g2 g3
      go_wp2_with fail
      go_roundw
      case rel => exact ⟨hbel2.setCell hgz _, .inr (.inl ⟨by go_num, hA2.out.set0 _⟩)⟩
      case measure => simp [intOf]
    · go_wp2_with fail
      refine (P2 wr (hbox.out.below.trans (hbel.mono (by have := hbox.out.size; omega)))).out.mono ?_
      rintro e wa ⟨⟨va, rfl, hoa⟩, hba⟩
      have hbel2 := hbel.trans (hba.mono hbel.size)
      have hA2 := hA.keep hba
      have tx := run_textL hoa.sees
      obtain ⟨Aa, da, rfl, -, -, hsee, -⟩ := hoa.sees.at_
      obtain ⟨bb, off, rfl, hbb, hcell⟩ := hsee (by omega)
      have k0 : wa.cell? ⟨bb, off, none⟩ = some (.int .u8 2) := by
        have := hcell 0 (by omega)
        unfold bv at this
        rwa [g2] at this
      have d0 := hA2.c1
      have z0 := hA2.fz 1
      have hA2 := Lib.hid hA2
      rw [n2] at tx
      have q0 : ((l.length : Int) + 8 == 0) = false := by simp; omega
      have q2 : (0 : Int) < (l.length : Int) + 8 := by omega
      clear hA hoa hsee hcell hba P1 P2 P3 e12 e23 s1 s2 s3 g1 g2 g3
      go_wp2_with fail
      go_roundw
      case rel => exact ⟨hbel2.setCell hgz _, .inr (.inr (.inl ⟨by go_num, hA2.out.set1 _⟩))⟩
      case measure => simp [intOf]
    · go_wp2_with fail
      refine (P3 wr (hbox.out.below.trans (hbel.mono (by have := hbox.out.size; omega)))).out.mono ?_
      rintro e wa ⟨⟨va, rfl, hoa⟩, hba⟩
      have hbel2 := hbel.trans (hba.mono hbel.size)
      have hA2 := hA.keep hba
      have tx := run_textL hoa.sees
      obtain ⟨Aa, da, rfl, -, -, hsee, -⟩ := hoa.sees.at_
      obtain ⟨bb, off, rfl, hbb, hcell⟩ := hsee (by omega)
      have k0 : wa.cell? ⟨bb, off, none⟩ = some (.int .u8 3) := by
        have := hcell 0 (by omega)
        unfold bv at this
        rwa [g3] at this
      have d0 := hA2.c2
      have z0 := hA2.fz 2
      have hA2 := Lib.hid hA2
      rw [n3] at tx
      have q0 : ((l.length : Int) + 8 == 0) = false := by simp; omega
      have q2 : (0 : Int) < (l.length : Int) + 8 := by omega
      clear hA hoa hsee hcell hba P1 P2 P3 e12 e23 s1 s2 s3 g1 g2 g3
      go_wp2_with fail
      go_roundw
      case rel => exact ⟨hbel2.setCell hgz _, .inr (.inr (.inr ⟨by go_num, hA2.out.set2 _⟩))⟩
      case measure => simp [intOf]
    · have d0 := hA.c0
      have d1 := hA.c1
      have d2 := hA.c2
      clear P1 P2 P3 g1 g2 g3
      have y1 : ((textL L1).toList == (textL L2).toList) = false := by
        rw [beq_eq_false_iff_ne]
        intro h
        rw [ByteArray.toList_eq, ByteArray.toList_eq] at h
        exact e12 (ByteArray.ext (Array.toList_inj.1 h))
      have y2 : ((textL L2).toList == (textL L3).toList) = false := by
        rw [beq_eq_false_iff_ne]
        intro h
        rw [ByteArray.toList_eq, ByteArray.toList_eq] at h
        exact e23 (ByteArray.ext (Array.toList_inj.1 h))
      go_wp2_with (go_at_call 22; refine (knownFr_any _).mono ?_; rintro e wf ⟨rfl, hb6⟩)
      go_ret
      have hb7 := hbox.out.below.trans (hbel.mono (by have := hbox.out.size; omega))
      exact ⟨by simp [*], hb7.trans (hb6.mono hb7.size)⟩
theorem walk_frameKinds (o : St) (A : Option Addr) (n c : Nat) (z : Nat → Int) (w : World) (_ho : InState o) (h : InBytesN w A n c z) :
    Calls Try.prog 13 #[stV o, .slice A n c] w fun e w' => e = .returned (.bool true) ∧ Below w.heap.size w w' := by
  obtain ⟨hv, hd⟩ := h.list
  exact walk_frameKinds0 o _ _ w hv hd (by rw [lst_length]; exact h.reach)

/-! ### THE ROW's STEP around the walk. -/
theorem own_frameKinds : ownKnob Try.prog.godebug = none := by kernel_rfl
theorem laidOut_frameKinds : laidOutB Try.prog = true := by kernel_rfl
set_option maxRecDepth 100000 in
theorem lifted_frameKinds (os : Os) (started : os.Started) (H : Type) (enc : TypeId × Value → H) :
    ReturnsInHanded {} Try.checked os 13 .any (Rows.frameKindsSpec.pre6 enc Try.prog Try.f13 Rows.frameKindsRow.domain false) (Rows.frameKindsSpec.post enc Try.prog Try.f13 false true false false) := by
  refine returnsInHanded_of_change_sized (C := Try.checked) own_frameKinds started (by kernel_rfl) Try.func13
    (ChangeSpec.witness6 (enc := enc) (C := Try.checked) false ⟨#[], #[.agg #[.int .i64 0, .int .i64 0, .int .i64 0], .slice none 0 0], []⟩ 8 (by kernel_rfl) (by kernel_rfl) (by kernel_rfl) (by kernel_rfl)) ?_
  intro W base args ds gs before hval0 hW hcnd hsz0 _
  have hval : ∀ (j : Nat) t v, Try.f13.params[j]? = some t → args[j]? = some v → Value.okWide Try.prog W .any base t v := hval0
  have hW' := hW
  obtain ⟨p, q, hA0, hV, rfl, hfz, hnd⟩ := hW
  have hA : DataW.TrodAll enc Try.prog W 0 (fun _ => true) true Try.f13.params.toList args.toList ds p := hA0
  have hsz : (DataW.weightsEach Try.prog (Try.f13.params.toList ++ Rows.frameKindsSpec.plain.varTypes Try.prog) (ds ++ gs)).all (· ≤ reachBytes) = true := hsz0
  rw [Try.params13] at hA hval hsz
  obtain ⟨v0, vs0, d0, ds0, p0, q0, hargs, rfl, rfl, h0, r0⟩ := trodAll_cons hA
  obtain ⟨v1, vs1, d1, ds1, p1, q1, rfl, rfl, rfl, h1, r1⟩ := trodAll_cons r0
  obtain ⟨rfl, rfl, rfl⟩ := trodAll_nil r1
  obtain rfl : args = #[v0, v1] := by cases args; simp_all
  obtain ⟨rfl, rfl⟩ := trodVars_none hV
  obtain ⟨y0, rfl, s0⟩ := sees_state Try.underlying23 (by kernel_rfl) ⟨rfl, rfl⟩ ⟨rfl, rfl⟩ ⟨rfl, rfl⟩ Try.underlying3 (by kernel_rfl) (hval 0 23 v0 rfl rfl) h0
  have k0 := h0
  have lt0 : ∀ x ∈ p0, x.block < W.heap.size := by obtain ⟨m, hm⟩ := k0; exact DataW.trod_lt m _ _ _ hm
  obtain ⟨A1, n1, c1, rfl⟩ := okWide_slice Try.underlying24 (hval 1 24 v1 rfl rfl)
  have k1 := h1
  have lt1 : ∀ x ∈ p1, x.block < W.heap.size := by obtain ⟨m, hm⟩ := k1; exact DataW.trod_lt m _ _ _ hm
  obtain ⟨z1, s1⟩ := sees_bytesn Try.underlying24 Try.underlying5 (by kernel_rfl) h1 (by kernel_rfl) (fun _ _ hd => sized_slice hsz (j := 1) (t := 24) (e := 5) rfl (congrArg some hd) Try.underlying24)
  clear hA0 hval0
  refine (walk_frameKinds y0 A1 n1 c1 z1 W s0 s1).mono fun e W' ⟨he, bel⟩ => ?_
  subst he
  exact ⟨_, rfl, _, _, _, [], _, [], hW', trodAll_mk1 (shut_bool Try.underlying4 _), (trodAll_cons_mk (Below.trod laidOut_frameKinds (by kernel_rfl) (of_decide_eq_true (by kernel_rfl)) k0 bel lt0) (trodAll_cons_mk (Below.trod laidOut_frameKinds (by kernel_rfl) (of_decide_eq_true (by kernel_rfl)) k1 bel lt1) trodAll_mk0)), rfl, bel.frame _, fun h => by cases h⟩

theorem over_frameKinds : Rows.frameKindsRow.holds Try.pinned (OpenSpec.ofChange Rows.frameKindsSpec) :=
  OpenClaim.holds_of_wide 13 Try.f13 rfl rfl rfl rfl rfl rfl rfl ⟨rfl, rfl, rfl, rfl, rfl⟩ rfl rfl rfl rfl rfl (by kernel_rfl) Try.func13 (by kernel_rfl)
    (of_decide_eq_true (by kernel_rfl)) (by unfold Func.isWrapper; first | (rw [if_pos (by decide +kernel)]; kernel_rfl) | (rw [if_neg (by decide +kernel)]; exact ⟨rfl, rfl⟩))
    (fun os started H enc _ => lifted_frameKinds os started H enc)

theorem proved_frameKinds : Rows.FrameKindsSaid := over_frameKinds
end Go.Proofs.Ythlanmomgpcbcaa
