/- StarFaults holds: faults that may not be are refused. For all arguments. -/
import Derived.Test.YtmlnkkalajnjhaaSB32
namespace Go.Proofs.Ytmlnkkalajnjhaa
open Go.ChangeShapes Go.WideShapes Go.ChangeAt Go.RowKit

/-- The cells of n faults, the first k of them Omit. -/
def fcs (n k : Nat) : Array Value := ((List.range n).flatMap fun i => [.int .i64 (if i < k then 1 else 0), .int .i64 0, .int .i64 0, .slice none 0 0]).toArray
theorem infoFault : (Try.prog.info? 34).map (fun i => (i.zero, i.size)) = some (some (.agg #[.int .i64 0, .int .i64 0, .int .i64 0, .slice none 0 0]), 4) := by kernel_rfl
theorem infoFaultB : (Try.prog.info? 34).map (fun i => decide (i.bytes ≤ 100)) = some true := by kernel_rfl
theorem made4 (n : Nat) (hn : n ≤ 8) : madeCells (Value.agg #[.int .i64 0, .int .i64 0, .int .i64 0, .slice none 0 0]).cells (n * 4) = fcs n 0 := by
  rcases (by omega : n = 0 ∨ n = 1 ∨ n = 2 ∨ n = 3 ∨ n = 4 ∨ n = 5 ∨ n = 6 ∨ n = 7 ∨ n = 8) with rfl | rfl | rfl | rfl | rfl | rfl | rfl | rfl | rfl <;> kernel_rfl
theorem run_makeF (n : Nat) (hn : n ≤ 8) (w : World) : (Instr.makeSlice 35 (.int .i64 (n : Int)) (.int .i64 (n : Int))).run Try.prog w = .ok (.slice (some ⟨w.heap.size, 0, none⟩) n n) (w.alloc (.cells (fcs n 0) 34)) := by
  have h1 := infoFault
  have h2 := infoFaultB
  cases hi : Try.prog.info? 34 with
  | none => rw [hi] at h1; simp at h1
  | some i =>
    rw [hi] at h1 h2
    simp only [Option.map_some, Option.some.injEq, Prod.mk.injEq, decide_eq_true_eq] at h1 h2
    have hb : (i.bytes : Int) * (n : Int) ≤ 281474976710656 := by
      have : i.bytes * n ≤ 100 * 8 := Nat.mul_le_mul h2 hn
      have h : ((i.bytes * n : Nat) : Int) ≤ 281474976710656 := by omega
      rwa [Int.natCast_mul] at h
    have hr := run_make (P := Try.prog) w 35 34 i _ Try.underlying35 hi h1.1 .i64 .i64 n n (by omega) (by omega) hb (by omega)
    simp only [Int.toNat_natCast] at hr
    rw [hr, h1.2, made4 n hn]
theorem fcs_get (n k i : Nat) (hn : n ≤ 8) (hk : k ≤ n) (hi : i < n) : (fcs n k)[i * 4]? = some (.int .i64 (if i < k then 1 else 0)) ∧ (fcs n k)[i * 4 + 1]? = some (.int .i64 0) ∧ (fcs n k)[i * 4 + 2]? = some (.int .i64 0) ∧ (fcs n k)[i * 4 + 3]? = some (.slice none 0 0) := by
  have key : ∀ (l : List Nat) (f : Nat → Value) (i : Nat) (x : Nat), l[i]? = some x → (l.flatMap fun i => [f i, .int .i64 0, .int .i64 0, .slice none 0 0])[i * 4]? = some (f x) ∧ (l.flatMap fun i => [f i, .int .i64 0, .int .i64 0, .slice none 0 0])[i * 4 + 1]? = some (.int .i64 0) ∧ (l.flatMap fun i => [f i, .int .i64 0, .int .i64 0, .slice none 0 0])[i * 4 + 2]? = some (.int .i64 0) ∧ (l.flatMap fun i => [f i, .int .i64 0, .int .i64 0, .slice none 0 0])[i * 4 + 3]? = some (.slice none 0 0) := by
    intro l f
    induction l with
    | nil => intro i x h; simp at h
    | cons y l ih =>
      intro i x h
      cases i with
      | zero => simp at h; subst h; simp
      | succ i =>
        have := ih i x (by simpa using h)
        rw [show (i + 1) * 4 = i * 4 + 4 by omega]
        simpa [List.flatMap_cons] using this
  have := key (List.range n) (fun i => .int .i64 (if i < k then 1 else 0)) i i (by simp [hi])
  simpa [fcs] using this
theorem fcs_set (n k : Nat) (hn : n ≤ 8) (hk : k < n) : ((((fcs n k).setIfInBounds (k * 4) (.int .i64 1)).setIfInBounds (k * 4 + 1) (.int .i64 0)).setIfInBounds (k * 4 + 2) (.int .i64 0)).setIfInBounds (k * 4 + 3) (.slice none 0 0) = fcs n (k + 1) := by
  rcases (by omega : n = 1 ∨ n = 2 ∨ n = 3 ∨ n = 4 ∨ n = 5 ∨ n = 6 ∨ n = 7 ∨ n = 8) with rfl | rfl | rfl | rfl | rfl | rfl | rfl | rfl <;>
    rcases (by omega : k = 0 ∨ k = 1 ∨ k = 2 ∨ k = 3 ∨ k = 4 ∨ k = 5 ∨ k = 6 ∨ k = 7) with rfl | rfl | rfl | rfl | rfl | rfl | rfl | rfl <;> first | omega | kernel_rfl
theorem omits_is (n : Nat) (hn : n ≤ 8) : ftIs (List.replicate n ⟨1, 0, 0, []⟩) = decide (n ≤ 4) := by
  rcases (by omega : n = 0 ∨ n = 1 ∨ n = 2 ∨ n = 3 ∨ n = 4 ∨ n = 5 ∨ n = 6 ∨ n = 7 ∨ n = 8) with rfl | rfl | rfl | rfl | rfl | rfl | rfl | rfl | rfl <;> decide
theorem omits_sees (n b : Nat) (hn : n ≤ 8) (W : World) (h : Blk W b (fcs n n) 34) : SeesF W W.heap.size (.slice (some ⟨b, 0, none⟩) n n) (List.replicate n ⟨1, 0, 0, []⟩) :=
  ⟨⟨_, n, by simp, by simp, by simp [maxLen]; omega, fun _ => ⟨b, 0, rfl, h.lt, fun i hi => by
    simp only [List.length_replicate] at hi
    obtain ⟨c0, c1, c2, c3⟩ := fcs_get n n i hn (Nat.le_refl _) hi
    rw [if_pos hi] at c0
    have e : (List.replicate n (⟨1, 0, 0, []⟩ : Ft)).getD i default = ⟨1, 0, 0, []⟩ := by simp [List.getD_eq_getElem?_getD, hi]
    rw [e, Nat.zero_add]
    exact ⟨h.cell _ c0, h.cell _ c1, h.cell _ c2, _, h.cell _ c3, SeesL.nil⟩⟩⟩, fun f hf => by rw [List.eq_of_mem_replicate hf]; exact fun x hx => by cases hx⟩
set_option maxRecDepth 100000 in
set_option maxHeartbeats 4000000 in
theorem core_starFaults (f : Ft) (A : Option Addr) (c : Nat) (n : Int) (w : World) (hv : SeesL w w.heap.size (.slice A f.d.length c) f.d) (hl : bytesL f.d) :
    Calls Try.prog 7 #[.agg #[.int .i64 f.k, .int .i64 f.n, .int .i64 f.a, .slice A f.d.length c], .int .i64 n] w fun e w' => e = .returned (.bool true) ∧ Below w.heap.size w w' := by
  have X := Blk.new w w.heap.size rfl #[.int .i64 f.k, .int .i64 f.n, .int .i64 f.a, .slice A f.d.length c] 34
  have hb0 := (Below.refl w.heap.size w).alloc (Nat.le_refl _) (.cells #[.int .i64 f.k, .int .i64 f.n, .int .i64 f.a, .slice A f.d.length c] 34)
  by_cases call : f.d.length ≤ 100 ∧ 0 ≤ n ∧ n ≤ 8
  case neg =>
    have x3 := X.cell 3 (x := .slice A f.d.length c) rfl
    go_enter Try.func7, Try.ntmps7
    go_wp2
    all_goals first
      | (exfalso; omega)
      | (go_ret; exact ⟨rfl, hb0⟩)
      | skip
  obtain ⟨d100, n0, n8⟩ := call
  obtain ⟨N, rfl⟩ : ∃ t : Nat, n = t := ⟨n.toNat, by omega⟩
  have q1 : decide ((100 : Int) < ((f.d.length : Nat) : Int)) = false := decide_eq_false (by omega)
  have q2 : decide (((N : Nat) : Int) < 0) = false := decide_eq_false (by omega)
  have q3 : decide ((8 : Int) < ((N : Nat) : Int)) = false := decide_eq_false (by omega)
  have hKn := fun W => Lib.hid (known_sr W)
  have hMay := fun W => Lib.hid (may_srr f.k f.n f.a A f.d.length c W)
  have hIf : ∀ W v, SeesF W W.heap.size v [f] → Hid (Calls Try.prog 18 #[v] W fun e w' => e = .returned (.bool f.may) ∧ Below W.heap.size W w') := fun W v h => Lib.hid (by
    have := is_sr v [f] W h
    rwa [show ftIs [f] = f.may by simp [ftIs]] at this)
  have hIl : ∀ W b, Blk W b (fcs N N) 34 → Hid (Calls Try.prog 18 #[.slice (some ⟨b, 0, none⟩) N N] W fun e w' => e = .returned (.bool (decide (N ≤ 4))) ∧ Below W.heap.size W w') := fun W b h => Lib.hid (by
    have := is_sr _ _ W (omits_sees N b (by omega) W h)
    rwa [omits_is N (by omega)] at this)
  change ∀ W, Hid (Calls _ _ _ _ fun e w' => e = .returned (.bool f.may) ∧ _) at hMay
  have hmk := run_makeF N (by omega) (w.alloc (.cells #[.int .i64 f.k, .int .i64 f.n, .int .i64 f.a, .slice A f.d.length c] 34))
  have x3 := X.cell 3 (x := .slice A f.d.length c) rfl
  go_enter Try.func7, Try.ntmps7
  go_wp2_with fail
  have b0lt := X.lt
  have hzb : (w.alloc (.cells #[.int .i64 f.k, .int .i64 f.n, .int .i64 f.a, .slice A f.d.length c] 34)).heap.size = w.heap.size + 1 := by simp
  have Y := Blk.new (w.alloc (.cells #[.int .i64 f.k, .int .i64 f.n, .int .i64 f.a, .slice A f.d.length c] 34)) (w.heap.size + 1) (by simp) (fcs N 0) 34
  have X2 := X.alloc (.cells (fcs N 0) 34)
  have hb2 := hb0.alloc (by simp) (.cells (fcs N 0) 34)
  clear X hmk x3 hb0 b0lt hzb
  generalize (w.alloc (.cells #[.int .i64 f.k, .int .i64 f.n, .int .i64 f.a, .slice A f.d.length c] 34)).alloc (.cells (fcs N 0) 34) = w2 at *
  go_loopw [6] (fun i wr => ∃ j : Nat, j ≤ N ∧ i = .int .i64 j ∧ Blk wr (w.heap.size + 1) (fcs N j) 34 ∧ Blk wr w.heap.size #[.int .i64 f.k, .int .i64 f.n, .int .i64 f.a, .slice A f.d.length c] 34 ∧ Below w.heap.size w wr) (fun i _ => N - (intOf i).toNat)
  case atStart => exact ⟨0, by omega, rfl, Y, X2, hb2⟩
  case round =>
    clear Y X2 hb2
    obtain ⟨j, hj, rfl, Y, X, hb⟩ := hrel
    by_cases hlt : j < N
    · have r1 : decide ((j : Int) < (N : Nat)) = true := by simp; omega
      obtain ⟨y0, y1, y2, y3⟩ := fcs_get N j j (by omega) hj hlt
      have c0 := Y.cell _ y0
      have c1 := Y.cell _ y1
      have c2 := Y.cell _ y2
      have c3 := Y.cell _ y3
      have g0 := Y.frozen (j * 4)
      have g1 := Y.frozen (j * 4 + 1)
      have g2 := Y.frozen (j * 4 + 2)
      have g3 := Y.frozen (j * 4 + 3)
      have YY := Lib.hid ((((((Y.set (j * 4) (.int .i64 1)).set (j * 4 + 1) (.int .i64 0)).set (j * 4 + 2) (.int .i64 0)).set (j * 4 + 3) (.slice none 0 0))).eq (fcs_set N j (by omega) hlt))
      have hne : w.heap.size ≠ w.heap.size + 1 := by omega
      have XX := Lib.hid ((((X.other ⟨w.heap.size + 1, j * 4, none⟩ hne (.int .i64 1)).other ⟨w.heap.size + 1, j * 4 + 1, none⟩ hne (.int .i64 0)).other ⟨w.heap.size + 1, j * 4 + 2, none⟩ hne (.int .i64 0)).other ⟨w.heap.size + 1, j * 4 + 3, none⟩ hne (.slice none 0 0))
      have BB := Lib.hid ((((hb.setCell (p := ⟨w.heap.size + 1, j * 4, none⟩) (Nat.le_succ _) (.int .i64 1)).setCell (p := ⟨w.heap.size + 1, j * 4 + 1, none⟩) (Nat.le_succ _) (.int .i64 0)).setCell (p := ⟨w.heap.size + 1, j * 4 + 2, none⟩) (Nat.le_succ _) (.int .i64 0)).setCell (p := ⟨w.heap.size + 1, j * 4 + 3, none⟩) (Nat.le_succ _) (.slice none 0 0))
      clear Y X hb y0 y1 y2 y3
      go_wp2_with fail
      go_roundw
      case rel => exact ⟨j + 1, by omega, by go_num, YY.out, XX.out, BB.out⟩
      case measure => simp [intOf]; omega
    · obtain rfl : j = N := by omega
      have r1 : decide ((j : Int) < (j : Nat)) = false := by simp
      have x0 := X.cell 0 (x := .int .i64 f.k) rfl
      have x1 := X.cell 1 (x := .int .i64 f.n) rfl
      have x2 := X.cell 2 (x := .int .i64 f.a) rfl
      have x3 := X.cell 3 (x := .slice A f.d.length c) rfl
      have e1 : (f.may == f.may) = true := by simp
      have e2 : (decide (j ≤ 4) == decide ((j : Int) ≤ 4)) = true := by
        rw [show decide ((j : Int) ≤ 4) = decide (j ≤ 4) from by rw [decide_eq_decide]; omega]; simp
      have hF1 : SeesF (wr.alloc (.cells #[.int .i64 f.k, .int .i64 f.n, .int .i64 f.a, .slice A f.d.length c] 34)).drew (wr.alloc (.cells #[.int .i64 f.k, .int .i64 f.n, .int .i64 f.a, .slice A f.d.length c] 34)).drew.heap.size (.slice (some ⟨wr.heap.size, 0, none⟩) 1 1) [f] := by
        have := (SeesF.one wr wr.heap.size rfl 34 f _ ((hv.below hb).more hb.size) hl).below ((Below.refl _ _).drew)
        exact this.more (by simp)
      have hY1 : Blk (wr.alloc (.cells #[.int .i64 f.k, .int .i64 f.n, .int .i64 f.a, .slice A f.d.length c] 34)).drew (w.heap.size + 1) (fcs j j) 34 := (Y.alloc (.cells #[.int .i64 f.k, .int .i64 f.n, .int .i64 f.a, .slice A f.d.length c] 34)).below (B := (wr.alloc (.cells #[.int .i64 f.k, .int .i64 f.n, .int .i64 f.a, .slice A f.d.length c] 34)).heap.size) ((Below.refl _ _).drew) (Y.alloc (.cells #[.int .i64 f.k, .int .i64 f.n, .int .i64 f.a, .slice A f.d.length c] 34)).lt
      have hB1 : Below w.heap.size w (wr.alloc (.cells #[.int .i64 f.k, .int .i64 f.n, .int .i64 f.a, .slice A f.d.length c] 34)).drew := (hb.alloc hb.size (.cells #[.int .i64 f.k, .int .i64 f.n, .int .i64 f.a, .slice A f.d.length c] 34)).drew
      have hX1 := Lib.hid ((X.alloc (.cells #[.int .i64 f.k, .int .i64 f.n, .int .i64 f.a, .slice A f.d.length c] 34)).below (B := (wr.alloc (.cells #[.int .i64 f.k, .int .i64 f.n, .int .i64 f.a, .slice A f.d.length c] 34)).heap.size) ((Below.refl _ _).drew) (X.alloc (.cells #[.int .i64 f.k, .int .i64 f.n, .int .i64 f.a, .slice A f.d.length c] 34)).lt)
      have S0 : wr.drew.cell? ⟨w.heap.size, 0, none⟩ = some (.int .i64 f.k) ∧ wr.drew.cell? ⟨w.heap.size, 1, none⟩ = some (.int .i64 f.n) ∧ wr.drew.cell? ⟨w.heap.size, 2, none⟩ = some (.int .i64 f.a) ∧ wr.drew.cell? ⟨w.heap.size, 3, none⟩ = some (.slice A f.d.length c) := ⟨x0, x1, x2, x3⟩
      have hJ1 := Lib.hid (hIf (wr.alloc (.cells #[.int .i64 f.k, .int .i64 f.n, .int .i64 f.a, .slice A f.d.length c] 34)).drew _ hF1)
      clear hF1 hv X Y hb hIf
      go_wp2_with fail
      generalize f.may = Q at *
      generalize decide (j ≤ 4) = Q2 at *
      have hY1 := Lib.hid hY1
      have hB1 := Lib.hid hB1
      have HS : ∀ W, Blk W w.heap.size #[.int .i64 f.k, .int .i64 f.n, .int .i64 f.a, .slice A f.d.length c] 34 → W.cell? ⟨w.heap.size, 0, none⟩ = some (.int .i64 f.k) ∧ W.cell? ⟨w.heap.size, 1, none⟩ = some (.int .i64 f.n) ∧ W.cell? ⟨w.heap.size, 2, none⟩ = some (.int .i64 f.a) ∧ W.cell? ⟨w.heap.size, 3, none⟩ = some (.slice A f.d.length c) := fun W h => ⟨h.cell 0 rfl, h.cell 1 rfl, h.cell 2 rfl, h.cell 3 rfl⟩
      have HS := Lib.hid HS
      have S1 := HS.out _ hX1.out
      go_region_held3 (fun W => W.cell? ⟨w.heap.size, 0, none⟩ = some (.int .i64 f.k) ∧ W.cell? ⟨w.heap.size, 1, none⟩ = some (.int .i64 f.n) ∧ W.cell? ⟨w.heap.size, 2, none⟩ = some (.int .i64 f.a) ∧ W.cell? ⟨w.heap.size, 3, none⟩ = some (.slice A f.d.length c))
        ((first | exact S0 | exact S1 | exact S2 | exact S3 | exact S4 | exact S5))
        (first
          | (go_at_call 19; refine (hMay _).out.mono ?_; rintro e wm ⟨rfl, bm⟩; have Ym := Lib.hid (Yf.out.below bm Yf.out.lt); have Bm := Lib.hid (Bf.out.trans (bm.mono Bf.out.size)); have Xm := Lib.hid (Xf.out.below bm Xf.out.lt); have S3 := HS.out wm Xm.out)
          | (go_at_call 16; refine (hKn _).out.mono ?_; rintro e wk ⟨rfl, bk⟩; have Bk := Lib.hid (Bl.out.trans (bk.mono Bl.out.size)); have S5 := HS.out wk (Xl.out.below bk Xl.out.lt))
          | (go_at_call 18; first
            | (refine (hIl _ _ Ym.out).out.mono ?_; rintro e wl ⟨rfl, bl⟩; have Bl := Lib.hid (Bm.out.trans (bl.mono Bm.out.size)); have Xl := Lib.hid (Xm.out.below bl Xm.out.lt); have S4 := HS.out wl Xl.out)
            | (refine hJ1.out.out.mono ?_; rintro e wf ⟨rfl, bf⟩; have Yf := Lib.hid (hY1.out.below bf hY1.out.lt); have Bf := Lib.hid (hB1.out.trans (bf.mono hB1.out.size)); have Xf := Lib.hid (hX1.out.below bf hX1.out.lt); have S2 := HS.out wf Xf.out)
            | fail)
          | fail)
      all_goals
        go_wp2
        go_ret
        exact ⟨rfl, Bk.out⟩
theorem walk_starFaults (f : Ft) (A : Option Addr) (c : Nat) (n : Int) (w : World) (hv : SeesL w w.heap.size (.slice A f.d.length c) f.d) (hl : bytesL f.d) (_h_n : -9223372036854775808 ≤ n ∧ n ≤ 9223372036854775807) :
    Calls Try.prog 7 #[.agg #[.int .i64 f.k, .int .i64 f.n, .int .i64 f.a, .slice A f.d.length c], .int .i64 n] w fun e w' => e = .returned (.bool true) ∧ Below w.heap.size w w' := core_starFaults f A c n w hv hl

/-! ### THE ROW's STEP around the walk. -/
theorem own_starFaults : ownKnob Try.prog.godebug = none := by kernel_rfl
theorem laidOut_starFaults : laidOutB Try.prog = true := by kernel_rfl
set_option maxRecDepth 100000 in
theorem lifted_starFaults (os : Os) (started : os.Started) (H : Type) (enc : TypeId × Value → H) :
    ReturnsInHanded {} Try.checked os 7 .any (Rows.starFaultsSpec.pre6 enc Try.prog Try.f7 Rows.starFaultsRow.domain false) (Rows.starFaultsSpec.post enc Try.prog Try.f7 false true false false) := by
  refine returnsInHanded_of_change (C := Try.checked) own_starFaults started (by kernel_rfl) Try.func7
    (ChangeSpec.witness6 (enc := enc) (C := Try.checked) false ⟨#[], #[.agg #[.int .i64 0, .int .i64 0, .int .i64 0, .slice none 0 0], .int .i64 0], []⟩ 8 (by kernel_rfl) (by kernel_rfl) (by kernel_rfl) (by kernel_rfl)) ?_
  intro W base args ds gs before hval0 hW hcnd _
  have hval : ∀ (j : Nat) t v, Try.f7.params[j]? = some t → args[j]? = some v → Value.okWide Try.prog W .any base t v := hval0
  have hW' := hW
  obtain ⟨p, q, hA0, hV, rfl, hfz, hnd⟩ := hW
  have hA : DataW.TrodAll enc Try.prog W 0 (fun _ => true) true Try.f7.params.toList args.toList ds p := hA0
  rw [Try.params7] at hA hval
  obtain ⟨v0, vs0, d0, ds0, p0, q0, hargs, rfl, rfl, h0, r0⟩ := trodAll_cons hA
  obtain ⟨v1, vs1, d1, ds1, p1, q1, rfl, rfl, rfl, h1, r1⟩ := trodAll_cons r0
  obtain ⟨rfl, rfl, rfl⟩ := trodAll_nil r1
  obtain rfl : args = #[v0, v1] := by cases args; simp_all
  obtain ⟨rfl, rfl⟩ := trodVars_none hV
  obtain ⟨y0, A0, c0, rfl, s0, b0⟩ := sees_fault Try.underlying34 (by kernel_rfl) ⟨rfl, rfl⟩ ⟨rfl, rfl⟩ ⟨rfl, rfl⟩ ⟨rfl, rfl⟩ Try.underlying3 Try.underlying22 Try.underlying5 (by kernel_rfl) (by kernel_rfl) (by kernel_rfl) (hval 0 34 v0 rfl rfl) h0
  have k0 := h0
  have lt0 : ∀ x ∈ p0, x.block < W.heap.size := by obtain ⟨m, hm⟩ := k0; exact DataW.trod_lt m _ _ _ hm
  obtain ⟨a1, rfl, rfl, rfl, w1⟩ := open_int Try.underlying3 (hval 1 3 v1 rfl rfl) h1
  clear hA0 hval0
  refine (walk_starFaults y0 A0 c0 a1 W s0 b0 (bounds_i64 w1)).mono fun e W' ⟨he, bel⟩ => ?_
  subst he
  exact ⟨_, rfl, _, _, _, [], _, [], hW', trodAll_mk1 (shut_bool Try.underlying4 _), (trodAll_cons_mk (Below.trod laidOut_starFaults (by kernel_rfl) (of_decide_eq_true (by kernel_rfl)) k0 bel lt0) (trodAll_cons_mk (shut_int Try.underlying3 w1) trodAll_mk0)), rfl, bel.frame _, fun h => by cases h⟩

theorem over_starFaults : Rows.starFaultsRow.holds Try.pinned (OpenSpec.ofChange Rows.starFaultsSpec) :=
  OpenClaim.holds_of_wide 7 Try.f7 rfl rfl rfl rfl rfl rfl rfl ⟨rfl, rfl, rfl, rfl, rfl⟩ rfl rfl rfl rfl rfl (by kernel_rfl) Try.func7 (by kernel_rfl)
    (of_decide_eq_true (by kernel_rfl)) (by unfold Func.isWrapper; first | (rw [if_pos (by decide +kernel)]; kernel_rfl) | (rw [if_neg (by decide +kernel)]; exact ⟨rfl, rfl⟩))
    (fun os started H enc _ => lifted_starFaults os started H enc)

theorem proved_starFaults : Rows.StarFaultsSaid := over_starFaults
end Go.Proofs.Ytmlnkkalajnjhaa
