/- NodePlays holds: of any acts, one behind the other, node and document's node do the same and tell the same. For all sizes, places, drifts and acts. -/
import Derived.Test.YtpdenmcacaajkaaGreatPB51
namespace Go.Proofs.YtpdenmcacaajkaaGreat
open Go.ChangeShapes Go.WideShapes Go.ChangeAt Go.RowKit

set_option maxRecDepth 100000 in
set_option maxHeartbeats 4000000 in
theorem walk_nodePlays (n i d : Int) (l : List Aq) (v : Value) (w : World) (_hn : -9223372036854775808 ≤ n ∧ n ≤ 9223372036854775807) (_hi : -9223372036854775808 ≤ i ∧ i ≤ 9223372036854775807) (_hd : -9223372036854775808 ≤ d ∧ d ≤ 9223372036854775807) (h : SeesAq w w.heap.size v l) :
    Calls Tryz.prog 3 #[.int .i64 n, .int .i64 i, .int .i64 d, v] w fun e w' => e = .returned (.bool true) ∧ Below w.heap.size w w' := by
  obtain ⟨A, c, rfl, v1, v2, -⟩ := h.at_
  unfold maxLen at v2
  have HC := Lib.hid h
  clear h
  by_cases c1 : n < 4
  · go_enter Tryz.func3, Tryz.ntmps3
    go_wp2
    go_ret
    exact ⟨rfl, Below.refl _ _⟩
  by_cases c2 : 8 < n
  · go_enter Tryz.func3, Tryz.ntmps3
    go_wp2
    go_ret
    exact ⟨rfl, Below.refl _ _⟩
  by_cases c3 : i < 0
  · go_enter Tryz.func3, Tryz.ntmps3
    go_wp2
    go_ret
    exact ⟨rfl, Below.refl _ _⟩
  by_cases c4 : n ≤ i
  · go_enter Tryz.func3, Tryz.ntmps3
    go_wp2
    go_ret
    exact ⟨rfl, Below.refl _ _⟩
  by_cases c5 : d < -2
  · go_enter Tryz.func3, Tryz.ntmps3
    go_wp2
    go_ret
    exact ⟨rfl, Below.refl _ _⟩
  by_cases c6 : 2 < d
  · go_enter Tryz.func3, Tryz.ntmps3
    go_wp2
    go_ret
    exact ⟨rfl, Below.refl _ _⟩
  by_cases c7 : 150 < l.length
  · have q7 : decide ((150 : Int) < ((l.length : Nat) : Int)) = true := decide_eq_true (by omega)
    go_enter Tryz.func3, Tryz.ntmps3
    go_wp2
    go_ret
    exact ⟨rfl, Below.refl _ _⟩
  have q7 : decide ((150 : Int) < ((l.length : Nat) : Int)) = false := decide_eq_false (by omega)
  obtain ⟨N, rfl⟩ : ∃ N : Nat, n = (N : Int) := ⟨n.toNat, by omega⟩
  have hm : NM.may (smnT N 2) i d rlQ := may_some N 2 i d rlQ (by omega) (by omega) (by omega) (by omega) rlQ_may.1 rlQ_may.2
  have HS := fun W => Lib.hid (some_nd N 2 (by omega) (by omega) W)
  have HR := fun W => Lib.hid (rules_np W)
  have HN := fun W v u (hv : SeesT W W.heap.size v (smnT N 2).ns) (hu : SeesRs W W.heap.size u rlQ) => Lib.hid (nodeApi.new_ok (smnT N 2) v u i d rlQ W hv hu hm)
  have HX := fun B W v u (hv : SeesT W W.heap.size v (smnT N 2).ns) (hu : SeesRs W W.heap.size u rlQ) (hB : B ≤ W.heap.size) (h1 : (smnT N 2).ns ≠ [] → ∀ k, v.ownBlock = some k → B ≤ k) (h2 : rlQ ≠ [] → ∀ k, u.ownBlock = some k → B ≤ k) => Lib.hid (new10 B (smnT N 2) v u i d rlQ W hv hu rfl hm hB h1 h2)
  have hbd := bd_start (smnT N 2) i.toNat d rlQ
  clear hm
  go_enter Tryz.func3, Tryz.ntmps3
  go_wp2_with fail
  refine (HS _).out.mono ?_
  rintro _ w1 ⟨v, rfl, ho, b1⟩
  have hv := ho.sees
  clear ho
  go_wp2_with fail
  refine (HR _).out.mono ?_
  rintro _ w2 ⟨u, rfl, hu, -, br⟩
  replace hv := (hv.below br).more br.size
  replace b1 := b1.trans (br.mono b1.size)
  clear br
  go_wp2_with fail
  refine (HN _ _ _ hv hu).out.mono ?_
  rintro _ w3 ⟨g1, F1, rfl, h1, hF1, b'⟩
  have hF : ∀ f, f ∈ F1 → w.heap.size ≤ f := fun f hf => Nat.le_trans b1.size (hF1 f hf)
  replace b1 := b1.trans (b'.mono b1.size)
  clear hF1 b' hv hu HN
  go_wp2_with fail
  refine (HS _).out.mono ?_
  rintro _ w4 ⟨v, rfl, ho, b4⟩
  have hv := ho.sees
  have ov : ∀ k, v.ownBlock = some k → w3.heap.size ≤ k := fun k e => (ho.lt k e).1
  clear ho HS
  go_wp2_with fail
  refine (HR _).out.mono ?_
  rintro _ w5 ⟨u, rfl, hu, ou, br⟩
  replace hv := (hv.below br).more br.size
  have ou : ∀ k, u.ownBlock = some k → w3.heap.size ≤ k := fun k e => Nat.le_trans b4.size (ou k e)
  replace b4 := b4.trans (br.mono b4.size)
  clear br HR
  go_wp2_with fail
  refine (HX w3.heap.size _ _ _ hv hu b4.size (fun _ => ov) (fun _ => ou)).out.mono ?_
  rintro _ w6 ⟨g2, rfl, h2, b6⟩
  replace b4 := b4.trans (b6.mono b4.size)
  have hT := two_start h1 hF b1.size b4 h2
  replace b1 := b1.trans (b4.mono b1.size)
  clear h1 h2 hF HX b4 b6 hv hu ov ou
  generalize NM.new (smnT N 2) i.toNat d rlQ = m at *
  go_wp2_with fail
  go_loopw [13] (fun i wr => ∃ (k : Nat) (m : NM), k ≤ l.length ∧ i = .int .i64 k ∧ Two w.heap.size [] anyB wr g1 g2 m m ∧ Bd m k ∧ Below w.heap.size w wr) (fun i _ => l.length - (intOf i).toNat)
  case atStart => exact ⟨0, m, by omega, rfl, hT, hbd, b1⟩
  case round =>
    clear hT hbd b1
    obtain ⟨k, m, hk, rfl, hT, hbd, bw⟩ := hrel
    by_cases hlt : k < l.length
    · have q3 : decide (((k : Nat) : Int) < (l.length : Int)) = true := decide_eq_true (by omega)
      obtain ⟨b, off, vd, vx, vy, rfl, s2, s5, s6, hby, HE⟩ := HC.out.act k hlt
      obtain ⟨Ad, cd, rfl, -⟩ := s2.at_
      obtain ⟨Ax, cx, rfl, -⟩ := s5.at_
      obtain ⟨Ay, cy, rfl, -⟩ := s6.at_
      generalize l.getD k default = x at *
      have hlo := hT.lo
      obtain ⟨p0, p1, p2, p3, p4, p5, p6, p7, p8, p9⟩ := HE _ bw
      have HM := Lib.hid (may_np x _ _ _ wr ((s2.below bw).more hlo) ((s5.below bw).more hlo) ((s6.below bw).more hlo))
      have HD := fun W (hW : Below w.heap.size w W) (hT : Two w.heap.size [] anyB W g1 g2 m m) (hq : MayQ x) => Lib.hid (do_np w.heap.size g1 g2 m k x _ _ _ W hT hbd (by omega) ⟨(s2.below hW).more hT.lo, (s5.below hW).more hT.lo, (s6.below hW).more hT.lo, hby, hq.lo, hq.hi⟩ ⟨s2.below hW, s5.below hW, s6.below hW⟩ hq.d)
      replace HE := Lib.hid HE
      have hx := Lib.hid (And.intro s2 (And.intro s5 s6))
      clear s2 s5 s6 hbd
      unfold DoC at HD
      unfold aqV at HM HD
      go_wp2_with fail
      refine HM.out.mono ?_
      rintro _ w7 ⟨⟨bq, rfl, hq⟩, b7⟩
      clear p0 p1 p2 p3 p4 p5 p6 p7 p8 p9 HM
      replace hT := hT.below b7
      replace bw := bw.trans (b7.mono hlo)
      clear b7 hlo
      cases bq
      · clear HD hT HE hx
        go_wp2
        go_ret
        exact ⟨rfl, bw⟩
      · have HD := HD w7 bw hT (hq rfl)
        obtain ⟨p0, p1, p2, p3, p4, p5, p6, p7, p8, p9⟩ := HE.out _ bw
        clear hT hq HE hx
        go_wp2_with fail
        refine HD.out.mono ?_
        rintro _ w8 ⟨rfl, ⟨m', hT, hbd⟩, b8⟩
        clear p0 p1 p2 p3 p4 p5 p6 p7 p8 p9 HD
        replace bw := bw.trans b8
        clear b8
        have HK := Lib.hid (alike_np _ _ _ _ _ _ _ hT)
        go_wp2_with fail
        refine HK.out.mono ?_
        rintro _ w9 ⟨rfl, b9⟩
        have hlo := hT.lo
        replace hT := hT.below b9
        replace bw := bw.trans (b9.mono hlo)
        clear b9 hlo HK
        go_wp2
        go_roundw
        case rel => exact ⟨k + 1, m', by omega, by go_num, hT, hbd, bw⟩
        case measure => simp [intOf]; omega
    · have q3 : decide (((k : Nat) : Int) < (l.length : Int)) = false := decide_eq_false (by omega)
      clear hT hbd HC
      go_wp2_with fail
      refine (known_nd nodeApi _).mono ?_
      rintro _ w7 ⟨rfl, b7⟩
      replace bw := bw.trans (b7.mono bw.size)
      go_wp2
      go_ret
      exact ⟨rfl, bw⟩

/-! ### THE ROW's STEP around the walk. -/
theorem own_nodePlays : ownKnob Tryz.prog.godebug = none := by kernel_rfl
theorem laidOut_nodePlays : laidOutB Tryz.prog = true := by kernel_rfl
set_option maxRecDepth 100000 in
theorem lifted_nodePlays (os : Os) (started : os.Started) (H : Type) (enc : TypeId × Value → H) :
    ReturnsInHanded {} Tryz.checked os 3 .any (Rows.nodePlaysSpec.pre6 enc Tryz.prog Tryz.f3 Rows.nodePlaysRow.domain false) (Rows.nodePlaysSpec.post enc Tryz.prog Tryz.f3 false true false false) := by
  refine returnsInHanded_of_change (C := Tryz.checked) own_nodePlays started (by kernel_rfl) Tryz.func3
    (ChangeSpec.witness6 (enc := enc) (C := Tryz.checked) false ⟨#[], #[.int .i64 0, .int .i64 0, .int .i64 0, .slice none 0 0], []⟩ 8 (by kernel_rfl) (by kernel_rfl) (by kernel_rfl) (by kernel_rfl)) ?_
  intro W base args ds gs before hval0 hW hcnd _
  have hval : ∀ (j : Nat) t v, Tryz.f3.params[j]? = some t → args[j]? = some v → Value.okWide Tryz.prog W .any base t v := hval0
  have hW' := hW
  obtain ⟨p, q, hA0, hV, rfl, hfz, hnd⟩ := hW
  have hA : DataW.TrodAll enc Tryz.prog W 0 (fun _ => true) true Tryz.f3.params.toList args.toList ds p := hA0
  rw [Tryz.params3] at hA hval
  obtain ⟨v0, vs0, d0, ds0, p0, q0, hargs, rfl, rfl, h0, r0⟩ := trodAll_cons hA
  obtain ⟨v1, vs1, d1, ds1, p1, q1, rfl, rfl, rfl, h1, r1⟩ := trodAll_cons r0
  obtain ⟨v2, vs2, d2, ds2, p2, q2, rfl, rfl, rfl, h2, r2⟩ := trodAll_cons r1
  obtain ⟨v3, vs3, d3, ds3, p3, q3, rfl, rfl, rfl, h3, r3⟩ := trodAll_cons r2
  obtain ⟨rfl, rfl, rfl⟩ := trodAll_nil r3
  obtain rfl : args = #[v0, v1, v2, v3] := by cases args; simp_all
  obtain ⟨rfl, rfl⟩ := trodVars_none hV
  obtain ⟨a0, rfl, rfl, rfl, w0⟩ := open_int Tryz.underlying3 (hval 0 3 v0 rfl rfl) h0
  obtain ⟨a1, rfl, rfl, rfl, w1⟩ := open_int Tryz.underlying3 (hval 1 3 v1 rfl rfl) h1
  obtain ⟨a2, rfl, rfl, rfl, w2⟩ := open_int Tryz.underlying3 (hval 2 3 v2 rfl rfl) h2
  obtain ⟨A3, n3, c3, rfl⟩ := okWide_slice Tryz.underlying22 (hval 3 22 v3 rfl rfl)
  obtain ⟨l3, s3⟩ := sees_aqs Tryz.underlying22 (by kernel_rfl) Tryz.underlying41 ⟨rfl, rfl⟩ ⟨rfl, rfl⟩ ⟨rfl, rfl⟩ ⟨rfl, rfl⟩ ⟨rfl, rfl⟩ ⟨rfl, rfl⟩ Tryz.underlying39 (by kernel_rfl) ⟨rfl, rfl⟩ ⟨rfl, rfl⟩ ⟨rfl, rfl⟩ ⟨rfl, rfl⟩ ⟨rfl, rfl⟩ Tryz.underlying3 Tryz.underlying37 Tryz.underlying5 (by kernel_rfl) (by kernel_rfl) (by kernel_rfl) h3
  have k3 := h3
  have lt3 : ∀ x ∈ p3, x.block < W.heap.size := by obtain ⟨m, hm⟩ := k3; exact DataW.trod_lt m _ _ _ hm
  clear hA0 hval0
  refine (walk_nodePlays a0 a1 a2 l3 _ W (bounds_i64 w0) (bounds_i64 w1) (bounds_i64 w2) s3).mono fun e W' ⟨he, bel⟩ => ?_
  subst he
  exact ⟨_, rfl, _, _, _, [], _, [], hW', trodAll_mk1 (shut_bool Tryz.underlying4 _), (trodAll_cons_mk (shut_int Tryz.underlying3 w0) (trodAll_cons_mk (shut_int Tryz.underlying3 w1) (trodAll_cons_mk (shut_int Tryz.underlying3 w2) (trodAll_cons_mk (Below.trod laidOut_nodePlays (by kernel_rfl) (of_decide_eq_true (by kernel_rfl)) k3 bel lt3) trodAll_mk0)))), rfl, bel.frame _, fun h => by cases h⟩

theorem over_nodePlays : Rows.nodePlaysRow.holds Tryz.pinned (OpenSpec.ofChange Rows.nodePlaysSpec) :=
  OpenClaim.holds_of_wide 3 Tryz.f3 rfl rfl rfl rfl rfl rfl rfl ⟨rfl, rfl, rfl, rfl, rfl⟩ rfl rfl rfl rfl rfl (by kernel_rfl) Tryz.func3 (by kernel_rfl)
    (of_decide_eq_true (by kernel_rfl)) (by unfold Func.isWrapper; first | (rw [if_pos (by decide +kernel)]; kernel_rfl) | (rw [if_neg (by decide +kernel)]; exact ⟨rfl, rfl⟩))
    (fun os started H enc _ => lifted_nodePlays os started H enc)

theorem proved_nodePlays : Rows.NodePlaysSaid := over_nodePlays
end Go.Proofs.YtpdenmcacaajkaaGreat
