/- The contracts of matronref3.sealed, Encode and Same. -/
import Derived.Test.YthlanmomgpcbcaaFrA
import Derived.Deep.RegionHeld3
import Derived.Deep.RegionLaw
import Derived.RegionTactic
namespace Go.Proofs.Ythlanmomgpcbcaa
open Go.RowKit
open Fr (St F)

theorem owns_empty (w : World) (e : TypeId) (he : e = 5) (B g : Nat) (hB : B ≤ w.heap.size) (hg : g = w.heap.size) : OwnsL (w.alloc (.cells #[] e)) B (.slice (some ⟨g, 0, none⟩) 0 0) [] := by
  subst he hg
  exact World.ownsRow_made w #[] 0 hB (by unfold maxLen; omega) rfl

theorem sealed_ref (v : Value) (l : List Int) (n : Nat) (w : World) (hv : SeesL w w.heap.size v l) (hl : bytesL l) (hlen : l.length ≤ 100000) (hn : n < 32768) :
    Calls Try.prog 31 #[v, .int .i64 n] w fun e w' => ∃ v', e = .returned v' ∧ OwnsL w' w.heap.size v' (l ++ Fr.two (Fr.sumL n l)) ∧ Below w.heap.size w w' := by
  have hS := Fr.sumL_lt hn l
  obtain ⟨A, c, hvA, h1, h2, h3, h4⟩ := hv.at_
  have hsum := refSum_any A l.length c w.heap.size (fun k => l.getD k 0) n w h3 (fun k _ => hl.getD k) (by unfold maxLen; omega)
  rw [Fr.sum_all, Cr.sd_of hn] at hsum
  have hsum := Lib.hid hsum
  have hv := Lib.hid hv
  generalize hSS : Fr.sumL n l = S at *
  have q1 : S ≤ 32767 := by omega
  clear h4 h3 hSS hS hl
  subst hvA
  go_enter Try.func31, Try.ntmps31
  go_wp2_with fail
  refine hsum.out.mono ?_
  rintro e w1 ⟨rfl, rfl⟩
  clear hsum
  go_wp2_with (at_builtin; refine wpList_appendL _ rfl (.tmp 9) (.tmp 10) 24 rfl w.heap.size infoU8 Try.underlying24 _ [] w (owns_empty w _ rfl _ _ (Nat.le_refl _) rfl) ((Below.refl _ _).alloc (Nat.le_refl _) _) rfl _ _ l rfl (hv.out.below ((Below.refl _ _).alloc (Nat.le_refl _) _)) (by simp) (by simp only [List.length_nil]; omega) ?_)
  intro v' w1 ho hb
  go_wp2_with (at_builtin; go_loud (refine wpList_appendL _ rfl (.tmp 11) (.tmp 17) 24 rfl w.heap.size infoU8 Try.underlying24 v' l w (ho.alloc _) (hb.alloc hb.size _) rfl _ _ (Fr.two S) rfl (sees_lit w1 _ _ _ (by simp [Fr.two]) _ (Nat.lt_succ_self _) (by simp [Fr.two, maxLen]) _ _ _ rfl rfl rfl) (by simp; have := hb.size; omega) (by simp [Fr.two]; omega) ?_))
  intro v2 w2 ho2 hb2
  go_wp2
  go_ret
  exact ⟨_, rfl, ho2, hb2⟩

/-- 'append' of a list, as one step of a region that draws its order. -/
theorem step_appendL {P : Program} (w : World) {ops : Array Oper} {o : Oper} {a : Act} {K : Act → World → Prop} {Q : Exit → Act → World → Prop} {E : Prop} (hgd : o.guard = none) (s x : Operand) (t : TypeId)
    (ho : o.op = .call { callee := .builtin .append, args := #[s, x], argTypes := #[t, t] })
    (B : Nat) (hinf : (P.info? 5).map (fun i => (i.zero, i.size, i.bytes)) = some (some (.int .u8 0), 1, 1)) (ht : P.underlying t = some (.slice 5))
    (v : Value) (l : List Int) (W : World) (hown : OwnsL w B v l) (hbel : Below B W w) (hs : a.eval s = v)
    (Bs : Nat) (u : Value) (m : List Int) (hx : a.eval x = u) (hsee : SeesL w Bs u m)
    (hB : B ≤ w.heap.size) (hroom : l.length + m.length ≤ 140737488355328)
    (h : ∀ v' w', OwnsL w' B v' (l ++ m) → Below B W w' → w.grownBy w' v.ownBlock → K (a.put o.dst v') w') : if Region.wanted o (yielded ops a.tmps) = true then Oper.wp P o a w K Q else E := by
  have hw : Region.wanted o (yielded ops a.tmps) = true := by simp [Region.wanted, hgd]
  rw [if_pos hw]
  obtain ⟨A, c, rfl, -, -, h3, h4⟩ := hsee.at_
  cases A with
  | none =>
    obtain ⟨hm, rfl⟩ := h4 rfl
    have hm' : m = [] := List.length_eq_zero_iff.1 hm
    subst hm'
    obtain ⟨i0, hi, hz0, hz1, hz2⟩ := info_parts hinf
    have hrun := run_append_owned_none (P := P) (w := w) B t o.type 5 i0 1 ht hi v l.length _ hown
    unfold Oper.wp
    simp only [List.length_nil] at hx
    simp [execOp, ho, resolve, invoke, builtin, hs, hx, hrun, Result.andThen]
    refine h v w ?_ hbel (World.grownBy.refl _ _)
    rw [List.append_nil]
    exact hown
  | some ad =>
    obtain ⟨i0, hi, hz0, hz1, hz2⟩ := info_parts hinf
    refine wp_append_own _ s x t ho B 5 i0 (.int .u8 0) 1 1 ht hi hz0 hz1 hz2 rfl (by omega) v l.length _ hs hown ad m.length c ((List.range m.length).map (bv m)) hx (by simp) ?_ ?_ (by unfold maxLen; omega) (by omega) hB ?_
    · intro j u hj
      rw [List.getElem?_map] at hj
      by_cases hjm : j < m.length
      · rw [List.getElem?_range hjm] at hj
        simp at hj
        subst hj
        obtain ⟨b, off, he, _, hc⟩ := h3 (by omega)
        simp only [Option.some.injEq] at he
        subst he
        have := hc j hjm
        by_cases h1 : j = 0
        · subst h1; simpa [Addr.add] using this
        · simpa [Addr.add, h1] using this
      · rw [List.getElem?_eq_none (by simpa using hjm)] at hj
        cases hj
    · intro u hu
      obtain ⟨k, hk, rfl⟩ := List.mem_map.1 hu
      rfl
    · intro v' w' h1 h2 h3
      refine h v' w' ?_ (hbel.grown h2 hB (fun g h => (World.ownsRow.lt hown g h).1)) h2
      unfold OwnsL Owns
      rw [List.length_append]
      have e : (List.range (l.length + m.length)).map (bv (l ++ m)) = (List.range l.length).map (bv l) ++ (List.range m.length).map (bv m) := by
        rw [← range_join]
        exact List.map_congr_left fun k _ => (bv_append l m k).symm
      rw [e]
      exact h1

/-- What is written of a frame, and the error. -/
def encR (f : F) : List Int := if f.is then f.bytes else []
def encE (f : F) : Int := if f.is then 0 else 1
def Enc (w : World) (f : F) (e : Ending) (w' : World) : Prop := ∃ v, e = .returned (.tuple #[v, .int .i64 (encE f)]) ∧ OwnsL w' w.heap.size v (encR f) ∧ Below w.heap.size w w'

set_option maxRecDepth 100000 in
set_option maxHeartbeats 2000000 in
theorem encode_ref (f : F) (v : Value) (w : World) (hv : SeesL w w.heap.size v f.d) (hd : bytesL f.d) :
    Calls Try.prog 17 #[frV f v] w (Enc w f) := by
  have his := fun W (hb : Below w.heap.size w W) => is_ref f v W w.heap.size (hv.below hb)
  obtain ⟨A, c, rfl, c1, c2, -, -⟩ := hv.at_
  cases hi : f.is
  · rw [hi] at his
    have his := fun W hb => Lib.hid (his W hb)
    have hE : encE f = 1 := by simp [encE, hi]
    have hR : encR f = [] := by simp [encR, hi]
    unfold Enc
    rw [hE, hR]
    clear hi hE hR hv
    unfold frV at his ⊢
    go_enter Try.func17, Try.ntmps17
    go_wp2_with fail
    refine (his _ ((Below.refl _ _).alloc (Nat.le_refl _) _)).out.mono ?_
    rintro e w1 ⟨rfl, hb⟩
    have hb := ((Below.refl w.heap.size w).alloc (Nat.le_refl _) _).trans (hb.mono (by simp))
    go_wp2
    go_ret2
    exact ⟨_, rfl, OwnsL.nil, hb⟩
  · rw [hi] at his
    have his := fun W hb => Lib.hid (his W hb)
    obtain ⟨⟨k1, k3⟩, hmay, hlen⟩ := f.is_iff.1 hi
    have hE : encE f = 0 := by simp [encE, hi]
    have hR : encR f = f.body ++ Fr.two (Fr.sumL f.seed f.body) := by simp [encR, hi, F.bytes]
    have hbody := Lib.hid (F.body_ok hi hd)
    have hbl := f.body_length
    have hsl := f.seed_lt
    have hseed := fun W => Lib.hid (seed_ref f.st W)
    have hstate := fun W => Lib.hid (state_ref f.st hmay W)
    have hhl : f.hl ≤ 6 := by unfold F.hl; split <;> omega
    unfold Enc
    rw [hE, hR]
    have hsealed := fun (V : Value) (W : World) (h : SeesL W W.heap.size V f.body) => Lib.hid (sealed_ref V f.body f.seed W h hbody.out (by omega) hsl)
    obtain ⟨k, st, d⟩ := f
    by_cases hk : k = 1
    · have hB1 : F.body ⟨k, st, d⟩ = [1] ++ [(d.length : Int)] ++ d := by simp [F.body, F.head, hk]
      have hS1 : F.seed ⟨k, st, d⟩ = st.seed := by simp [F.seed, hk]
      rw [hB1, hS1] at hsealed ⊢
      subst hk
      simp only at hv k1 k3 hmay hlen his hseed hstate hsl
      have hvd := Lib.hid hv
      have hH := fun V W h => Lib.hid (hsealed V W h)
      clear hsealed hE hR hB1 hS1 hbody hbl hi hd hv hhl hstate hmay
      unfold frV at his ⊢
      unfold stV at hseed
      go_enter Try.func17, Try.ntmps17
      go_wp2_with fail
      have hbox := Lib.hid (box5 w (.int .i64 1) (.int .i64 st.r) (.int .i64 st.s) (.int .i64 st.m) (.slice A d.length c) 26)
      generalize w.alloc (.cells #[.int .i64 1, .int .i64 st.r, .int .i64 st.s, .int .i64 st.m, .slice A d.length c] 26) = w0 at *
      have hz0 : w0.heap.size ≤ w.heap.size + 1 ∧ w.heap.size + 1 ≤ w0.heap.size := by have := hbox.out.size; omega
      refine (his _ hbox.out.below).out.mono ?_
      rintro e w1 ⟨rfl, hb1⟩
      obtain ⟨z1, c10, c11, c12, c13, c14⟩ := hbox.out.cell w1 hb1
      clear his
      go_wp2_with fail
      refine (hseed _).out.mono ?_
      rintro e w2 ⟨rfl, hb⟩
      have ho2 := (owns_lit w1 5 rfl #[.int .u8 1] [1] rfl w0.heap.size hb1.size (by simp [maxLen]) w1.heap.size 1 1 rfl rfl rfl).below hb (Nat.le_refl _)
      have hb2 := (hb1.alloc hb1.size (.cells #[.int .u8 1] 5)).trans (hb.mono (by simp; have := hb1.size; omega))
      obtain ⟨z2, c20, c21, c22, c23, c24⟩ := hbox.out.cell w2 hb2
      have hwr : IntKind.u8.wrap ((d.length : Nat) : Int) = d.length := by rw [IntKind.wrap_u8]; omega
      have hb2x := hb2.alloc hb2.size (.cells #[.int .u8 (d.length : Int)] 5)
      have x2 := (hbox.out.cell _ hb2x).2.2.2.2.2
      clear c10 c11 c12 c13 c14 hb hb1 hseed c21 c22 c23
      go_wp2_with fail
      go_region_held3 (fun w' => w'.cell? ⟨w.heap.size, 4, none⟩ = some (.slice A d.length c)) (first | exact c24 | exact x2 | exact x3 | exact x5 | exact x6) (first
        | ((refine step_appendL _ rfl (.tmp 24) (.tmp 29) 24 rfl w0.heap.size infoU8 Try.underlying24 (.slice (some ⟨w1.heap.size, 0, none⟩) 1 1) [1] w0 ?_ ?_ rfl (w2.heap.size + 1) (.slice (some ⟨w2.heap.size, 0, none⟩) 1 1) [(d.length : Int)] rfl ?_ ?_ ?_ ?_); exact (ho2.alloc _).drew; exact hb2x.drew; exact (sees_lit w2 5 _ [(d.length : Int)] rfl _ (Nat.lt_succ_self _) (by simp [maxLen]) _ _ _ rfl rfl rfl).drew; exact hb2x.size; (focus simp); intro v3 w3 ho3 hb3 _; have x3 := (hbox.out.cell _ hb3).2.2.2.2.2)
        | ((refine step_appendL _ rfl (.tmp 30) (.tmp 32) 24 rfl w0.heap.size infoU8 Try.underlying24 v3 ([1] ++ [(d.length : Int)]) w0 ho3 hb3 rfl w.heap.size (.slice A d.length c) d rfl ?_ ?_ ?_ ?_); exact hvd.out.below (hbox.out.below.trans (hb3.mono (by omega))); exact hb3.size; (focus (simp; omega)); intro v5 w5 ho5 hb5 _; have x5 := (hbox.out.cell _ hb5).2.2.2.2.2)
        | ((go_at_call 31; refine (hH v5 _ ?_).out.mono ?_); exact ho5.sees; rintro e w6 ⟨v6, rfl, ho6, hb6⟩; have hb6 := hb5.trans (hb6.mono hb5.size); have x6 := (hbox.out.cell _ hb6).2.2.2.2.2))
      have hfin := ho6.base (B := w.heap.size) (by have := hb5.size; omega)
      have hbf := hbox.out.below.trans (hb6.mono (by omega))
      clear hwr ho6
      go_wp2
      go_ret2
      exact ⟨_, rfl, hfin, hbf⟩
    · have hB1 : F.body ⟨k, st, d⟩ = [k] ++ st.bytes ++ [(d.length : Int)] ++ d := by simp [F.body, F.head, hk]
      have hS1 : F.seed ⟨k, st, d⟩ = 0 := by simp [F.seed, hk]
      rw [hB1, hS1] at hsealed ⊢
      simp only at hv k1 k3 hmay hlen his hseed hstate hsl
      have hk' : (k != 1) = true := by simpa using hk
      have hvd := Lib.hid hv
      have hH := fun V W h => Lib.hid (hsealed V W h)
      have hsb : st.bytes.length = 4 := rfl
      clear hsealed hE hR hB1 hS1 hbody hbl hi hd hv hhl hmay hk
      unfold frV at his ⊢
      unfold stV at hseed hstate
      generalize st.bytes = sb at *
      have hsb1 : sb.length ≤ 4 := by omega
      clear hsb
      go_enter Try.func17, Try.ntmps17
      go_wp2_with fail
      have hbox := Lib.hid (box5 w (.int .i64 k) (.int .i64 st.r) (.int .i64 st.s) (.int .i64 st.m) (.slice A d.length c) 26)
      generalize w.alloc (.cells #[.int .i64 k, .int .i64 st.r, .int .i64 st.s, .int .i64 st.m, .slice A d.length c] 26) = w0 at *
      have hz0 : w0.heap.size ≤ w.heap.size + 1 ∧ w.heap.size + 1 ≤ w0.heap.size := by have := hbox.out.size; omega
      refine (his _ hbox.out.below).out.mono ?_
      rintro e w1 ⟨rfl, hb1⟩
      obtain ⟨z1, c10, c11, c12, c13, c14⟩ := hbox.out.cell w1 hb1
      clear his
      go_wp2_with fail
      refine (hseed _).out.mono ?_
      rintro e w2 ⟨rfl, hb⟩
      have ho2 := (owns_lit w1 5 rfl #[.int .u8 k] [k] rfl w0.heap.size hb1.size (by simp [maxLen]) w1.heap.size 1 1 rfl rfl rfl).below hb (Nat.le_refl _)
      have hb2 := (hb1.alloc hb1.size (.cells #[.int .u8 k] 5)).trans (hb.mono (by simp; have := hb1.size; omega))
      obtain ⟨z2, c20, c21, c22, c23, c24⟩ := hbox.out.cell w2 hb2
      clear c10 c11 c12 c13 c14 hb hseed
      go_wp2_with fail
      refine (hstate _).out.mono ?_
      rintro e wa ⟨va, rfl, hoa, hba⟩
      have hba2 := hb2.trans (hba.mono hb2.size)
      have hob := ho2.below hba (Nat.le_refl _)
      have hoaS := hoa.sees
      clear c20 c21 c22 c23 c24 hba hb2 ho2 hstate hb1 hoa
      go_wp2_with (at_builtin; go_loud (refine wpList_appendL _ rfl (.tmp 19) (.tmp 22) 24 rfl w0.heap.size infoU8 Try.underlying24 _ [k] w0 hob hba2 rfl wa.heap.size va sb rfl hoaS hba2.size (by simp; omega) ?_))
      intro vb wb hobb hbb
      obtain ⟨zb, c20, c21, c22, c23, c24⟩ := hbox.out.cell wb hbb
      obtain ⟨Ab, cb, rfl, -, -, -, -⟩ := hobb.sees.at_
      have hwr : IntKind.u8.wrap ((d.length : Nat) : Int) = d.length := by rw [IntKind.wrap_u8]; omega
      have hb2x := hbb.alloc hbb.size (.cells #[.int .u8 (d.length : Int)] 5)
      have x2 := (hbox.out.cell _ hb2x).2.2.2.2.2
      clear c20 c21 c22 c23 hba2 hob hoaS
      go_wp2_with fail
      go_region_held3 (fun w' => w'.cell? ⟨w.heap.size, 4, none⟩ = some (.slice A d.length c)) (first | exact c24 | exact x2 | exact x3 | exact x5 | exact x6) (first
        | ((refine step_appendL _ rfl (.tmp 24) (.tmp 29) 24 rfl w0.heap.size infoU8 Try.underlying24 _ ([k] ++ sb) w0 ?_ ?_ rfl (wb.heap.size + 1) (.slice (some ⟨wb.heap.size, 0, none⟩) 1 1) [(d.length : Int)] rfl ?_ ?_ ?_ ?_); exact (hobb.alloc _).drew; exact hb2x.drew; exact (sees_lit wb 5 _ [(d.length : Int)] rfl _ (Nat.lt_succ_self _) (by simp [maxLen]) _ _ _ rfl rfl rfl).drew; exact hb2x.size; (focus (simp; omega)); intro v3 w3 ho3 hb3 _; have x3 := (hbox.out.cell _ hb3).2.2.2.2.2)
        | ((refine step_appendL _ rfl (.tmp 30) (.tmp 32) 24 rfl w0.heap.size infoU8 Try.underlying24 v3 ([k] ++ sb ++ [(d.length : Int)]) w0 ho3 hb3 rfl w.heap.size (.slice A d.length c) d rfl ?_ ?_ ?_ ?_); exact hvd.out.below (hbox.out.below.trans (hb3.mono (by omega))); exact hb3.size; (focus (simp; omega)); intro v5 w5 ho5 hb5 _; have x5 := (hbox.out.cell _ hb5).2.2.2.2.2)
        | ((go_at_call 31; refine (hH v5 _ ?_).out.mono ?_); exact ho5.sees; rintro e w6 ⟨v6, rfl, ho6, hb6⟩; have hb6 := hb5.trans (hb6.mono hb5.size); have x6 := (hbox.out.cell _ hb6).2.2.2.2.2))
      have hfin := ho6.base (B := w.heap.size) (by have := hb5.size; omega)
      have hbf := hbox.out.below.trans (hb6.mono (by omega))
      clear hwr ho6
      go_wp2
      go_ret2
      exact ⟨_, rfl, hfin, hbf⟩
end Go.Proofs.Ythlanmomgpcbcaa
