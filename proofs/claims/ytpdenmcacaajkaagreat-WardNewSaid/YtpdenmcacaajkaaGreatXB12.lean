/- Texts AlP, NdC in one. For what each says in front of its theorems. -/
import Derived.Test.YtpdenmcacaajkaaGreatXB9
import Derived.Test.YtpdenmcacaajkaaGreatXB10
import Derived.Test.YtpdenmcacaajkaaGreatXB11
/-! ### AlP -/
namespace Go.Proofs.YtpdenmcacaajkaaGreat
open Go.RowKit

theorem alc_size (V : Value) (n r : Nat → Nat) : (alc V n r).size = 17 := rfl
/-- An Alarms in memory: its rules lie in no block of F. -/
structure APt (c : Cx 50) (V : Value) (F : List Nat) (W : World) (g : Nat) (l : List R4) (n r : Nat → Nat) : Prop where
  ex : PB c W g (alc V n r) ∧ SeesRs W W.heap.size V l ∧ ∀ f, f ∈ F → l ≠ [] → V.ownBlock ≠ some f
  len : l.length ≤ 8
  n16 : ∀ i, i < 8 → n i < 16
  r16 : ∀ i, i < 8 → r i < 16
section
variable {c : Cx 50} {V : Value} {F : List Nat} {W W' : World} {g g' : Nat} {l : List R4} {n r : Nat → Nat}
theorem APt.lt (h : APt c V F W g l n r) : g < W.heap.size := by
  obtain ⟨hB, -⟩ := h.ex
  exact hB.lt
theorem APt.keep (h : APt c V F W g l n r) (k : Kp F W W') (hb : W'.heap[g]? = W.heap[g]?) : APt c V F W' g l n r := by
  obtain ⟨hB, hS, hF⟩ := h.ex
  exact ⟨⟨hb.trans hB, hS.keepF hF k, hF⟩, h.len, h.n16, h.r16⟩
theorem APt.below (h : APt c V F W g l n r) (k : Below W.heap.size W W') : APt c V F W' g l n r := h.keep (kp_below k) (k.block g h.lt)
theorem APt.only (h : APt c V F W g l n r) (k : Only g' W W') (hne : g ≠ g') (hF : g' ∈ F) : APt c V F W' g l n r := h.keep (k.kp hF) (k.block g h.lt (by intro e; cases e; exact hne rfl))
theorem APt.frozen (h : APt c V F W g l n r) (o : Nat) : W.frozen? ⟨g, o, none⟩ = false := by
  obtain ⟨hB, -⟩ := h.ex
  exact hB.frozen _
theorem APt.cs (h : APt c V F W g l n r) : ∃ A d, W.cell? ⟨g, 50, none⟩ = some (.slice A l.length d) ∧ SeesRs W W.heap.size (.slice A l.length d) l := by
  obtain ⟨hB, hS, -⟩ := h.ex
  obtain ⟨A, d, rfl, -⟩ := hS.at_
  exact ⟨A, d, hB.cell 0 rfl, hS⟩
theorem APt.cn (h : APt c V F W g l n r) {i : Nat} (hi : i < 8) : W.cell? ⟨g, 51 + i, none⟩ = some (.int .i64 (n i : Nat)) := by
  obtain ⟨hB, -⟩ := h.ex
  exact PBa (hB.cell _ (alc_n _ _ _ hi)) (by omega)
theorem APt.cr (h : APt c V F W g l n r) {i : Nat} (hi : i < 8) : W.cell? ⟨g, 59 + i, none⟩ = some (.int .i64 (r i : Nat)) := by
  obtain ⟨hB, -⟩ := h.ex
  exact PBa (hB.cell _ (alc_r _ _ _ hi)) (by omega)
theorem APt.setr (h : APt c V F W g l n r) (hg : g ∈ F) {i x : Nat} (hi : i < 8) (hx : x < 16) : APt c V F (W.setCell ⟨g, 59 + i, none⟩ (.int .i64 x)) g l n (upd r i x) := by
  obtain ⟨hB, hS, hF⟩ := h.ex
  have hkp : Kp F W (W.setCell ⟨g, 59 + i, none⟩ (.int .i64 x)) := ((Only.refl g W).set _ _).kp hg
  refine ⟨⟨PBs (hB.set (9 + i) (by rw [alc_size]; omega) _) (by omega) (set_r _ _ _ hi _), hS.keepF hF hkp, hF⟩, h.len, h.n16, fun j hj => ?_⟩
  simp only [upd]
  split
  · exact hx
  · exact h.r16 j hj
theorem APt.setn (h : APt c V F W g l n r) (hg : g ∈ F) {i x : Nat} (hi : i < 8) (hx : x < 16) : APt c V F (W.setCell ⟨g, 51 + i, none⟩ (.int .i64 x)) g l (upd n i x) r := by
  obtain ⟨hB, hS, hF⟩ := h.ex
  have hkp : Kp F W (W.setCell ⟨g, 51 + i, none⟩ (.int .i64 x)) := ((Only.refl g W).set _ _).kp hg
  refine ⟨⟨PBs (hB.set (1 + i) (by rw [alc_size]; omega) _) (by omega) (set_n _ _ _ hi _), hS.keepF hF hkp, hF⟩, h.len, fun j hj => ?_, h.r16⟩
  simp only [upd]
  split
  · exact hx
  · exact h.n16 j hj
theorem APt.drew (h : APt c V F W g l n r) : APt c V F W.drew g l n r := h.below (Below.refl _ W).drew
theorem APt.alike {n' r' : Nat → Nat} (h : APt c V F W g l n r) (hn : ∀ i, i < 8 → n i = n' i) (hr : ∀ i, i < 8 → r i = r' i) : APt c V F W g l n' r' := by
  obtain ⟨hB, hS, hF⟩ := h.ex
  refine ⟨⟨hB.eq ?_, hS, hF⟩, h.len, fun i hi => hn i hi ▸ h.n16 i hi, fun i hi => hr i hi ▸ h.r16 i hi⟩
  unfold alc
  rw [hn 0 (by omega), hn 1 (by omega), hn 2 (by omega), hn 3 (by omega), hn 4 (by omega), hn 5 (by omega), hn 6 (by omega), hn 7 (by omega), hr 0 (by omega), hr 1 (by omega), hr 2 (by omega), hr 3 (by omega), hr 4 (by omega), hr 5 (by omega), hr 6 (by omega), hr 7 (by omega)]
end
theorem APt.set8 {c : Cx 50} {V : Value} {F : List Nat} {W : World} {g : Nat} {l : List R4} {n r : Nat → Nat} (h : APt c V F W g l n r) (hg : g ∈ F) (N : Nat → Nat) (hN : ∀ i, N i < 16) : APt c V F ((((((((W.setCell ⟨g, 51, none⟩ (.int .i64 (N 0 : Nat))).setCell ⟨g, 52, none⟩ (.int .i64 (N 1 : Nat))).setCell ⟨g, 53, none⟩ (.int .i64 (N 2 : Nat))).setCell ⟨g, 54, none⟩ (.int .i64 (N 3 : Nat))).setCell ⟨g, 55, none⟩ (.int .i64 (N 4 : Nat))).setCell ⟨g, 56, none⟩ (.int .i64 (N 5 : Nat))).setCell ⟨g, 57, none⟩ (.int .i64 (N 6 : Nat))).setCell ⟨g, 58, none⟩ (.int .i64 (N 7 : Nat))) g l N r ∧ Only g W ((((((((W.setCell ⟨g, 51, none⟩ (.int .i64 (N 0 : Nat))).setCell ⟨g, 52, none⟩ (.int .i64 (N 1 : Nat))).setCell ⟨g, 53, none⟩ (.int .i64 (N 2 : Nat))).setCell ⟨g, 54, none⟩ (.int .i64 (N 3 : Nat))).setCell ⟨g, 55, none⟩ (.int .i64 (N 4 : Nat))).setCell ⟨g, 56, none⟩ (.int .i64 (N 5 : Nat))).setCell ⟨g, 57, none⟩ (.int .i64 (N 6 : Nat))).setCell ⟨g, 58, none⟩ (.int .i64 (N 7 : Nat))) :=
  ⟨(((((((((h).setn hg (i := 0) (by omega) (hN 0)).setn hg (i := 1) (by omega) (hN 1)).setn hg (i := 2) (by omega) (hN 2)).setn hg (i := 3) (by omega) (hN 3)).setn hg (i := 4) (by omega) (hN 4)).setn hg (i := 5) (by omega) (hN 5)).setn hg (i := 6) (by omega) (hN 6)).setn hg (i := 7) (by omega) (hN 7)).alike (fun i hi => under8 (p := fun i => _ = N i) hi rfl rfl rfl rfl rfl rfl rfl rfl) (fun _ _ => rfl), ((((((((Only.refl g W).set _ _).set _ _).set _ _).set _ _).set _ _).set _ _).set _ _).set _ _⟩
/-- A store's Get, handed to Look. -/
def ndGet (g : Nat) : Value := .func (.func 95) #[.pointer (some ⟨g, 26, none⟩)] #[]
set_option maxRecDepth 100000 in
set_option maxHeartbeats 4000000 in
theorem look_ap (c : Cx 50) (c' : Cx 26) (V : Value) (G : Nat → Prop) (F : List Nat) (g : Nat) (l : List R4) (n r : Nat → Nat) (s : MS) (w : World) (h : APt c V F w g l n r) (hg : g ∈ F) (p : SPt c' G F w g s) :
    Calls Tryz.prog 151 #[.pointer (some ⟨g, 50, none⟩), ndGet g] w fun e w' => e = .returned (.tuple #[]) ∧ APt c V F w' g l (nowM l s) (fun i => r i ||| nowM l s i) ∧ Only g w w' := by
  have h8 := h.len
  have hgl := h.lt
  obtain ⟨A, d, c0, hS⟩ := h.cs
  obtain ⟨A', d', e, v1, v2, v3, v4⟩ := hS.at_
  cases e
  unfold maxLen at v2
  have HX : Hid (0 < l.length → ∃ b off, A = some ⟨b, off, none⟩ ∧ ∀ W, Below w.heap.size w W → ∀ k, k < l.length → AtRl W b (off + k * 4) (l.getD k default)) := Lib.hid fun h0 => by
    obtain ⟨b, off, hA, hb, hc⟩ := v3 h0
    exact ⟨b, off, hA, fun W hW k hk => (hc k hk).keep fun o => hW.cell (p := ⟨b, o, none⟩) hb⟩
  have HR := fun i W (hW : Below w.heap.size w W) => Lib.hid (get_sp c' G F g s i W (SPt.below p hW))
  have HL := fun i => (p.2.gd i).2
  have HK : Hid (APt c V F w g l n r) := Lib.hid h
  have hmf : ∀ (fn : Fn) (first cap : Array Value) (w : World), (Instr.makeFunc fn first cap).run Tryz.prog w = .ok (.func fn first cap) w := fun _ _ _ _ => rfl
  unfold ndGet
  clear hS v1 v2 v3 v4 h p
  go_enter_defers Tryz.func151, Tryz.ntmps151
  go_wp2_with fail
  go_loopw [16] (fun i wr => ∃ k : Nat, k ≤ l.length ∧ i = .int .i64 k ∧ Blk wr w.heap.size (c8 fun j => if j < k then nowM l s j else 0) 66 ∧ Below w.heap.size w wr) (fun i _ => l.length - (intOf i).toNat)
  case atStart => exact ⟨0, by omega, rfl, Blk.new _ _ rfl _ _, (Below.refl _ _).alloc (Nat.le_refl _) _⟩
  case round =>
    obtain ⟨k, hk, rfl, hB, b⟩ := hrel
    by_cases hlt : k < l.length
    · have r1 : decide ((k : Int) < ((l.length : Nat) : Int)) = true := decide_eq_true (by omega)
      obtain ⟨bl, off, rfl, HG⟩ := HX.out (by omega)
      obtain ⟨x0, x1, x2, x3⟩ := HG _ b k hlt
      clear HG HX
      generalize hq : l.getD k default = q at *
      have hnk : nowM l s k = whyM q (s.gd q.n) (s.ga q.n) (s.gg q.n) := by unfold nowM; rw [if_pos hlt, hq]
      have hn16 := nowM_lt l s k
      obtain ⟨qn, ql, qh, qs⟩ := q
      have hRq := HR qn
      have bX := b.alloc b.size (.cells #[.int .i64 qn, .int .i64 ql, .int .i64 qh, .int .i64 qs] 80)
      have hX := Blk.new wr wr.heap.size rfl #[.int .i64 qn, .int .i64 ql, .int .i64 qh, .int .i64 qs] 80
      have hBX := hB.alloc (.cells #[.int .i64 qn, .int .i64 ql, .int .i64 qh, .int .i64 qs] 80)
      have hbs := b.size
      clear HR hq
      go_wp2_with fail
      refine wp_onlyN ?_
      go_region_with (first
        | (go_at_call 95; refine (hRq _ bX.drew).out.mono ?_; rintro _ w2 ⟨v2, rfl, hv2, -, b2⟩; have hl2 := HL qn; have hX2 := hX.drew.below b2 (by simp); have hBX2 := hBX.drew.below b2 (by simp; omega); have b2 := bX.drew.trans (b2.mono (by simp; omega)); have y0 := hX2.cell 0 (x := .int .i64 qn) rfl; have y1 := hX2.cell 1 (x := .int .i64 ql) rfl; have y2 := hX2.cell 2 (x := .int .i64 qh) rfl; have y3 := hX2.cell 3 (x := .int .i64 qs) rfl)
        | (go_at_call 171; refine (why_al ⟨qn, ql, qh, qs⟩ v2 _ _ _ _ _ hv2 hl2).mono ?_; rintro _ w3 ⟨rfl, b3⟩; have hB3 := hBX2.below b3 hBX2.lt; have b3 := b2.trans (b3.mono b2.size); have z0 := hB3.cell k (c8_at _ (by omega)); have z1 := hB3.frozen k))
      all_goals
        unfold onlyN
        go_wp2
        go_roundw
        case rel =>
          refine ⟨k + 1, by omega, by go_num, (hB3.set k _).eq ((c8_set _ (by omega) _).trans (congrArg c8 (funext fun j => ?_))), b3.setCell (by simp) _⟩
          simp only [upd]
          rcases lt_or_eq_or j k with h | h | h
          · rw [if_neg (by omega), if_pos h, if_pos (by omega)]
          · subst h
            rw [if_pos rfl, if_pos (by omega), hnk]
          · rw [if_neg (by omega), if_neg (by omega), if_neg (by omega)]
        case measure => simp [intOf]; omega
    · obtain rfl : k = l.length := by omega
      have r1 : decide (((l.length : Nat) : Int) < ((l.length : Nat) : Int)) = false := decide_eq_false (by omega)
      have hB : Blk wr w.heap.size (c8 (nowM l s)) 66 := hB.eq (congrArg c8 (funext fun j => by
        split
        · rfl
        · rename_i h
          unfold nowM
          rw [if_neg h]))
      have ha := HK.out.below b
      have y0 := hB.cell 0 (x := .int .i64 (nowM l s 0 : Nat)) rfl
      have y1 := hB.cell 1 (x := .int .i64 (nowM l s 1 : Nat)) rfl
      have y2 := hB.cell 2 (x := .int .i64 (nowM l s 2 : Nat)) rfl
      have y3 := hB.cell 3 (x := .int .i64 (nowM l s 3 : Nat)) rfl
      have y4 := hB.cell 4 (x := .int .i64 (nowM l s 4 : Nat)) rfl
      have y5 := hB.cell 5 (x := .int .i64 (nowM l s 5 : Nat)) rfl
      have y6 := hB.cell 6 (x := .int .i64 (nowM l s 6 : Nat)) rfl
      have y7 := hB.cell 7 (x := .int .i64 (nowM l s 7 : Nat)) rfl
      have z0 := ha.cn (i := 0) (by omega)
      have f0 := ha.frozen 51
      have z1 := ha.cn (i := 1) (by omega)
      have f1 := ha.frozen 52
      have z2 := ha.cn (i := 2) (by omega)
      have f2 := ha.frozen 53
      have z3 := ha.cn (i := 3) (by omega)
      have f3 := ha.frozen 54
      have z4 := ha.cn (i := 4) (by omega)
      have f4 := ha.frozen 55
      have z5 := ha.cn (i := 5) (by omega)
      have f5 := ha.frozen 56
      have z6 := ha.cn (i := 6) (by omega)
      have f6 := ha.frozen 57
      have z7 := ha.cn (i := 7) (by omega)
      have f7 := ha.frozen 58
      obtain ⟨hA, hO⟩ := ha.set8 hg (nowM l s) (nowM_lt l s)
      replace hO := (only_of_below g b).trans hO
      clear HX HR HL
      go_wp2_with fail
      have hN := nowM_lt l s
      clear ha hB y0 y1 y2 y3 y4 y5 y6 y7 z0 z1 z2 z3 z4 z5 z6 z7 f0 f1 f2 f3 f4 f5 f6 f7 b c0 HK
      generalize hNe : nowM l s = N at *
      go_loopw [35] (fun i wr => ∃ k : Nat, k ≤ 8 ∧ i = .int .i64 k ∧ APt c V F wr g l N (fun j => if j < k then r j ||| N j else r j) ∧ Only g w wr) (fun i _ => 8 - (intOf i).toNat)
      case atStart => exact ⟨0, by omega, rfl, hA, hO⟩
      case round =>
        clear hA hO
        obtain ⟨k, hk, rfl, hA, hO⟩ := hrel
        by_cases hlt : k < 8
        · have r2 : decide ((k : Int) < 8) = true := decide_eq_true (by omega)
          have cr := hA.cr hlt
          simp only [if_neg (Nat.lt_irrefl k)] at cr
          have fr := hA.frozen (59 + k)
          have hor := or_16 (hA.r16 k hlt) (hN k)
          simp only [if_neg (Nat.lt_irrefl k)] at hor
          have hix := index8 N hlt
          have hA0 := Lib.hid hA
          clear hA
          go_wp2_with fail
          go_region
          all_goals
            go_wp2
            go_roundw
            case rel =>
              refine ⟨k + 1, by omega, by go_num, (hA0.out.drew.setr hg hlt (or16_lt (by have := hA0.out.r16 k hlt; simpa using this) (hN k))).alike (fun _ _ => rfl) (fun j _ => ?_), (hO.drew).set _ _⟩
              simp only [upd]
              rcases lt_or_eq_or j k with h | h | h
              · rw [if_neg (by omega), if_pos h, if_pos (by omega)]
              · subst h
                rw [if_pos rfl, if_pos (by omega)]
              · rw [if_neg (by omega), if_neg (by omega), if_neg (by omega)]
            case measure => simp [intOf]; omega
        · obtain rfl : k = 8 := by omega
          have hA := hA.alike (n' := N) (r' := fun i => r i ||| N i) (fun _ _ => rfl) (fun i hi => by simp only [if_pos hi])
          have hFin : APt c V F wr g l (nowM l s) (fun i => r i ||| nowM l s i) ∧ Only g w wr := by
            rw [hNe]
            exact ⟨hA, hO⟩
          clear hA hO
          go_wp2
          refine leaves_cons (f := 170) (args := #[]) (by simp) (by simp [go_sem]) ?_
          refine (rec_al _).mono ?_
          rintro e u' w'' ⟨rfl, rfl, rfl⟩
          exact ⟨.tuple #[], results_none (by rfl) _ _ _, rfl, hFin⟩
end Go.Proofs.YtpdenmcacaajkaaGreat

/-! ### NdC -/
namespace Go.Proofs.YtpdenmcacaajkaaGreat
open Go.RowKit

def ndH (m : NM) (V D : Value) (b : Bool) : Array Value := #[V, .int .i64 m.t.dr, .int .i64 m.t.wi, .int .i64 m.t.lm, .bool m.me.sy, .bool m.me.inf, .int .i64 m.me.li, .int .i64 m.me.sz, .int .i64 (m.i : Nat), .int .i64 m.dr, .int .i64 (m.st : Nat), .int .i64 m.rd, .int .i64 (m.sl : Nat), .int .i64 (m.wt : Nat), .bool b, .int .i64 m.tm, D]
def tyc (s : TS) : Array Value := #[.int .i64 (s.m : Nat), .int .i64 (s.a : Nat), .int .i64 (s.f : Nat)]
/-- A node's cells. -/
def ndW (H : Array Value) (T : TS) (lm : Int) (ck : List Int) (sv : Nat → Value) (a : Nat → Int) (q : Nat → Bool) (R : Value) (n r : Nat → Nat) : Array Value := H ++ tyc T ++ clk lm ck ++ stc sv a q ++ alc R n r
/-- What a node's slices hold: in no block g, but in blocks of G. -/
structure NV (G : Nat → Prop) (W : World) (g : Nat) (ns : List Tb.D) (da : List Int) (sd : Nat → List Int) (al : List R4) (V D R : Value) (sv : Nat → Value) : Prop where
  t : SeesT W W.heap.size V ns
  tf : ns ≠ [] → V.ownBlock ≠ some g
  tn : Nar G V ns
  d : DatG G [g] W D da
  s : ∀ i, i < 8 → DatG G [g] W (sv i) (sd i)
  r : SeesRs W W.heap.size R al
  rf : ∀ f, f ∈ [g] → al ≠ [] → R.ownBlock ≠ some f
  rn : Nar G R al
/-- A node. -/
structure NA (b : Bool) (G : Nat → Prop) (W : World) (g : Nat) (m : NM) : Prop where
  ex : ∃ V D R sv, Blk W g (ndW (ndH m V D b) m.ty m.t.lm m.ck sv m.so.a m.so.g R m.an m.ar) 77 ∧ NV G W g m.t.ns m.da m.so.d m.al V D R sv
  tyo : m.ty.m < 256
  cko : m.ck.length ≤ 4
  soo : m.so.ok
  al8 : m.al.length ≤ 8
  n16 : ∀ i, i < 8 → m.an i < 16
  r16 : ∀ i, i < 8 → m.ar i < 16
section
variable {b : Bool} {G G' : Nat → Prop} {W W' : World} {g : Nat} {m : NM} {V D R : Value} {sv : Nat → Value}
theorem SeesT.keepF {l : List Tb.D} (h : SeesT W W.heap.size V l) (hF : l ≠ [] → V.ownBlock ≠ some g) (k : Kp [g] W W') : SeesT W' W'.heap.size V l := ⟨by
  obtain ⟨A, c, rfl, h1, h2, h3, h4⟩ := h.at_
  refine ⟨A, c, rfl, h1, h2, fun h0 => ?_, h4⟩
  obtain ⟨b, off, rfl, hb, hc⟩ := h3 h0
  have hn : b ∉ [g] := fun hm => hF (List.length_pos_iff.1 h0) (by rw [List.mem_singleton] at hm; rw [hm]; rfl)
  exact ⟨b, off, rfl, Nat.lt_of_lt_of_le hb k.size, fun j hj => (hc j hj).keep fun o => by simp only [World.cell?, k.block b hb hn]⟩⟩
theorem NV.keep (h : NV G W g m.t.ns m.da m.so.d m.al V D R sv) (k : Kp [g] W W') : NV G W' g m.t.ns m.da m.so.d m.al V D R sv :=
  ⟨h.t.keepF h.tf k, h.tf, h.tn, h.d.keep k, fun i hi => (h.s i hi).keep k, h.r.keepF h.rf k, h.rf, h.rn⟩
theorem NA.lt (h : NA b G W g m) : g < W.heap.size := by
  obtain ⟨V, D, R, sv, hB, -⟩ := h.ex
  exact hB.lt
theorem NA.keep (h : NA b G W g m) (k : Kp [g] W W') (e : W'.heap[g]? = W.heap[g]?) : NA b G W' g m := by
  obtain ⟨V, D, R, sv, hB, hV⟩ := h.ex
  exact ⟨⟨V, D, R, sv, e.trans hB, hV.keep k⟩, h.tyo, h.cko, h.soo, h.al8, h.n16, h.r16⟩
theorem NA.below (h : NA b G W g m) (k : Below W.heap.size W W') : NA b G W' g m := h.keep (kp_below k) (k.block g h.lt)
theorem NA.drew (h : NA b G W g m) : NA b G W.drew g m := h.below (Below.refl _ W).drew
theorem NA.drewN (h : NA b G W g m) (n : Nat) : NA b G (W.drewN n) g m := h.below (below_drewN (Below.refl _ W) n)
theorem NA.alloc (h : NA b G W g m) (o : Obj) : NA b G (W.alloc o) g m := h.below ((Below.refl _ W).alloc (Nat.le_refl _) o)
theorem NA.mono (h : NA b G W g m) (hG : ∀ x, G x → G' x) : NA b G' W g m := by
  obtain ⟨V, D, R, sv, hB, hV⟩ := h.ex
  have hn : ∀ {α : Type} {v : Value} {l : List α}, Nar G v l → Nar G' v l := fun h h0 x hx => hG x (h h0 x hx)
  exact ⟨⟨V, D, R, sv, hB, ⟨hV.t, hV.tf, hn hV.tn, ⟨hV.d.1, hn hV.d.2⟩, fun i hi => ⟨(hV.s i hi).1, hn (hV.s i hi).2⟩, hV.r, hV.rf, hn hV.rn⟩⟩, h.tyo, h.cko, h.soo, h.al8, h.n16, h.r16⟩
theorem NA.frozen (h : NA b G W g m) (o : Nat) : W.frozen? ⟨g, o, none⟩ = false := by
  obtain ⟨V, D, R, sv, hB, -⟩ := h.ex
  exact hB.frozen _
/-! ### Its parts. -/
theorem sz20 (V D : Value) (b : Bool) (m : NM) : (ndH m V D b ++ tyc m.ty).size = 20 := by simp only [Array.size_append]; rfl
theorem sz26 (V D : Value) (b : Bool) (m : NM) : (ndH m V D b ++ tyc m.ty ++ clk m.t.lm m.ck).size = 26 := by simp only [Array.size_append]; rfl
theorem sz50 (V D : Value) (b : Bool) (m : NM) (sv : Nat → Value) : (ndH m V D b ++ tyc m.ty ++ clk m.t.lm m.ck ++ stc sv m.so.a m.so.g).size = 50 := by simp only [Array.size_append]; rfl
theorem NA.tp (h : NA b G W g m) : ∃ c, TPt c W g m.ty ∧ ∀ W' ty, TPt c W' g ty → Only g W W' → NA b G W' g { m with ty := ty } := by
  obtain ⟨V, D, R, sv, hB, hV⟩ := h.ex
  have e : ∀ T, ndW (ndH m V D b) T m.t.lm m.ck sv m.so.a m.so.g R m.an m.ar = ndH m V D b ++ tyc T ++ (clk m.t.lm m.ck ++ stc sv m.so.a m.so.g ++ alc R m.an m.ar) := fun T => by simp only [ndW, Array.append_assoc]
  exact ⟨⟨ndH m V D b, clk m.t.lm m.ck ++ stc sv m.so.a m.so.g ++ alc R m.an m.ar, 77, rfl⟩, ⟨hB.eq (e _), h.tyo⟩, fun W' ty hT hO => ⟨⟨V, D, R, sv, Blk.eq hT.1 (e _).symm, hV.keep (hO.kp (by simp))⟩, hT.2, h.cko, h.soo, h.al8, h.n16, h.r16⟩⟩
theorem NA.kp (h : NA b G W g m) : ∃ c, KPt c W g m.t.lm m.ck ∧ ∀ W' l, KPt c W' g m.t.lm l → Only g W W' → NA b G W' g { m with ck := l } := by
  obtain ⟨V, D, R, sv, hB, hV⟩ := h.ex
  have e : ∀ l, ndW (ndH m V D b) m.ty m.t.lm l sv m.so.a m.so.g R m.an m.ar = (ndH m V D b ++ tyc m.ty) ++ clk m.t.lm l ++ (stc sv m.so.a m.so.g ++ alc R m.an m.ar) := fun l => by simp only [ndW, Array.append_assoc]
  exact ⟨⟨ndH m V D b ++ tyc m.ty, stc sv m.so.a m.so.g ++ alc R m.an m.ar, 77, sz20 V D b m⟩, ⟨hB.eq (e _), h.cko⟩, fun W' l hT hO => ⟨⟨V, D, R, sv, Blk.eq hT.1 (e _).symm, hV.keep (hO.kp (by simp))⟩, h.tyo, hT.2, h.soo, h.al8, h.n16, h.r16⟩⟩
theorem NA.sp (h : NA b G W g m) : ∃ c, SPt c G [g] W g m.so ∧ ∀ W' s, SPt c G [g] W' g s → Only g W W' → NA b G W' g { m with so := s } := by
  obtain ⟨V, D, R, sv, hB, hV⟩ := h.ex
  have e : ∀ sv a q, ndW (ndH m V D b) m.ty m.t.lm m.ck sv a q R m.an m.ar = (ndH m V D b ++ tyc m.ty ++ clk m.t.lm m.ck) ++ stc sv a q ++ alc R m.an m.ar := fun sv a q => by simp only [ndW, Array.append_assoc]
  refine ⟨⟨ndH m V D b ++ tyc m.ty ++ clk m.t.lm m.ck, alc R m.an m.ar, 77, sz26 V D b m⟩, ⟨⟨sv, hB.eq (e _ _ _), hV.s⟩, h.soo⟩, fun W' s hT hO => ?_⟩
  obtain ⟨⟨sv', hB', hs'⟩, hk⟩ := hT
  have hV' := hV.keep (hO.kp (by simp))
  exact ⟨⟨V, D, R, sv', Blk.eq hB' (e _ _ _).symm, ⟨hV'.t, hV'.tf, hV'.tn, hV'.d, hs', hV'.r, hV'.rf, hV'.rn⟩⟩, h.tyo, h.cko, hk, h.al8, h.n16, h.r16⟩
theorem NA.ap (h : NA b G W g m) : ∃ c c' V, APt c V [g] W g m.al m.an m.ar ∧ SPt c' G [g] W g m.so ∧ ∀ W' n r, APt c V [g] W' g m.al n r → Only g W W' → NA b G W' g { m with an := n, ar := r } := by
  obtain ⟨c', hS, -⟩ := h.sp
  obtain ⟨V, D, R, sv, hB, hV⟩ := h.ex
  have e : ∀ n r, ndW (ndH m V D b) m.ty m.t.lm m.ck sv m.so.a m.so.g R n r = (ndH m V D b ++ tyc m.ty ++ clk m.t.lm m.ck ++ stc sv m.so.a m.so.g) ++ alc R n r ++ #[] := fun n r => by simp only [ndW, Array.append_assoc, Array.append_empty]
  refine ⟨⟨ndH m V D b ++ tyc m.ty ++ clk m.t.lm m.ck ++ stc sv m.so.a m.so.g, #[], 77, sz50 V D b m sv⟩, c', R, ⟨⟨hB.eq (e _ _), hV.r, hV.rf⟩, h.al8, h.n16, h.r16⟩, hS, fun W' n r hT hO => ?_⟩
  exact ⟨⟨V, D, R, sv, Blk.eq hT.ex.1 (e _ _).symm, hV.keep (hO.kp (by simp))⟩, h.tyo, h.cko, h.soo, h.al8, hT.n16, hT.r16⟩
/-! ### Its own cells. -/
def cxH (m : NM) (sv : Nat → Value) (R : Value) : Cx 0 := ⟨#[], tyc m.ty ++ clk m.t.lm m.ck ++ stc sv m.so.a m.so.g ++ alc R m.an m.ar, 77, rfl⟩
theorem ndW_hd (H : Array Value) (m : NM) (sv : Nat → Value) (R : Value) : ndW H m.ty m.t.lm m.ck sv m.so.a m.so.g R m.an m.ar = #[] ++ H ++ (tyc m.ty ++ clk m.t.lm m.ck ++ stc sv m.so.a m.so.g ++ alc R m.an m.ar) := by simp only [ndW, Array.append_assoc, Array.empty_append]
theorem NA.hd (h : NA b G W g m) : ∃ V D R sv, PB (cxH m sv R) W g (ndH m V D b) ∧ NV G W g m.t.ns m.da m.so.d m.al V D R sv := by
  obtain ⟨V, D, R, sv, hB, hV⟩ := h.ex
  exact ⟨V, D, R, sv, hB.eq (ndW_hd _ _ _ _), hV⟩
theorem NA.cell (h : NA b G W g m) (k : Nat) (x : Value) (hk : 0 < k ∧ k < 16) (hx : (ndH m (.bool false) (.bool false) b)[k]? = some x) : W.cell? ⟨g, k, none⟩ = some x := by
  obtain ⟨V, D, R, sv, hB, -⟩ := h.hd
  have e : (ndH m V D b)[k]? = (ndH m (.bool false) (.bool false) b)[k]? := by
    rcases (by omega : k = 1 ∨ k = 2 ∨ k = 3 ∨ k = 4 ∨ k = 5 ∨ k = 6 ∨ k = 7 ∨ k = 8 ∨ k = 9 ∨ k = 10 ∨ k = 11 ∨ k = 12 ∨ k = 13 ∨ k = 14 ∨ k = 15) with rfl | rfl | rfl | rfl | rfl | rfl | rfl | rfl | rfl | rfl | rfl | rfl | rfl | rfl | rfl <;> rfl
  exact PBa (hB.cell k (e.trans hx)) (Nat.zero_add k)
theorem NA.c1 (h : NA b G W g m) : W.cell? ⟨g, 1, none⟩ = some (.int .i64 m.t.dr) := h.cell 1 _ (by omega) rfl
theorem NA.c2 (h : NA b G W g m) : W.cell? ⟨g, 2, none⟩ = some (.int .i64 m.t.wi) := h.cell 2 _ (by omega) rfl
theorem NA.c3 (h : NA b G W g m) : W.cell? ⟨g, 3, none⟩ = some (.int .i64 m.t.lm) := h.cell 3 _ (by omega) rfl
theorem NA.c4 (h : NA b G W g m) : W.cell? ⟨g, 4, none⟩ = some (.bool m.me.sy) := h.cell 4 _ (by omega) rfl
theorem NA.c5 (h : NA b G W g m) : W.cell? ⟨g, 5, none⟩ = some (.bool m.me.inf) := h.cell 5 _ (by omega) rfl
theorem NA.c6 (h : NA b G W g m) : W.cell? ⟨g, 6, none⟩ = some (.int .i64 m.me.li) := h.cell 6 _ (by omega) rfl
theorem NA.c7 (h : NA b G W g m) : W.cell? ⟨g, 7, none⟩ = some (.int .i64 m.me.sz) := h.cell 7 _ (by omega) rfl
theorem NA.c8 (h : NA b G W g m) : W.cell? ⟨g, 8, none⟩ = some (.int .i64 (m.i : Nat)) := h.cell 8 _ (by omega) rfl
theorem NA.c9 (h : NA b G W g m) : W.cell? ⟨g, 9, none⟩ = some (.int .i64 m.dr) := h.cell 9 _ (by omega) rfl
theorem NA.c10 (h : NA b G W g m) : W.cell? ⟨g, 10, none⟩ = some (.int .i64 (m.st : Nat)) := h.cell 10 _ (by omega) rfl
theorem NA.c11 (h : NA b G W g m) : W.cell? ⟨g, 11, none⟩ = some (.int .i64 m.rd) := h.cell 11 _ (by omega) rfl
theorem NA.c12 (h : NA b G W g m) : W.cell? ⟨g, 12, none⟩ = some (.int .i64 (m.sl : Nat)) := h.cell 12 _ (by omega) rfl
theorem NA.c13 (h : NA b G W g m) : W.cell? ⟨g, 13, none⟩ = some (.int .i64 (m.wt : Nat)) := h.cell 13 _ (by omega) rfl
theorem NA.c14 (h : NA b G W g m) : W.cell? ⟨g, 14, none⟩ = some (.bool b) := h.cell 14 _ (by omega) rfl
theorem NA.c15 (h : NA b G W g m) : W.cell? ⟨g, 15, none⟩ = some (.int .i64 m.tm) := h.cell 15 _ (by omega) rfl
theorem NA.cV (h : NA b G W g m) : ∃ A c, W.cell? ⟨g, 0, none⟩ = some (.slice A m.t.ns.length c) ∧ SeesT W W.heap.size (.slice A m.t.ns.length c) m.t.ns := by
  obtain ⟨V, D, R, sv, hB, hV⟩ := h.hd
  obtain ⟨A, c, rfl, -⟩ := hV.t.at_
  exact ⟨A, c, PBa (hB.cell 0 rfl) rfl, hV.t⟩
theorem NA.cD (h : NA b G W g m) : ∃ A c, W.cell? ⟨g, 16, none⟩ = some (.slice A m.da.length c) ∧ Dat [g] W (.slice A m.da.length c) m.da := by
  obtain ⟨V, D, R, sv, hB, hV⟩ := h.hd
  obtain ⟨A, c, rfl, -⟩ := hV.d.1.1.at_
  exact ⟨A, c, PBa (hB.cell 16 rfl) rfl, hV.d.1⟩
theorem NA.set_ (h : NA b G W g m) (k : Nat) (x : Value) (b' : Bool) (m' : NM) (hk : k < 17) (e : ∀ V D, (ndH m V D b).setIfInBounds k x = ndH m' V D b') (e1 : m'.t.lm = m.t.lm) (e2 : m'.ty = m.ty) (e3 : m'.ck = m.ck) (e4 : m'.so = m.so) (e5 : m'.al = m.al) (e6 : m'.an = m.an) (e7 : m'.ar = m.ar) (e8 : m'.da = m.da) (e9 : m'.t.ns = m.t.ns) : NA b' G (W.setCell ⟨g, k, none⟩ x) g m' := by
  obtain ⟨V, D, R, sv, hB, hV⟩ := h.hd
  have hB' := PBs (hB.set k (by simpa [ndH] using hk) x) (Nat.zero_add k) (e V D)
  have hV' := hV.keep (((Only.refl g W).set k x).kp (F := [g]) (by simp))
  refine ⟨⟨V, D, R, sv, Blk.eq hB' ?_, ?_⟩, e2 ▸ h.tyo, e3 ▸ h.cko, e4 ▸ h.soo, e5 ▸ h.al8, e6 ▸ h.n16, e7 ▸ h.r16⟩
  · rw [e1, e2, e3, e4, e6, e7]
    exact (ndW_hd _ _ _ _).symm
  · exact ⟨e9 ▸ hV'.t, e9 ▸ hV'.tf, e9 ▸ hV'.tn, e8 ▸ hV'.d, e4 ▸ hV'.s, e5 ▸ hV'.r, e5 ▸ hV'.rf, e5 ▸ hV'.rn⟩
theorem NA.sSt (h : NA b G W g m) (k : Nat) : NA b G (W.setCell ⟨g, 10, none⟩ (.int .i64 (k : Nat))) g { m with st := k } := h.set_ 10 _ b _ (by omega) (fun _ _ => rfl) rfl rfl rfl rfl rfl rfl rfl rfl rfl
theorem NA.sRd (h : NA b G W g m) (k : Int) : NA b G (W.setCell ⟨g, 11, none⟩ (.int .i64 k)) g { m with rd := k } := h.set_ 11 _ b _ (by omega) (fun _ _ => rfl) rfl rfl rfl rfl rfl rfl rfl rfl rfl
theorem NA.sSl (h : NA b G W g m) (k : Nat) : NA b G (W.setCell ⟨g, 12, none⟩ (.int .i64 (k : Nat))) g { m with sl := k } := h.set_ 12 _ b _ (by omega) (fun _ _ => rfl) rfl rfl rfl rfl rfl rfl rfl rfl rfl
theorem NA.sWt (h : NA b G W g m) (k : Nat) : NA b G (W.setCell ⟨g, 13, none⟩ (.int .i64 (k : Nat))) g { m with wt := k } := h.set_ 13 _ b _ (by omega) (fun _ _ => rfl) rfl rfl rfl rfl rfl rfl rfl rfl rfl
theorem NA.sSe (h : NA b G W g m) (k : Bool) : NA k G (W.setCell ⟨g, 14, none⟩ (.bool k)) g m := h.set_ 14 _ k _ (by omega) (fun _ _ => rfl) rfl rfl rfl rfl rfl rfl rfl rfl rfl
theorem NA.sTm (h : NA b G W g m) (k : Int) : NA b G (W.setCell ⟨g, 15, none⟩ (.int .i64 k)) g { m with tm := k } := h.set_ 15 _ b _ (by omega) (fun _ _ => rfl) rfl rfl rfl rfl rfl rfl rfl rfl rfl
/-- Its tally is another. -/
theorem NA.sTy (h : NA b G W g m) (T : TS) (hT : T.m < 256) : NA b G (((W.setCell ⟨g, 17, none⟩ (.int .i64 (T.m : Nat))).setCell ⟨g, 18, none⟩ (.int .i64 (T.a : Nat))).setCell ⟨g, 19, none⟩ (.int .i64 (T.f : Nat))) g { m with ty := T } := by
  obtain ⟨c, h1, h2⟩ := h.tp
  exact h2 _ T (((h1.m_ T.m hT).a_ T.a).f_ T.f) ((((Only.refl g W).set 17 _).set 18 _).set 19 _)
/-! ### Its blocks as a list. -/

theorem NA.list (h : NA b G W g m) (hg : G g) : ∃ F : List Nat, NA b (fun x => x ∈ F) W g m ∧ (∀ f, f ∈ F → G f ∧ f < W.heap.size) ∧ g ∈ F := by
  obtain ⟨V, D, R, sv, hB, hV⟩ := h.ex
  classical
  let B : {α : Type} → Value → List α → List Nat := fun v l => if l = [] then [] else v.ownBlock.toList
  have hN : ∀ {α : Type} {v : Value} {l : List α} {F : List Nat}, (∀ x, x ∈ B v l → x ∈ F) → Nar (fun x => x ∈ F) v l := fun {α v l F} hF h0 x hx => hF x (by simp only [B, if_neg h0, hx]; simp)
  have hG : ∀ {α : Type} {v : Value} {l : List α}, Nar G v l → ∀ x, x ∈ B v l → G x := fun {α v l} h x hx => by
    by_cases h0 : l = []
    · simp only [B, if_pos h0] at hx; cases hx
    · simp only [B, if_neg h0, Option.mem_toList] at hx; exact h h0 x hx
  have hL : ∀ {v : Value} {l : List Int}, SeesL W W.heap.size v l → ∀ x, x ∈ B v l → x < W.heap.size := fun {v l} h x hx => by
    by_cases h0 : l = []
    · simp only [B, if_pos h0] at hx; cases hx
    · simp only [B, if_neg h0, Option.mem_toList] at hx
      obtain ⟨A, c, rfl, -, -, h3, -⟩ := h.at_
      obtain ⟨b, off, rfl, hb, -⟩ := h3 (List.length_pos_iff.2 h0)
      simp only [Value.ownBlock, Option.some.injEq] at hx
      omega
  have hLT : ∀ x, x ∈ B V m.t.ns → x < W.heap.size := fun x hx => by
    by_cases h0 : m.t.ns = []
    · simp only [B, if_pos h0] at hx; cases hx
    · simp only [B, if_neg h0, Option.mem_toList] at hx
      obtain ⟨A, c, rfl, -, -, h3, -⟩ := hV.t.at_
      obtain ⟨b, off, rfl, hb, -⟩ := h3 (List.length_pos_iff.2 h0)
      simp only [Value.ownBlock, Option.some.injEq] at hx
      omega
  have hLR : ∀ x, x ∈ B R m.al → x < W.heap.size := fun x hx => by
    by_cases h0 : m.al = []
    · simp only [B, if_pos h0] at hx; cases hx
    · simp only [B, if_neg h0, Option.mem_toList] at hx
      obtain ⟨A, c, rfl, -, -, h3, -⟩ := hV.r.at_
      obtain ⟨b, off, rfl, hb, -⟩ := h3 (List.length_pos_iff.2 h0)
      simp only [Value.ownBlock, Option.some.injEq] at hx
      omega
  refine ⟨g :: (B V m.t.ns ++ (B D m.da ++ (B R m.al ++ (List.range 8).flatMap fun i => B (sv i) (m.so.d i)))), ⟨⟨V, D, R, sv, hB, ⟨hV.t, hV.tf, hN ?_, ⟨hV.d.1, hN ?_⟩, fun i hi => ⟨(hV.s i hi).1, hN ?_⟩, hV.r, hV.rf, hN ?_⟩⟩, h.tyo, h.cko, h.soo, h.al8, h.n16, h.r16⟩, fun f hf => ?_, List.mem_cons_self⟩
  · intro x hx; simp [hx]
  · intro x hx; simp [hx]
  · intro x hx
    refine List.mem_cons_of_mem _ (List.mem_append_right _ (List.mem_append_right _ (List.mem_append_right _ (List.mem_flatMap.2 ⟨i, List.mem_range.2 hi, hx⟩))))
  · intro x hx; simp [hx]
  · rcases List.mem_cons.1 hf with rfl | hf
    · exact ⟨hg, hB.lt⟩
    rcases List.mem_append.1 hf with hf | hf
    · exact ⟨hG hV.tn f hf, hLT f hf⟩
    rcases List.mem_append.1 hf with hf | hf
    · exact ⟨hG hV.d.2 f hf, hL hV.d.1.1 f hf⟩
    rcases List.mem_append.1 hf with hf | hf
    · exact ⟨hG hV.rn f hf, hLR f hf⟩
    · obtain ⟨i, hi, hf⟩ := List.mem_flatMap.1 hf
      have hi := List.mem_range.1 hi
      exact ⟨hG (hV.s i hi).2 f hf, hL (hV.s i hi).1.1 f hf⟩
end
end Go.Proofs.YtpdenmcacaajkaaGreat
