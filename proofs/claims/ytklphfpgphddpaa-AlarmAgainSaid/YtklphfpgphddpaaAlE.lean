/- The contracts of alarm: Look. For rules that may be. -/
import Derived.Test.YtklphfpgphddpaaAlD
namespace Go.Proofs.Ytklphfpgphddpaa
open Go.RowKit

/-- Code that ends as it is to end, and by no panic. -/
def onlyN (K : Act → World → Prop) : Exit → Act → World → Prop
  | .normal, a, w => K a w
  | _, _, _ => False
theorem wp_onlyN {P : Program} {c : Code} {Q : Exit → Act → World → Prop} {a : Act} {w : World} (h : c.wp P (onlyN (Q .normal)) a w) : c.wp P Q a w := wp_mono h fun e a w h => by
  cases e <;> first | exact h | exact h.elim
/-- What is so now. -/
def nowM (l : List R4) (s : MS) (i : Nat) : Nat := if i < l.length then whyM (l.getD i default) (s.gd (l.getD i default).n) (s.ga (l.getD i default).n) (s.gg (l.getD i default).n) else 0
theorem nowM_lt (l : List R4) (s : MS) (i : Nat) : nowM l s i < 16 := by
  unfold nowM
  split
  · exact whyM_lt _ _ _ _
  · omega
theorem AAt.set8 {F : List Nat} {W : World} {g : Nat} {l : List R4} {n r : Nat → Nat} (h : AAt F W g l n r) (hg : g ∈ F) (N : Nat → Nat) (hN : ∀ i, N i < 16) : AAt F ((((((((W.setCell ⟨g, 1, none⟩ (.int .i64 (N 0 : Nat))).setCell ⟨g, 2, none⟩ (.int .i64 (N 1 : Nat))).setCell ⟨g, 3, none⟩ (.int .i64 (N 2 : Nat))).setCell ⟨g, 4, none⟩ (.int .i64 (N 3 : Nat))).setCell ⟨g, 5, none⟩ (.int .i64 (N 4 : Nat))).setCell ⟨g, 6, none⟩ (.int .i64 (N 5 : Nat))).setCell ⟨g, 7, none⟩ (.int .i64 (N 6 : Nat))).setCell ⟨g, 8, none⟩ (.int .i64 (N 7 : Nat))) g l N r ∧ Only g W ((((((((W.setCell ⟨g, 1, none⟩ (.int .i64 (N 0 : Nat))).setCell ⟨g, 2, none⟩ (.int .i64 (N 1 : Nat))).setCell ⟨g, 3, none⟩ (.int .i64 (N 2 : Nat))).setCell ⟨g, 4, none⟩ (.int .i64 (N 3 : Nat))).setCell ⟨g, 5, none⟩ (.int .i64 (N 4 : Nat))).setCell ⟨g, 6, none⟩ (.int .i64 (N 5 : Nat))).setCell ⟨g, 7, none⟩ (.int .i64 (N 6 : Nat))).setCell ⟨g, 8, none⟩ (.int .i64 (N 7 : Nat))) :=
  ⟨(((((((((h).setn hg (i := 0) (by omega) (hN 0)).setn hg (i := 1) (by omega) (hN 1)).setn hg (i := 2) (by omega) (hN 2)).setn hg (i := 3) (by omega) (hN 3)).setn hg (i := 4) (by omega) (hN 4)).setn hg (i := 5) (by omega) (hN 5)).setn hg (i := 6) (by omega) (hN 6)).setn hg (i := 7) (by omega) (hN 7)).alike (fun i hi => under8 (p := fun i => _ = N i) hi rfl rfl rfl rfl rfl rfl rfl rfl) (fun _ _ => rfl), ((((((((Only.refl g W).set _ _).set _ _).set _ _).set _ _).set _ _).set _ _).set _ _).set _ _⟩
theorem index8 (f : Nat → Nat) {k : Nat} (hk : k < 8) (w : World) : (Instr.index 51 (.agg #[.int .i64 (f 0 : Nat), .int .i64 (f 1 : Nat), .int .i64 (f 2 : Nat), .int .i64 (f 3 : Nat), .int .i64 (f 4 : Nat), .int .i64 (f 5 : Nat), .int .i64 (f 6 : Nat), .int .i64 (f 7 : Nat)]) (.int .i64 k)).run Try.prog w = .ok (.int .i64 (f k : Nat)) w :=
  under8 (p := fun k => (Instr.index 51 (.agg #[.int .i64 (f 0 : Nat), .int .i64 (f 1 : Nat), .int .i64 (f 2 : Nat), .int .i64 (f 3 : Nat), .int .i64 (f 4 : Nat), .int .i64 (f 5 : Nat), .int .i64 (f 6 : Nat), .int .i64 (f 7 : Nat)]) (.int .i64 (k : Nat))).run Try.prog w = .ok (.int .i64 (f k : Nat)) w) hk rfl rfl rfl rfl rfl rfl rfl rfl
/-- What is handed to Look. -/
def rdV (gs : Nat) : Value := .func (.func 16) #[.pointer (some ⟨gs, 0, none⟩)] #[]
set_option maxRecDepth 100000 in
set_option maxHeartbeats 4000000 in
theorem look_al_nil (v : Value) (w : World) :
    Calls Try.prog 15 #[.pointer none, v] w fun e w' => e = .returned (.tuple #[]) ∧ w' = w := by
  go_enter_defers Try.func15, Try.ntmps15
  go_wp2
  simp [Leaves, results, Try.results15, go_sem, bodyPostD]
set_option maxRecDepth 100000 in
set_option maxHeartbeats 4000000 in
theorem look_al (F G : List Nat) (t : TypeId) (g gs : Nat) (l : List R4) (n r : Nat → Nat) (s : MS) (w : World) (h : AAt F w g l n r) (hg : g ∈ F) (p : PAt t G w gs s) :
    Calls Try.prog 15 #[.pointer (some ⟨g, 0, none⟩), rdV gs] w fun e w' => e = .returned (.tuple #[]) ∧ AAt F w' g l (nowM l s) (fun i => r i ||| nowM l s i) ∧ Only g w w' := by
  have h8 := h.len
  have hgl := h.lt
  obtain ⟨A, c, c0, hS⟩ := h.cs
  obtain ⟨A', c', e, v1, v2, v3, v4⟩ := hS.at_
  cases e
  unfold maxLen at v2
  have HX : Hid (0 < l.length → ∃ b off, A = some ⟨b, off, none⟩ ∧ ∀ W, Below w.heap.size w W → ∀ k, k < l.length → AtRl W b (off + k * 4) (l.getD k default)) := Lib.hid fun h0 => by
    obtain ⟨b, off, hA, hb, hc⟩ := v3 h0
    exact ⟨b, off, hA, fun W hW k hk => (hc k hk).keep fun o => hW.cell (p := ⟨b, o, none⟩) hb⟩
  have HR := fun i W (hW : Below w.heap.size w W) => Lib.hid (read_sd G t gs s i W (p.below hW))
  have HK : Hid (AAt F w g l n r) := Lib.hid h
  have hmf : ∀ (fn : Fn) (first cap : Array Value) (w : World), (Instr.makeFunc fn first cap).run Try.prog w = .ok (.func fn first cap) w := fun _ _ _ _ => rfl
  unfold rdV
  clear hS v1 v2 v3 v4 h p
  go_enter_defers Try.func15, Try.ntmps15
  go_wp2_with fail
  go_loopw [16] (fun i wr => ∃ k : Nat, k ≤ l.length ∧ i = .int .i64 k ∧ Blk wr w.heap.size (c8 fun j => if j < k then nowM l s j else 0) 51 ∧ Below w.heap.size w wr) (fun i _ => l.length - (intOf i).toNat)
  case atStart => exact ⟨0, by omega, rfl, Blk.new _ _ rfl _ _, (Below.refl _ _).alloc (Nat.le_refl _) _⟩
  case round =>
    obtain ⟨k, hk, rfl, hB, b⟩ := hrel
    by_cases hlt : k < l.length
    · have r1 : decide ((k : Int) < ((l.length : Nat) : Int)) = true := decide_eq_true (by omega)
      obtain ⟨bl, off, rfl, HG⟩ := HX.out (by omega)
      obtain ⟨x0, x1, x2, x3⟩ := HG _ b k hlt
      clear HG HX
      generalize hq : l.getD k default = q at *
      have hnk : nowM l s k = whyM q (s.gd q.n) (s.ga q.n) (s.gg q.n) := by unfold nowM; rw [if_pos hlt, hq]
      have hn16 := nowM_lt l s k
      obtain ⟨qn, ql, qh, qs⟩ := q
      have hRq := HR qn
      have bX := b.alloc b.size (.cells #[.int .i64 qn, .int .i64 ql, .int .i64 qh, .int .i64 qs] 23)
      have hX := Blk.new wr wr.heap.size rfl #[.int .i64 qn, .int .i64 ql, .int .i64 qh, .int .i64 qs] 23
      have hBX := hB.alloc (.cells #[.int .i64 qn, .int .i64 ql, .int .i64 qh, .int .i64 qs] 23)
      have hbs := b.size
      clear HR hq
      go_wp2_with fail
      refine wp_onlyN ?_
      go_region_with (first
        | (go_at_call 16; refine (hRq _ bX.drew).out.mono ?_; rintro _ w2 ⟨v2, rfl, hv2, hl2, b2⟩; have hX2 := hX.drew.below b2 (by simp); have hBX2 := hBX.drew.below b2 (by simp; omega); have b2 := bX.drew.trans (b2.mono (by simp; omega)); have y0 := hX2.cell 0 (x := .int .i64 qn) rfl; have y1 := hX2.cell 1 (x := .int .i64 ql) rfl; have y2 := hX2.cell 2 (x := .int .i64 qh) rfl; have y3 := hX2.cell 3 (x := .int .i64 qs) rfl)
        | (go_at_call 11; refine (why_al ⟨qn, ql, qh, qs⟩ v2 _ _ _ _ _ hv2 hl2).mono ?_; rintro _ w3 ⟨rfl, b3⟩; have hB3 := hBX2.below b3 hBX2.lt; have b3 := b2.trans (b3.mono b2.size); have z0 := hB3.cell k (c8_at _ (by omega)); have z1 := hB3.frozen k))
      all_goals
        unfold onlyN
        go_wp2
        go_roundw
        case rel =>
          refine ⟨k + 1, by omega, by go_num, (hB3.set k _).eq ((c8_set _ (by omega) _).trans (congrArg c8 (funext fun j => ?_))), b3.setCell (by simp) _⟩
          simp only [upd]
          rcases lt_or_eq_or j k with h | h | h
          · rw [if_neg (by omega), if_pos h, if_pos (by omega)]
          · subst h
            rw [if_pos rfl, if_pos (by omega), hnk]
          · rw [if_neg (by omega), if_neg (by omega), if_neg (by omega)]
        case measure => simp [intOf]; omega
    · obtain rfl : k = l.length := by omega
      have r1 : decide (((l.length : Nat) : Int) < ((l.length : Nat) : Int)) = false := decide_eq_false (by omega)
      have hB : Blk wr w.heap.size (c8 (nowM l s)) 51 := hB.eq (congrArg c8 (funext fun j => by
        split
        · rfl
        · rename_i h
          unfold nowM
          rw [if_neg h]))
      have ha := HK.out.below b
      have y0 := hB.cell 0 (x := .int .i64 (nowM l s 0 : Nat)) rfl
      have y1 := hB.cell 1 (x := .int .i64 (nowM l s 1 : Nat)) rfl
      have y2 := hB.cell 2 (x := .int .i64 (nowM l s 2 : Nat)) rfl
      have y3 := hB.cell 3 (x := .int .i64 (nowM l s 3 : Nat)) rfl
      have y4 := hB.cell 4 (x := .int .i64 (nowM l s 4 : Nat)) rfl
      have y5 := hB.cell 5 (x := .int .i64 (nowM l s 5 : Nat)) rfl
      have y6 := hB.cell 6 (x := .int .i64 (nowM l s 6 : Nat)) rfl
      have y7 := hB.cell 7 (x := .int .i64 (nowM l s 7 : Nat)) rfl
      have z0 := ha.cn (i := 0) (by omega)
      have f0 := ha.frozen 1
      have z1 := ha.cn (i := 1) (by omega)
      have f1 := ha.frozen 2
      have z2 := ha.cn (i := 2) (by omega)
      have f2 := ha.frozen 3
      have z3 := ha.cn (i := 3) (by omega)
      have f3 := ha.frozen 4
      have z4 := ha.cn (i := 4) (by omega)
      have f4 := ha.frozen 5
      have z5 := ha.cn (i := 5) (by omega)
      have f5 := ha.frozen 6
      have z6 := ha.cn (i := 6) (by omega)
      have f6 := ha.frozen 7
      have z7 := ha.cn (i := 7) (by omega)
      have f7 := ha.frozen 8
      obtain ⟨hA, hO⟩ := ha.set8 hg (nowM l s) (nowM_lt l s)
      replace hO := (only_of_below g b).trans hO
      clear HX HR
      go_wp2_with fail
      have hN := nowM_lt l s
      clear ha hB y0 y1 y2 y3 y4 y5 y6 y7 z0 z1 z2 z3 z4 z5 z6 z7 f0 f1 f2 f3 f4 f5 f6 f7 b c0 HK
      generalize hNe : nowM l s = N at *
      go_loopw [35] (fun i wr => ∃ k : Nat, k ≤ 8 ∧ i = .int .i64 k ∧ AAt F wr g l N (fun j => if j < k then r j ||| N j else r j) ∧ Only g w wr) (fun i _ => 8 - (intOf i).toNat)
      case atStart => exact ⟨0, by omega, rfl, hA, hO⟩
      case round =>
        clear hA hO
        obtain ⟨k, hk, rfl, hA, hO⟩ := hrel
        by_cases hlt : k < 8
        · have r2 : decide ((k : Int) < 8) = true := decide_eq_true (by omega)
          have cr := hA.cr hlt
          simp only [if_neg (Nat.lt_irrefl k)] at cr
          have fr := hA.frozen (9 + k)
          have hor := or_16 (hA.r16 k hlt) (hN k)
          simp only [if_neg (Nat.lt_irrefl k)] at hor
          have hix := index8 N hlt
          have hA0 := Lib.hid hA
          clear hA
          go_wp2_with fail
          go_region
          all_goals
            go_wp2
            go_roundw
            case rel =>
              refine ⟨k + 1, by omega, by go_num, (hA0.out.drew.setr hg hlt (or16_lt (by have := hA0.out.r16 k hlt; simpa using this) (hN k))).alike (fun _ _ => rfl) (fun j _ => ?_), (hO.drew).set _ _⟩
              simp only [upd]
              rcases lt_or_eq_or j k with h | h | h
              · rw [if_neg (by omega), if_pos h, if_pos (by omega)]
              · subst h
                rw [if_pos rfl, if_pos (by omega)]
              · rw [if_neg (by omega), if_neg (by omega), if_neg (by omega)]
            case measure => simp [intOf]; omega
        · obtain rfl : k = 8 := by omega
          have hA := hA.alike (n' := N) (r' := fun i => r i ||| N i) (fun _ _ => rfl) (fun i hi => by simp only [if_pos hi])
          have hFin : AAt F wr g l (nowM l s) (fun i => r i ||| nowM l s i) ∧ Only g w wr := by
            rw [hNe]
            exact ⟨hA, hO⟩
          clear hA hO
          go_wp2
          refine leaves_cons (f := 22) (args := #[]) (by simp) (by simp [go_sem]) ?_
          refine (rec_al _).mono ?_
          rintro e u' w'' ⟨rfl, rfl, rfl⟩
          exact ⟨.tuple #[], results_none (by rfl) _ _ _, rfl, hFin⟩
end Go.Proofs.Ytklphfpgphddpaa
