/- WardAlone holds: one that is alone begins, and listens again, for ever. For all arguments. -/
import Derived.Test.YtjoioojckekfhaaGreatVB52
namespace Go.Proofs.YtjoioojckekfhaaGreat
open Fr (St F)
open Clk (avg)

/-- What is written is read by the state that it was written by. -/
theorem wm_read {f : F} (h : f.is = true) : Fr.err f.bytes f.st = 0 ∧ Fr.res f.bytes f.st = f := by
  obtain ⟨a, b, c⟩ := Fr.back h f.st ((F.is_iff f).1 h).2.1
  have hs : Fr.sumB f.bytes f.st = true := c.2 fun _ => rfl
  unfold Fr.err Fr.res
  rw [a, hs, b]
  refine ⟨rfl, ?_⟩
  obtain ⟨k, st, d⟩ := f
  simp
/-- What tells its state is read by any. -/
theorem wm_told {f : F} (h : f.is = true) (hk : f.k ≠ 1) (own : St) (ho : own.may = true) : Fr.err f.bytes own = 0 ∧ Fr.res f.bytes own = f := by
  obtain ⟨a, b, c⟩ := Fr.back h own ho
  have hs : Fr.sumB f.bytes own = true := c.2 fun e => absurd e hk
  unfold Fr.err Fr.res
  rw [a, hs, b, if_neg hk]
  exact ⟨rfl, rfl⟩
/-- A ward's nodes that go together. -/
structure SP where
  on : Nat → Bool
  r : Int
  k : Nat
  m : Nat
  st : Nat → Nat
  a : Nat → Nat
  tm : Nat → Int
  ck : Nat → List Int
  so : Nat → MS
  da : Nat → List Int
  now : Int
  gl : List Int
  si : Nat
/-- Does its clock count? -/
def wsy (k : Nat) : Bool := (gsmD k).sy
namespace SP
/-- The slot's node was heard, or not. -/
def mid (p : SP) : SP :=
  if p.on p.k = true then
    { p with m := ins p.m p.k, st := fun i => if i = p.k then 4 else p.st i, a := fun i => if i = p.k then 0 else p.a i + 1,
             ck := fun i => if wsy p.k = true then keep4 (p.ck i) (p.tm p.k - p.tm i) else p.ck i,
             so := fun i => if i = p.k then p.so i else ((p.so i).put p.k (p.da p.k)).member p.k (isB (ins p.m p.k) p.k),
             gl := if wsy p.k = true then keep4 p.gl (p.tm p.k - p.now) else p.gl, si := 0 }
  else { p with m := del p.m p.k, so := fun i => (p.so i).member p.k (isB (del p.m p.k) p.k), si := p.si + 1 }
/-- The slot goes on. -/
def fwd (N : Nat) (dr : Int) (d : Nat → Int) (p : SP) : SP :=
  if p.k + 1 < N then { p with k := p.k + 1 }
  else { p with k := 0, r := if p.r < 65535 then p.r + 1 else 0, tm := fun i => p.tm i + termV (4 * dr + 9) (p.ck i) + d i, ck := fun _ => [], so := fun i => (p.so i).age, now := p.now + termV (4 * dr + 9) p.gl, gl := [] }
def next (N : Nat) (dr : Int) (d : Nat → Int) (p : SP) : SP := p.mid.fwd N dr d
/-- What may be asked of it for a slot. -/
structure Ok (N : Nat) (dr : Int) (p : SP) : Prop where
  n : 4 ≤ N ∧ N ≤ 8
  drb : 0 ≤ dr ∧ dr ≤ 200
  r : 0 ≤ p.r ∧ p.r ≤ 65535
  k : p.k < N
  m : p.m < 256
  st : ∀ i, p.st i = 2 ∨ p.st i = 3 ∨ p.st i = 4
  a : ∀ i, i < N → p.a i < 900
  ak : p.on p.k = true → 0 < p.a p.k
  tm : ∀ i, i < N → -100000 ≤ p.tm i ∧ p.tm i ≤ 100000
  now : -100000 ≤ p.now ∧ p.now ≤ 100000
  near : p.on p.k = true → -(4 * dr + 6) ≤ p.tm p.k - p.now ∧ p.tm p.k - p.now ≤ 4 * dr + 6
  gl : small p.gl
  si : p.si + 1 ≠ 2 * N ∧ p.si ≤ 1000
  da : ∀ i, (p.da i).length ≤ 8 ∧ bytesL (p.da i)
  lim : p.k + 1 = N → ∀ i, i < N → p.on i = true → wiB (4 * dr + 9) (avg (p.mid.ck i)) = true
end SP
/-- A node that goes along. -/
structure NdS (N : Nat) (dr : Int) (d : Nat → Int) (p : SP) (i : Nat) (s : NM) : Prop where
  t : s.t = gsmT N dr
  ix : s.i = i
  dx : s.dr = d i
  st : s.st = p.st i
  rd : s.rd = p.r
  sl : s.sl = p.k
  ty : s.ty = ⟨p.m, p.a i, 0⟩
  tm : s.tm = p.tm i
  ck : s.ck = p.ck i
  so : s.so = p.so i
  da : s.da = p.da i
/-- The guardians. -/
structure GdS (N : Nat) (dr : Int) (p : SP) (s : G) : Prop where
  kn : s.kn = true
  slot : s.slot = p.k
  n : s.n = N
  wi : s.wi = 4 * dr + 6
  lm : s.lm = 4 * dr + 9
  now : s.now = p.now
  l : s.l = p.gl
  si : s.si = p.si
  sy : ∀ j, j < N → s.sy j = wsy j
structure Sy (N : Nat) (dr : Int) (d : Nat → Int) (p : SP) (u : WM) : Prop where
  nd : ∀ i, i < N → p.on i = true → NdS N dr d p i (u.ms i)
  off : ∀ i, i < N → p.on i = false → ((u.ms i).st = 0 ∧ (u.ms i).se = false) ∧ (-100000 ≤ (u.ms i).tm ∧ (u.ms i).tm ≤ 100000) ∧ (u.ms i).ty.a < 900 ∧ (u.ms i).ty.f < 900
  gd : GdS N dr p u.s
section
variable {N : Nat} {dr : Int} {d : Nat → Int} {p : SP} {u : WM}
theorem gsm_len (N : Nat) (dr : Int) : (gsmT N dr).ns.length = N := gsmL_length N
theorem gsm_at (N : Nat) (dr : Int) (k : Nat) (hk : k < N) : (gsmT N dr).ns.getD k default = gsmD k := gsmL_get N k hk
/-- The frame of the slot's node. -/
def wfr (p : SP) : F := ⟨if (gsmD p.k).inf = true ∨ p.st p.k ≠ 4 ∨ p.r % 2 = 0 then 2 else 1, ⟨p.r, p.k, (ins p.m p.k : Nat)⟩, p.da p.k⟩
theorem wfr_is (ok : p.Ok N dr) : (wfr p).is = true := by
  rw [F.is_iff]
  refine ⟨?_, ?_, (ok.da p.k).1⟩
  · show 1 ≤ (if _ then (2 : Int) else 1) ∧ (if _ then (2 : Int) else 1) ≤ 3
    split <;> omega
  · rw [Fr.St.may_iff]
    have h1 := ok.r
    have h2 := ok.k
    have h3 := ok.n
    have h4 := ins_lt ok.m (show p.k < 8 by omega)
    show (0 ≤ p.r ∧ p.r ≤ 65535) ∧ (0 ≤ (p.k : Int) ∧ (p.k : Int) < 8) ∧ 0 ≤ ((ins p.m p.k : Nat) : Int) ∧ ((ins p.m p.k : Nat) : Int) ≤ 255
    omega
/-- A node whose slot it is not sends nothing. -/
theorem NdS.quiet {i : Nat} {s : NM} (h : NdS N dr d p i s) (ok : p.Ok N dr) (hi : i ≠ p.k) : s.sendK = 0 ∧ s.sendS = { s with se := false } := by
  have hst := ok.st i
  rw [← h.st] at hst
  have hne : s.sl ≠ s.i := by rw [h.sl, h.ix]; exact fun e => hi e.symm
  unfold NM.sendK NM.sendS
  rw [if_neg (by omega), if_pos (.inr (.inr hne)), if_neg (by omega), if_pos (.inr (.inr hne))]
  exact ⟨rfl, rfl⟩
theorem off_quiet {s : NM} (h : s.st = 0 ∧ s.se = false) : s.sendK = 0 ∧ s.sendS = s := by
  obtain ⟨h1, h2⟩ := h
  unfold NM.sendK NM.sendS
  rw [if_neg (by omega), if_pos (.inl h1), if_neg (by omega), if_pos (.inl h1)]
  exact ⟨rfl, by rw [← h2]⟩
theorem sent_none {s : NM} (h : s.sendK = 0) : s.sent = [] := by unfold NM.sent; rw [if_pos h]
/-- The slot's node sends its frame. -/
theorem NdS.sends {s : NM} (h : NdS N dr d p p.k s) (ok : p.Ok N dr) (hon : p.on p.k = true) :
    s.sent = (wfr p).bytes ∧ s.sendS = { s with st := 4, ty := ⟨ins p.m p.k, 0, 0⟩, se := true } := by
  have hst := ok.st p.k
  rw [← h.st] at hst
  have hsl : s.sl = s.i := by rw [h.sl, h.ix]
  have hk8 : p.k < 8 := by have := ok.n; have := ok.k; omega
  have ha : s.ty.a ≠ 0 := by rw [h.ty]; have := ok.ak hon; show p.a p.k ≠ 0; omega
  have hf : s.ty.f = 0 := by rw [h.ty]
  have hal : ¬ s.alone := fun e => ha e
  have hcl : s.clique := by show s.ty.f ≤ s.ty.a; omega
  have en : s.enter = { s with st := 4 } := by
    unfold NM.enter
    by_cases h2 : s.st = 2
    · rw [if_pos h2, if_neg hal]
    · rw [if_neg h2]
      by_cases h3 : s.st = 3
      · rw [if_pos h3, if_pos ⟨hal, hcl⟩]
      · rw [if_neg h3, if_neg (fun e => e hcl), if_neg hal]
        have : s.st = 4 := by omega
        rw [← this]
  have ej : s.enter.joined = { s with st := 4, ty := ⟨ins p.m p.k, 0, 0⟩ } := by
    rw [en]
    unfold NM.joined
    have hi : ((s.i : Nat) : Int) = (p.k : Nat) := by rw [h.ix]
    show ({ s with st := 4, ty := (s.ty.join (s.i : Nat)).clear } : NM) = _
    unfold TS.join TS.clear
    rw [if_pos (by rw [hi]; omega), hi, Int.toNat_natCast, h.ty]
  have eK : s.sendK = (wfr p).k := by
    unfold NM.sendK
    rw [if_neg (by omega), if_neg (by rw [hsl]; omega), if_neg (by rw [en]; simp)]
    show (if s.me.inf = true ∨ s.st ≠ 4 ∨ s.rd % 2 = 0 then (2 : Int) else 1) = (if (gsmD p.k).inf = true ∨ p.st p.k ≠ 4 ∨ p.r % 2 = 0 then (2 : Int) else 1)
    have e : s.me = gsmD p.k := by
      unfold NM.me
      rw [h.t, h.ix]
      exact gsm_at N dr p.k ok.k
    rw [e, h.st, h.rd]
  have eS : s.sendS = { s with st := 4, ty := ⟨ins p.m p.k, 0, 0⟩, se := true } := by
    unfold NM.sendS
    rw [if_neg (by omega), if_neg (by rw [hsl]; omega), if_neg (by rw [en]; simp), ej]
  refine ⟨?_, eS⟩
  unfold NM.sent
  rw [if_neg (by rw [eK]; unfold wfr; simp only; split <;> omega), eK, eS]
  have : NM.frm { s with st := 4, ty := ⟨ins p.m p.k, 0, 0⟩, se := true } (wfr p).k = wfr p := by
    unfold NM.frm NM.view wfr
    simp only [h.rd, h.sl, h.da]
  rw [this]
end
end Go.Proofs.YtjoioojckekfhaaGreat

namespace Go.Proofs.YtjoioojckekfhaaGreat
open Fr (St F)
open Clk (avg)

section
variable {N : Nat} {dr : Int} {d : Nat → Int} {p : SP} {u : WM}
theorem nx_more {k : Nat} (h : k + 1 < N) (r : Int) : nxS N (k : Nat) = ((k + 1 : Nat) : Int) ∧ nxR N r (k : Nat) = r := by
  unfold nxS nxR
  rw [if_pos (by omega), if_pos (by omega)]
  exact ⟨by omega, rfl⟩
theorem nx_last {k : Nat} (h : k + 1 = N) (r : Int) : nxS N (k : Nat) = 0 ∧ nxR N r (k : Nat) = if r < 65535 then r + 1 else 0 := by
  unfold nxS nxR
  rw [if_neg (by omega), if_neg (by omega)]
  exact ⟨rfl, rfl⟩
theorem NdS.goOn {i : Nat} {s : NM} (h : NdS N dr d p i s) (hk : p.k < N) (hl : p.k + 1 = N → wiB (4 * dr + 9) (avg (p.ck i)) = true) : NdS N dr d (p.fwd N dr d) i s.goOn := by
  have e : s.goOn = if nxS (s.t.ns.length : Nat) (s.sl : Nat) ≠ 0 then { s with rd := nxR (s.t.ns.length : Nat) s.rd (s.sl : Nat), sl := (nxS (s.t.ns.length : Nat) (s.sl : Nat)).toNat, se := false } else
      if wiB s.t.lm (avg s.ck) then { s with rd := nxR (s.t.ns.length : Nat) s.rd (s.sl : Nat), sl := (nxS (s.t.ns.length : Nat) (s.sl : Nat)).toNat, se := false, tm := s.tm + termV s.t.lm s.ck + s.dr, ck := [], so := s.so.age, an := nowM s.al s.so.age, ar := fun i => s.ar i ||| nowM s.al s.so.age i }
      else { s with rd := nxR (s.t.ns.length : Nat) s.rd (s.sl : Nat), sl := (nxS (s.t.ns.length : Nat) (s.sl : Nat)).toNat, se := false, st := 5, ck := [], so := s.so.age, an := nowM s.al s.so.age, ar := fun i => s.ar i ||| nowM s.al s.so.age i } := by
    unfold NM.goOn
    simp only
    split
    · rfl
    · split <;> rfl
  rw [e, h.t, gsm_len, h.sl, h.rd]
  have elm : (gsmT N dr).lm = 4 * dr + 9 := rfl
  by_cases hlt : p.k + 1 < N
  · obtain ⟨e1, e2⟩ := nx_more hlt p.r
    rw [e1, e2, if_pos (by omega), Int.toNat_natCast]
    unfold SP.fwd
    rw [if_pos hlt]
    exact ⟨rfl, h.ix, h.dx, h.st, rfl, rfl, h.ty, h.tm, h.ck, h.so, h.da⟩
  · obtain ⟨e1, e2⟩ := nx_last (N := N) (k := p.k) (by omega) p.r
    rw [e1, e2, if_neg (fun h => h rfl), elm, h.ck, if_pos (hl (by omega))]
    unfold SP.fwd
    rw [if_neg hlt]
    exact ⟨rfl, h.ix, h.dx, h.st, rfl, rfl, h.ty, by show s.tm + termV (4 * dr + 9) (p.ck i) + s.dr = p.tm i + termV (4 * dr + 9) (p.ck i) + d i; rw [h.tm, h.dx], rfl, by show s.so.age = _; rw [h.so], h.da⟩
theorem meas_eq {i k : Nat} {s : NM} (ht : s.t = gsmT N dr) (hk : k < N) (o : Int) (hc : s.ck = p.ck i) : s.meas k o = if wsy k = true then keep4 (p.ck i) o else p.ck i := by
  unfold NM.meas NM.at_ wsy
  rw [ht, gsm_at N dr k hk, hc]
/-- The slot's own node. -/
theorem NdS.own {s : NM} (h : NdS N dr d p p.k s) (ok : p.Ok N dr) (hon : p.on p.k = true) (x : Hn) : NdS N dr d (p.next N dr d) p.k (s.sendS.take x) := by
  rw [(h.sends ok hon).2]
  have e : NM.take { s with st := 4, ty := ⟨ins p.m p.k, 0, 0⟩, se := true } x = NM.goOn { s with st := 4, ty := ⟨ins p.m p.k, 0, 0⟩, se := true, ck := s.meas s.i 0 } := by
    unfold NM.take
    rw [if_neg (by simp), if_neg (by simp), if_pos (show s.sl = s.i by rw [h.sl, h.ix])]
    rfl
  rw [e]
  have hm : p.mid = _ := show SP.mid p = _ from by unfold SP.mid; rw [if_pos hon]
  refine NdS.goOn (p := p.mid) ?_ (by rw [hm]; exact ok.k) (fun h1 => ok.lim (by rw [hm] at h1; exact h1) p.k ok.k hon)
  rw [hm]
  refine ⟨h.t, h.ix, h.dx, (if_pos rfl).symm, h.rd, h.sl, ?_, h.tm, ?_, ?_, h.da⟩
  · show (⟨ins p.m p.k, 0, 0⟩ : TS) = ⟨ins p.m p.k, if p.k = p.k then 0 else _, 0⟩
    rw [if_pos rfl]
  · show s.meas s.i 0 = if wsy p.k = true then keep4 (p.ck p.k) (p.tm p.k - p.tm p.k) else p.ck p.k
    rw [h.ix, meas_eq h.t ok.k 0 h.ck, Int.sub_self]
  · show s.so = if p.k = p.k then p.so p.k else _
    rw [if_pos rfl]; exact h.so
/-- Another node hears the slot's. -/
theorem NdS.hears {i : Nat} {s : NM} (h : NdS N dr d p i s) (ok : p.Ok N dr) (hon : p.on p.k = true) (hi : i < N) (hon2 : p.on i = true) (hik : i ≠ p.k) :
    NdS N dr d (p.next N dr d) i (s.sendS.take ⟨2, 2, (wfr p).bytes, (wfr p).bytes, p.tm p.k - p.tm i⟩) := by
  rw [(h.quiet ok hik).2]
  have hst := ok.st i
  rw [← h.st] at hst
  have hk8 : p.k < 8 := by have := ok.n; have := ok.k; omega
  have eo : NM.own { s with se := false } = (wfr p).st := by
    show (⟨s.rd, s.sl, (ins s.ty.m s.sl : Nat)⟩ : St) = ⟨p.r, p.k, (ins p.m p.k : Nat)⟩
    rw [h.rd, h.sl, h.ty]
  obtain ⟨r1, r2⟩ := wm_read (wfr_is ok)
  have hR : NM.isRight { s with se := false } (wfr p).bytes := by
    unfold NM.isRight
    rw [eo, r1, r2]
    refine ⟨rfl, ?_, rfl⟩
    show (if _ then (2 : Int) else 1) ≠ 3
    split <;> omega
  have hl : NM.rightL { s with se := false } ⟨2, 2, (wfr p).bytes, (wfr p).bytes, p.tm p.k - p.tm i⟩ = some (wfr p).bytes := by
    unfold NM.rightL NM.rows
    show List.find? _ ([(wfr p).bytes] ++ [(wfr p).bytes]) = _
    rw [List.singleton_append]
    exact List.find?_cons_of_pos (by show decide (NM.isRight _ _) = true; exact decide_eq_true hR)
  have e : NM.take { s with se := false } ⟨2, 2, (wfr p).bytes, (wfr p).bytes, p.tm p.k - p.tm i⟩ = (NM.took { s with se := false } (s.ty.right s.sl) (s.so.put s.sl (p.da p.k)) (NM.meas { s with se := false } s.sl (p.tm p.k - p.tm i))).goOn := by
    unfold NM.take
    rw [if_neg (by show ¬ (s.st = 0 ∨ s.st = 5); omega), if_neg (by show ¬ s.st = 1; omega), if_neg (by show ¬ s.sl = s.i; rw [h.sl, h.ix]; exact fun e => hik e.symm), hl]
    simp only
    rw [eo, r2]
    rfl
  rw [e]
  have hm : p.mid = _ := show SP.mid p = _ from by unfold SP.mid; rw [if_pos hon]
  refine NdS.goOn (p := p.mid) ?_ (by rw [hm]; exact ok.k) (fun h1 => ok.lim (by rw [hm] at h1; exact h1) i hi hon2)
  rw [hm]
  have et : s.ty.right (s.sl : Nat) = ⟨ins p.m p.k, p.a i + 1, 0⟩ := by
    unfold TS.right
    rw [h.sl, if_pos (by omega), Int.toNat_natCast, h.ty]
  unfold NM.took
  rw [et]
  refine ⟨h.t, h.ix, h.dx, ?_, h.rd, h.sl, ?_, h.tm, ?_, ?_, h.da⟩
  · show s.st = if i = p.k then 4 else p.st i
    rw [if_neg hik]; exact h.st
  · show (⟨ins p.m p.k, p.a i + 1, 0⟩ : TS) = ⟨ins p.m p.k, if i = p.k then 0 else p.a i + 1, 0⟩
    rw [if_neg hik]
  · show NM.meas { s with se := false } s.sl _ = if wsy p.k = true then keep4 (p.ck i) (p.tm p.k - p.tm i) else p.ck i
    rw [h.sl]
    exact meas_eq (s := { s with se := false }) h.t ok.k _ h.ck
  · show (s.so.put (s.sl : Nat) (p.da p.k)).member (s.sl : Nat) (isB (ins p.m p.k) (s.sl : Nat)) = if i = p.k then p.so i else ((p.so i).put p.k (p.da p.k)).member p.k (isB (ins p.m p.k) p.k)
    rw [if_neg hik, h.so, h.sl]
/-- Nobody is heard. -/
theorem NdS.misses {i : Nat} {s : NM} (h : NdS N dr d p i s) (ok : p.Ok N dr) (hoff : p.on p.k = false) (hi : i < N) (hon2 : p.on i = true) :
    NdS N dr d (p.next N dr d) i (s.sendS.take ⟨0, 0, [], [], 0⟩) := by
  have hik : i ≠ p.k := fun e => by rw [e, hoff] at hon2; cases hon2
  rw [(h.quiet ok hik).2]
  have hst := ok.st i
  rw [← h.st] at hst
  have hk8 : p.k < 8 := by have := ok.n; have := ok.k; omega
  have e : NM.take { s with se := false } ⟨0, 0, [], [], 0⟩ = (NM.took { s with se := false } (s.ty.miss s.sl) s.so s.ck).goOn := by
    unfold NM.take
    rw [if_neg (by show ¬ (s.st = 0 ∨ s.st = 5); omega), if_neg (by show ¬ s.st = 1; omega), if_neg (by show ¬ s.sl = s.i; rw [h.sl, h.ix]; exact fun e => hik e.symm)]
    have : NM.rightL { s with se := false } ⟨0, 0, [], [], 0⟩ = none := rfl
    rw [this]
    simp only
    rw [if_pos ⟨trivial, trivial⟩]
  rw [e]
  have hm : p.mid = _ := show SP.mid p = _ from by unfold SP.mid; rw [if_neg (by rw [hoff]; simp)]
  refine NdS.goOn (p := p.mid) ?_ (by rw [hm]; exact ok.k) (fun h1 => ok.lim (by rw [hm] at h1; exact h1) i hi hon2)
  rw [hm]
  have et : s.ty.miss (s.sl : Nat) = ⟨del p.m p.k, p.a i, 0⟩ := by
    unfold TS.miss
    rw [h.sl, if_pos (by omega), Int.toNat_natCast, h.ty]
  unfold NM.took
  rw [et]
  refine ⟨h.t, h.ix, h.dx, h.st, h.rd, h.sl, rfl, h.tm, h.ck, ?_, h.da⟩
  show s.so.member (s.sl : Nat) (isB (del p.m p.k) (s.sl : Nat)) = (p.so i).member p.k (isB (del p.m p.k) p.k)
  rw [h.so, h.sl]
end
end Go.Proofs.YtjoioojckekfhaaGreat

namespace Go.Proofs.YtjoioojckekfhaaGreat
open Fr (St F)
open Clk (avg)

section
variable {N : Nat} {dr : Int} {d : Nat → Int} {p : SP} {u : WM}
theorem Sy.bs (h : Sy N dr d p u) (ok : p.Ok N dr) (i : Nat) (hi : i < N) : u.bs N i = if i = p.k ∧ p.on p.k = true then (wfr p).bytes else [] := by
  unfold WM.bs
  rw [if_pos hi]
  cases ho : p.on i
  · rw [sent_none (off_quiet (h.off i hi ho).1).1, if_neg]
    rintro ⟨rfl, e⟩
    rw [ho] at e; cases e
  · by_cases e : i = p.k
    · subst e
      rw [((h.nd _ hi ho).sends ok ho).1, if_pos ⟨rfl, ho⟩]
    · rw [sent_none ((h.nd i hi ho).quiet ok e).1, if_neg (fun x => e x.1)]
theorem Sy.at_ (h : Sy N dr d p u) (ok : p.Ok N dr) (i : Nat) (hi : i < N) (ho : p.on i = true) : u.at_ N i = p.tm i := by
  unfold WM.at_
  rw [if_pos hi]
  by_cases e : i = p.k
  · subst e
    rw [((h.nd _ hi ho).sends ok ho).2]
    exact (h.nd _ hi ho).tm
  · rw [((h.nd i hi ho).quiet ok e).2]
    exact (h.nd i hi ho).tm
theorem wfr_len (p : SP) : 0 < (wfr p).bytes.length := by rw [F.bytes_length]; omega
theorem Sy.who (h : Sy N dr d p u) (ok : p.Ok N dr) : u.who N = if p.on p.k = true then (p.k : Int) else -1 := by
  have hk := ok.k
  unfold WM.who G.pass
  rw [if_pos h.gd.kn, h.gd.slot, h.gd.now, h.gd.wi]
  unfold WM.sd
  rw [sF_m0 N _ _ p.k hk, sA_m0 N _ _ p.k hk, h.bs ok p.k hk]
  by_cases ho : p.on p.k = true
  · rw [show (if p.k = p.k ∧ p.on p.k = true then (wfr p).bytes else []) = (wfr p).bytes from if_pos ⟨rfl, ho⟩, h.at_ ok p.k hk ho, decide_eq_true (wfr_len p), if_pos (c := p.on p.k = true) ho]
    have hn : nearB (p.tm p.k) p.now (4 * dr + 6) = true := by unfold nearB; exact decide_eq_true (ok.near ho)
    rw [hn]
    rfl
  · rw [show (if p.k = p.k ∧ p.on p.k = true then (wfr p).bytes else []) = [] from if_neg (fun x => ho x.2), if_neg (c := p.on p.k = true) ho]
    rfl
theorem Sy.hear (h : Sy N dr d p u) (ok : p.Ok N dr) (i : Nat) (hi : i < N) (hon : p.on i = true) : u.hear N i = if p.on p.k = true then ⟨2, 2, (wfr p).bytes, (wfr p).bytes, p.tm p.k - p.tm i⟩ else ⟨0, 0, [], [], 0⟩ := by
  have hk := ok.k
  unfold WM.hear WM.heard WM.when_
  rw [h.who ok]
  by_cases ho : p.on p.k = true
  · simp only [if_pos ho]
    rw [if_neg (by omega), if_neg (by omega), if_neg (by omega), Int.toNat_natCast, h.bs ok p.k hk, if_pos ⟨rfl, ho⟩, h.at_ ok p.k hk ho, h.at_ ok i hi hon]
  · simp only [if_neg ho]
    rw [if_pos (by omega)]
theorem Sy.heard (h : Sy N dr d p u) (ok : p.Ok N dr) : u.heard N = (if p.on p.k = true then (wfr p).bytes else []) ∧ (p.on p.k = true → u.when_ N = p.tm p.k) := by
  have hk := ok.k
  unfold WM.heard WM.when_
  rw [h.who ok]
  by_cases ho : p.on p.k = true
  · simp only [if_pos ho]
    rw [if_neg (by omega), if_neg (by omega), Int.toNat_natCast, h.bs ok p.k hk, if_pos ⟨rfl, ho⟩, h.at_ ok p.k hk ho]
    exact ⟨rfl, fun _ => rfl⟩
  · simp only [if_neg ho]
    rw [if_pos (by omega)]
    exact ⟨rfl, fun e => absurd e ho⟩
theorem Sy.wok (h : Sy N dr d p u) (ok : p.Ok N dr) : WOk N u := by
  have hd := ok.drb
  refine ⟨ok.n, h.gd.n, fun i hi => ?_, fun i hi => ?_, by rw [h.gd.now]; exact ok.now, by rw [h.gd.slot]; exact ok.k, by rw [h.gd.l]; exact ok.gl, by rw [h.gd.lm]; omega, by rw [h.gd.wi]; omega, by rw [h.gd.si]; exact ok.si.2⟩
  · cases ho : p.on i
    · rw [(off_quiet (h.off i hi ho).1).2]; exact (h.off i hi ho).2.1
    · by_cases e : i = p.k
      · subst e
        rw [((h.nd _ hi ho).sends ok ho).2]
        show _ ≤ (u.ms p.k).tm ∧ (u.ms p.k).tm ≤ _
        rw [(h.nd _ hi ho).tm]; exact ok.tm _ hi
      · rw [((h.nd i hi ho).quiet ok e).2]
        show _ ≤ (u.ms i).tm ∧ (u.ms i).tm ≤ _
        rw [(h.nd i hi ho).tm]; exact ok.tm i hi
  · cases ho : p.on i
    · rw [(off_quiet (h.off i hi ho).1).2]; exact (h.off i hi ho).2.2
    · by_cases e : i = p.k
      · subst e
        rw [((h.nd _ hi ho).sends ok ho).2]
        show (0 : Nat) < 900 ∧ (0 : Nat) < 900
        omega
      · rw [((h.nd i hi ho).quiet ok e).2]
        show (u.ms i).ty.a < 900 ∧ (u.ms i).ty.f < 900
        rw [(h.nd i hi ho).ty]
        exact ⟨ok.a i hi, by show 0 < 900; omega⟩
theorem G_on_eq (s : G) (N k : Nat) (dr now : Int) (l : List Int) (hs : s.slot = k) (hn : s.n = N) (hl : s.lm = 4 * dr + 9) (hnow : s.now = now) (hll : s.l = l) :
    s.on = if k + 1 = N then { s with slot := 0, now := now + termV (4 * dr + 9) l, l := [] } else { s with slot := k + 1 } := by
  unfold G.on
  rw [hs, hn, hl, hnow, hll]
theorem GdS.fwd {s : G} (h : GdS N dr p s) (hk : p.k < N) : GdS N dr (p.fwd N dr d) s.on := by
  rw [G_on_eq s N p.k dr p.now p.gl h.slot h.n h.lm h.now h.l]
  unfold SP.fwd
  by_cases e : p.k + 1 = N
  · rw [if_pos e, if_neg (by omega)]
    exact ⟨h.kn, rfl, h.n, h.wi, h.lm, rfl, rfl, h.si, h.sy⟩
  · rw [if_neg e, if_pos (by omega)]
    exact ⟨h.kn, rfl, h.n, h.wi, h.lm, h.now, h.l, h.si, h.sy⟩
theorem SP.mid_on (p : SP) : p.mid.on = p.on ∧ p.mid.k = p.k ∧ p.mid.r = p.r ∧ p.mid.tm = p.tm ∧ p.mid.now = p.now ∧ p.mid.da = p.da := by
  unfold SP.mid
  by_cases h : p.on p.k = true
  · rw [if_pos h]; exact ⟨rfl, rfl, rfl, rfl, rfl, rfl⟩
  · rw [if_neg h]; exact ⟨rfl, rfl, rfl, rfl, rfl, rfl⟩
theorem SP.fwd_on (p : SP) (N : Nat) (dr : Int) (d : Nat → Int) : (p.fwd N dr d).on = p.on ∧ (p.fwd N dr d).m = p.m ∧ (p.fwd N dr d).st = p.st ∧ (p.fwd N dr d).a = p.a ∧ (p.fwd N dr d).si = p.si ∧ (p.fwd N dr d).da = p.da := by
  unfold SP.fwd
  by_cases h : p.k + 1 < N
  · rw [if_pos h]; exact ⟨rfl, rfl, rfl, rfl, rfl, rfl⟩
  · rw [if_neg h]; exact ⟨rfl, rfl, rfl, rfl, rfl, rfl⟩
theorem Sy.step (h : Sy N dr d p u) (ok : p.Ok N dr) : Sy N dr d (p.next N dr d) (u.slot N) := by
  have hon : ∀ i, (p.next N dr d).on i = p.on i := fun i => by
    unfold SP.next
    rw [(SP.fwd_on p.mid N dr d).1, (SP.mid_on p).1]
  refine ⟨fun i hi ho => ?_, fun i hi ho => ?_, ?_⟩
  · rw [hon] at ho
    show NdS N dr d _ i (if i < N then (u.ms i).sendS.take (u.hear N i) else u.ms i)
    rw [if_pos hi, h.hear ok i hi ho]
    by_cases hk : p.on p.k = true
    · rw [if_pos hk]
      by_cases e : i = p.k
      · subst e
        exact (h.nd _ hi ho).own ok ho _
      · exact (h.nd i hi ho).hears ok hk hi ho e
    · rw [if_neg hk]
      exact (h.nd i hi ho).misses ok (by simpa using hk) hi ho
  · rw [hon] at ho
    have := h.off i hi ho
    have e : (u.slot N).ms i = u.ms i := by
      show (if i < N then (u.ms i).sendS.take (u.hear N i) else u.ms i) = u.ms i
      rw [if_pos hi, (off_quiet this.1).2]
      unfold NM.take
      rw [if_pos (.inl this.1.1)]
    rw [e]
    exact this
  · show GdS N dr _ (u.s.ended (u.heard N) (u.when_ N))
    obtain ⟨e1, e2⟩ := h.heard ok
    unfold G.ended
    rw [if_pos h.gd.kn, e1]
    by_cases hk : p.on p.k = true
    · rw [if_pos hk, if_pos (wfr_len p), e2 hk]
      have hm : p.mid = _ := show SP.mid p = _ from by unfold SP.mid; rw [if_pos hk]
      unfold G.heard
      refine GdS.fwd (p := p.mid) ?_ (by rw [hm]; exact ok.k)
      rw [hm, h.gd.slot, h.gd.sy p.k ok.k, h.gd.l, h.gd.now]
      cases hs : wsy p.k
      · rw [if_neg (by simp)]
        exact ⟨h.gd.kn, rfl, h.gd.n, h.gd.wi, h.gd.lm, rfl, rfl, rfl, h.gd.sy⟩
      · rw [if_pos rfl]
        exact ⟨h.gd.kn, rfl, h.gd.n, h.gd.wi, h.gd.lm, rfl, rfl, rfl, h.gd.sy⟩
    · rw [if_neg hk, if_neg (by simp)]
      have hm : p.mid = _ := show SP.mid p = _ from by unfold SP.mid; rw [if_neg hk]
      unfold G.missed
      rw [h.gd.si, h.gd.n, if_neg ok.si.1]
      refine GdS.fwd (p := p.mid) ?_ (by rw [hm]; exact ok.k)
      rw [hm]
      exact ⟨h.gd.kn, h.gd.slot, rfl, h.gd.wi, h.gd.lm, h.gd.now, h.gd.l, rfl, h.gd.sy⟩
end
end Go.Proofs.YtjoioojckekfhaaGreat

namespace Go.Proofs.YtjoioojckekfhaaGreat
open Fr (St F)
open Clk (avg)

/-- A node that listens for so many slots. -/
def lsN (N : Nat) (dr : Int) (d : Nat → Int) (al : List R4) (tm : Nat → Int) (da : Nat → List Int) (j i : Nat) : NM := { NM.new (gsmT N dr) i (d i) al with st := 1, tm := tm i, wt := j, da := da i }
/-- All listen. -/
structure Ls (N : Nat) (dr : Int) (d : Nat → Int) (al : List R4) (tm : Nat → Int) (da : Nat → List Int) (j : Nat) (u : WM) : Prop where
  nd : ∀ i, i < N → u.ms i = lsN N dr d al tm da j i
  gd : u.s = newG (gsmT N dr)
section
variable {N : Nat} {dr : Int} {d : Nat → Int} {al : List R4} {tm : Nat → Int} {da : Nat → List Int} {j : Nat} {u : WM}
theorem gsm_li (i : Nat) (hi : i < 8) : (gsmD i).li = 20 + 3 * ((i : Int) * 5 % 8) ∧ 20 ≤ (gsmD i).li ∧ (i ≠ 0 → 23 ≤ (gsmD i).li) := by
  have e : (gsmD i).li = 20 + 3 * ((i : Int) * 5 % 8) := rfl
  rw [e]
  omega
theorem lsN_me {i : Nat} (hi : i < N) : (lsN N dr d al tm da j i).me = gsmD i := gsm_at N dr i hi
theorem lsN_quiet {i : Nat} (hi : i < N) (h : (j : Int) + 1 < (gsmD i).li) : (lsN N dr d al tm da j i).sendK = 0 ∧ (lsN N dr d al tm da j i).sendS = lsN N dr d al tm da (j + 1) i := by
  unfold NM.sendK NM.sendS
  rw [lsN_me hi]
  rw [if_pos (show (lsN N dr d al tm da j i).st = 1 from rfl), if_pos (show ((lsN N dr d al tm da j i).wt : Int) + 1 < (gsmD i).li from h), if_pos (show (lsN N dr d al tm da j i).st = 1 from rfl), if_pos (show ((lsN N dr d al tm da j i).wt : Int) + 1 < (gsmD i).li from h)]
  exact ⟨rfl, rfl⟩
/-- A slot in which nobody begins. -/
theorem Ls.silent (h : Ls N dr d al tm da j u) (hN : 4 ≤ N ∧ N ≤ 8) (hd : 0 ≤ dr ∧ dr ≤ 200) (htm : ∀ i, i < N → -100000 ≤ tm i ∧ tm i ≤ 100000) (hj : j < 19) : WOk N u ∧ Ls N dr d al tm da (j + 1) (u.slot N) := by
  have hli : ∀ i, i < N → (j : Int) + 1 < (gsmD i).li := fun i hi => by have := (gsm_li i (by omega)).2.1; omega
  have hbs : ∀ i, u.bs N i = [] := fun i => by
    unfold WM.bs
    split
    · rename_i hi
      rw [h.nd i hi, sent_none (lsN_quiet hi (hli i hi)).1]
    · rfl
  have hwho : u.who N = -1 := by
    unfold WM.who G.pass WM.sd
    rw [h.gd, if_neg (by simp [newG])]
    refine fst_none fun k hk => ?_
    have hk : k < N := by have : (newG (gsmT N dr)).n = N := gsm_len N dr; omega
    rw [sF_m0 N _ _ k hk, hbs k]
    rfl
  refine ⟨⟨hN, by rw [h.gd]; exact gsm_len N dr, fun i hi => ?_, fun i hi => ?_, by rw [h.gd]; show _ ≤ (0 : Int) ∧ (0 : Int) ≤ _; omega, by rw [h.gd]; show 0 < N; omega, by rw [h.gd]; exact fun x hx => (by cases hx), by rw [h.gd]; show 0 ≤ 4 * dr + 9 ∧ 4 * dr + 9 ≤ 1000; omega, by rw [h.gd]; show 0 ≤ 4 * dr + 6 ∧ 4 * dr + 6 ≤ 1000; omega, by rw [h.gd]; show 0 ≤ 1000; omega⟩, ⟨fun i hi => ?_, ?_⟩⟩
  · rw [h.nd i hi, (lsN_quiet hi (hli i hi)).2]; exact htm i hi
  · rw [h.nd i hi, (lsN_quiet hi (hli i hi)).2]; show (0 : Nat) < 900 ∧ (0 : Nat) < 900; omega
  · show (if i < N then (u.ms i).sendS.take (u.hear N i) else u.ms i) = _
    have eh : u.hear N i = ⟨0, 0, [], [], 0⟩ := by
      unfold WM.hear
      rw [hwho, if_pos (by omega)]
    rw [if_pos hi, eh, h.nd i hi, (lsN_quiet hi (hli i hi)).2]
    unfold NM.take
    rw [if_neg (by show ¬ ((1 : Nat) = 0 ∨ (1 : Nat) = 5); omega), if_pos (show (lsN N dr d al tm da (j + 1) i).st = 1 from rfl)]
    have : NM.firstL (lsN N dr d al tm da (j + 1) i) ⟨0, 0, [], [], 0⟩ = none := rfl
    rw [this]
    simp only
    rw [if_neg (by simp)]
  · show u.s.ended (u.heard N) (u.when_ N) = _
    rw [show u.heard N = [] by unfold WM.heard; rw [hwho]; rfl, h.gd]
    exact ended_not _ rfl (tells_short (by simp) _) _
/-- The ward behind the first that begins: node 0, a slot on. -/
def p1 (da : Nat → List Int) (T : Int) : SP where
  on := fun _ => true
  r := 0
  k := 1
  m := 1
  st := fun i => if i = 0 then 2 else 3
  a := fun i => if i = 0 then 0 else 1
  tm := fun _ => T
  ck := fun i => if i = 0 then [0] else []
  so := fun i => if i = 0 then MS.new else NM.goods (MS.new.put 0 (da 0)) 1
  da := da
  now := T
  gl := []
  si := 0
/-- The frame by which node 0 begins. -/
def f0 (da : Nat → List Int) : F := ⟨3, ⟨0, 0, 1⟩, da 0⟩
theorem f0_is (hda : (da 0).length ≤ 8) : (f0 da).is = true := by
  rw [F.is_iff]
  exact ⟨by show (1 : Int) ≤ 3 ∧ (3 : Int) ≤ 3; omega, by show Fr.St.may ⟨0, 0, 1⟩ = true; decide, hda⟩
theorem tells0 (hda : (da 0).length ≤ 8) : Fr.err (f0 da).bytes NM.z3 = 0 ∧ Fr.res (f0 da).bytes NM.z3 = f0 da := wm_told (f0_is hda) (by show (3 : Int) ≠ 1; omega) NM.z3 (by decide)
/-- Node 0, as it begins. -/
def bgN (N : Nat) (dr : Int) (d : Nat → Int) (al : List R4) (tm : Nat → Int) (da : Nat → List Int) : NM := { NM.new (gsmT N dr) 0 (d 0) al with st := 2, tm := tm 0, wt := 0, da := da 0, ty := ⟨1, 0, 0⟩, se := true }
theorem lsN_begins (hN : 0 < N) : (lsN N dr d al tm da 19 0).sendK = 3 ∧ (lsN N dr d al tm da 19 0).sendS = bgN N dr d al tm da := by
  have e : ¬ ((lsN N dr d al tm da 19 0).wt : Int) + 1 < (gsmD 0).li := by show ¬ ((19 : Nat) : Int) + 1 < 20 + 3 * (((0 : Nat) : Int) * 5 % 8); omega
  unfold NM.sendK NM.sendS
  rw [lsN_me hN, if_pos (show (lsN N dr d al tm da 19 0).st = 1 from rfl), if_neg e, if_pos (show (lsN N dr d al tm da 19 0).st = 1 from rfl), if_neg e]
  refine ⟨rfl, ?_⟩
  unfold NM.begun
  have ej : (⟨0, 0, 0⟩ : TS).join ((lsN N dr d al tm da 19 0).i : Nat) = ⟨1, 0, 0⟩ := show (⟨0, 0, 0⟩ : TS).join ((0 : Nat) : Int) = ⟨1, 0, 0⟩ from by decide
  rw [ej]
  rfl
/-- The slot in which node 0 begins: all the others know it. -/
theorem Ls.begins (h : Ls N dr d al tm da 19 u) (hN : 4 ≤ N ∧ N ≤ 8) (hd : 0 ≤ dr ∧ dr ≤ 200) (htm : ∀ i, i < N → -100000 ≤ tm i ∧ tm i ≤ 100000) (hda : (da 0).length ≤ 8) : WOk N u ∧ Sy N dr d (p1 da (tm 0)) (u.slot N) := by
  have h0N : 0 < N := by omega
  obtain ⟨k0, s0⟩ := lsN_begins (dr := dr) (d := d) (al := al) (tm := tm) (da := da) h0N
  have hli : ∀ i, i < N → i ≠ 0 → ((19 : Nat) : Int) + 1 < (gsmD i).li := fun i hi h0 => by have := (gsm_li i (by omega)).2.2 h0; omega
  have hq := fun i hi h0 => lsN_quiet (N := N) (dr := dr) (d := d) (al := al) (tm := tm) (da := da) (j := 19) (i := i) hi (hli i hi h0)
  have hb0 : (lsN N dr d al tm da 19 0).sent = (f0 da).bytes := by
    unfold NM.sent
    rw [k0, if_neg (by omega), s0]
    rfl
  have hbs : ∀ i, i < N → u.bs N i = if i = 0 then (f0 da).bytes else [] := fun i hi => by
    unfold WM.bs
    rw [if_pos hi, h.nd i hi]
    by_cases e : i = 0
    · subst e; rw [if_pos rfl, hb0]
    · rw [if_neg e, sent_none (hq i hi e).1]
  have hat : ∀ i, i < N → u.at_ N i = tm i := fun i hi => by
    unfold WM.at_
    rw [if_pos hi, h.nd i hi]
    by_cases e : i = 0
    · subst e; rw [s0]; rfl
    · rw [(hq i hi e).2]; rfl
  have hlen : 0 < (f0 da).bytes.length := by rw [F.bytes_length]; omega
  have hwho : u.who N = 0 := by
    have hn : (newG (gsmT N dr)).n = N := gsm_len N dr
    unfold WM.who G.pass WM.sd
    rw [h.gd, if_neg (by simp [newG])]
    exact fst_hit (k := 0) (by omega) (by rw [sF_m0 N _ _ 0 h0N, hbs 0 h0N, if_pos rfl]; exact decide_eq_true hlen) (fun j hj => by omega)
  have hheard : u.heard N = (f0 da).bytes := by
    unfold WM.heard
    rw [hwho, if_neg (by omega)]
    show u.bs N 0 = _
    rw [hbs 0 h0N, if_pos rfl]
  have hwhen : u.when_ N = tm 0 := by
    unfold WM.when_
    rw [hwho, if_neg (by omega)]
    exact hat 0 h0N
  have hhear : ∀ i, i < N → u.hear N i = ⟨2, 2, (f0 da).bytes, (f0 da).bytes, tm 0 - tm i⟩ := fun i hi => by
    unfold WM.hear
    rw [hwho, if_neg (by omega), hheard, hwhen, hat i hi]
  obtain ⟨r1, r2⟩ := tells0 (da := da) hda
  refine ⟨⟨hN, by rw [h.gd]; exact gsm_len N dr, fun i hi => ?_, fun i hi => ?_, by rw [h.gd]; show _ ≤ (0 : Int) ∧ (0 : Int) ≤ _; omega, by rw [h.gd]; show 0 < N; omega, by rw [h.gd]; exact fun x hx => (by cases hx), by rw [h.gd]; show 0 ≤ 4 * dr + 9 ∧ 4 * dr + 9 ≤ 1000; omega, by rw [h.gd]; show 0 ≤ 4 * dr + 6 ∧ 4 * dr + 6 ≤ 1000; omega, by rw [h.gd]; show 0 ≤ 1000; omega⟩, ⟨fun i hi _ => ?_, fun i _ ho => (by cases ho), ?_⟩⟩
  · rw [h.nd i hi]
    by_cases e : i = 0
    · subst e; rw [s0]; exact htm 0 hi
    · rw [(hq i hi e).2]; exact htm i hi
  · rw [h.nd i hi]
    by_cases e : i = 0
    · subst e; rw [s0]; show (0 : Nat) < 900 ∧ (0 : Nat) < 900; omega
    · rw [(hq i hi e).2]; show (0 : Nat) < 900 ∧ (0 : Nat) < 900; omega
  · show NdS N dr d _ i (if i < N then (u.ms i).sendS.take (u.hear N i) else u.ms i)
    rw [if_pos hi, hhear i hi, h.nd i hi]
    have en : nxS ((gsmT N dr).ns.length : Nat) ((0 : Nat) : Int) = 1 ∧ nxR ((gsmT N dr).ns.length : Nat) (0 : Int) ((0 : Nat) : Int) = 0 := by
      rw [gsm_len]
      unfold nxS nxR
      rw [if_pos (by omega), if_pos (by omega)]
      exact ⟨rfl, rfl⟩
    have hgo : ∀ s : NM, s.t = gsmT N dr → s.sl = 0 → s.rd = 0 → s.goOn = { s with rd := 0, sl := 1, se := false } := fun s ht hsl hrd => by
      unfold NM.goOn
      simp only
      rw [ht, hsl, hrd, en.1, en.2, if_pos (by omega)]
      rfl
    by_cases e : i = 0
    · subst e
      rw [s0]
      have et : NM.take (bgN N dr d al tm da) ⟨2, 2, (f0 da).bytes, (f0 da).bytes, tm 0 - tm 0⟩ = NM.goOn { bgN N dr d al tm da with ck := [0] } := by
        unfold NM.take
        rw [if_neg (by show ¬ ((2 : Nat) = 0 ∨ (2 : Nat) = 5); omega), if_neg (by show ¬ (2 : Nat) = 1; omega), if_pos (show (bgN N dr d al tm da).sl = (bgN N dr d al tm da).i from rfl)]
        have : NM.meas (bgN N dr d al tm da) 0 0 = [0] := by
          unfold NM.meas NM.at_
          rw [if_pos]
          · rfl
          · show ((gsmT N dr).ns.getD 0 default).sy = true
            rw [gsm_at N dr 0 hi]
            rfl
        rw [if_pos (show (bgN N dr d al tm da).se = true from rfl)]
        show NM.goOn { lsN N dr d al tm da 19 0 with st := 2, wt := 0, sl := 0, ty := ⟨1, 0, 0⟩, se := true, ck := NM.meas _ 0 0 } = _
        rw [this]
        rfl
      rw [et, hgo _ rfl rfl rfl]
      exact ⟨rfl, rfl, rfl, rfl, rfl, rfl, rfl, rfl, rfl, rfl, rfl⟩
    · rw [(hq i hi e).2]
      have hT : NM.tells (lsN N dr d al tm da 20 i) (f0 da).bytes := by
        unfold NM.tells
        rw [r1, r2]
        refine ⟨rfl, by show (3 : Int) ≠ 1; omega, ?_, ?_⟩
        · show (0 : Int) < ((gsmT N dr).ns.length : Nat)
          rw [gsm_len]; omega
        · show (0 : Int) ≠ (i : Nat)
          omega
      have hF : NM.firstL (lsN N dr d al tm da 20 i) ⟨2, 2, (f0 da).bytes, (f0 da).bytes, tm 0 - tm i⟩ = some (f0 da).bytes := by
        unfold NM.firstL NM.rows
        show List.find? _ ([(f0 da).bytes] ++ [(f0 da).bytes]) = _
        rw [List.singleton_append]
        exact List.find?_cons_of_pos (by show decide (NM.tells _ _) = true; exact decide_eq_true hT)
      have et : NM.take (lsN N dr d al tm da (19 + 1) i) ⟨2, 2, (f0 da).bytes, (f0 da).bytes, tm 0 - tm i⟩ = (NM.knows (lsN N dr d al tm da 20 i) (f0 da) (tm 0 - tm i)).goOn := by
        unfold NM.take
        rw [if_neg (by show ¬ ((1 : Nat) = 0 ∨ (1 : Nat) = 5); omega), if_pos (show (lsN N dr d al tm da (19 + 1) i).st = 1 from rfl)]
        show (match NM.firstL (lsN N dr d al tm da 20 i) _ with | some l => _ | none => _) = _
        rw [hF]
        simp only
        rw [r2]
      rw [et, hgo _ rfl rfl rfl]
      have e1 : (p1 da (tm 0)).st i = 3 := if_neg e
      have e2 : (p1 da (tm 0)).a i = 1 := if_neg e
      have e3 : (p1 da (tm 0)).ck i = [] := if_neg e
      have e4 : (p1 da (tm 0)).so i = NM.goods (MS.new.put 0 (da 0)) 1 := if_neg e
      refine ⟨rfl, rfl, rfl, e1.symm, rfl, rfl, ?_, ?_, e3.symm, ?_, rfl⟩
      · rw [e2]
        show (⟨((1 : Int) % 256).toNat, 0, 0⟩ : TS).right (0 : Int) = ⟨1, 1, 0⟩
        decide
      · show tm i + (tm 0 - tm i) = tm 0
        omega
      · rw [e4]
        show NM.goods (MS.new.put (0 : Int) (da 0)) ((⟨((1 : Int) % 256).toNat, 0, 0⟩ : TS).right (0 : Int)).m = _
        rw [show (⟨((1 : Int) % 256).toNat, 0, 0⟩ : TS).right (0 : Int) = ⟨1, 1, 0⟩ from by decide]
  · show GdS N dr _ (u.s.ended (u.heard N) (u.when_ N))
    rw [hheard, hwhen, h.gd]
    have hn : (newG (gsmT N dr)).n = N := gsm_len N dr
    unfold G.ended
    rw [if_neg (by simp [newG])]
    unfold G.learnt
    have ht : Go.Proofs.YtjoioojckekfhaaGreat.tells (f0 da).bytes (newG (gsmT N dr)).n = true := by
      unfold Go.Proofs.YtjoioojckekfhaaGreat.tells
      rw [show (z0 : St) = NM.z3 from rfl, r1, r2, hn]
      simp [f0]
      omega
    rw [if_pos ht, show (z0 : St) = NM.z3 from rfl, r2]
    unfold G.on
    rw [if_neg (by show ¬ ((0 : Int).toNat + 1 = (newG (gsmT N dr)).n); rw [hn]; show ¬ (0 + 1 = N); omega)]
    refine ⟨rfl, rfl, hn, rfl, rfl, rfl, rfl, rfl, fun j hj => ?_⟩
    show ((gsmT N dr).ns.getD j default).sy = wsy j
    rw [gsm_at N dr j hj]
    rfl
end
end Go.Proofs.YtjoioojckekfhaaGreat

namespace Go.Proofs.YtjoioojckekfhaaGreat
open Fr (St F)
open Clk (avg)

section
variable {N : Nat} {dr : Int} {d : Nat → Int} {p : SP} {u : WM}
theorem avg_zeros {l : List Int} (h : ∀ x ∈ l, x = 0) (h4 : l.length ≤ 4) : avg l = 0 := by
  have := Clk.avg_bound (l := l) (B := 0) (by omega) (fun x hx => by rw [h x hx]; omega) h4
  omega
theorem termV_zeros {m : Int} {l : List Int} (h : ∀ x ∈ l, x = 0) (h4 : l.length ≤ 4) : termV m l = 0 := by
  unfold termV
  rw [avg_zeros h h4]
  split <;> rfl
theorem keep4_mem {l : List Int} {n x : Int} (h : x ∈ keep4 l n) : x ∈ l ∨ x = n := by
  unfold keep4 at h
  split at h
  · rcases List.mem_append.1 h with h | h
    · exact .inl (List.mem_of_mem_drop h)
    · exact .inr (by simpa using h)
  · rcases List.mem_append.1 h with h | h
    · exact .inl h
    · exact .inr (by simpa using h)
theorem keep4_len {l : List Int} {n : Int} (h : l.length ≤ 4) : 0 < (keep4 l n).length ∧ (keep4 l n).length ≤ 4 := by
  unfold keep4
  split <;> simp <;> omega
theorem keep4_map (l : List Int) (n c : Int) : (keep4 l n).map (· - c) = keep4 (l.map (· - c)) (n - c) := by
  unfold keep4
  rw [List.length_map]
  split <;> simp
theorem full_ins {k : Nat} (hk : k < 8) : ins (2 ^ k - 1) k = 2 ^ (k + 1) - 1 := by
  have : ∀ a : Fin 8, ins (2 ^ a.val - 1) a.val = 2 ^ (a.val + 1) - 1 := by decide +kernel
  exact this ⟨k, hk⟩
theorem full_has {N k : Nat} (hN : N ≤ 8) (hk : k < N) : ins (2 ^ N - 1) k = 2 ^ N - 1 := by
  have : ∀ (n : Fin 9) (a : Fin 8), a.val < n.val → ins (2 ^ n.val - 1) a.val = 2 ^ n.val - 1 := by decide +kernel
  exact this ⟨N, by omega⟩ ⟨k, by omega⟩ hk
theorem full_lt {N : Nat} (hN : N ≤ 8) : 2 ^ N - 1 < 256 := by
  have : ∀ n : Fin 9, 2 ^ n.val - 1 < 256 := by decide +kernel
  exact this ⟨N, by omega⟩
/-- How often a node was agreed with, at most. -/
def aB (N k i : Nat) : Nat := if i < k then k - i - 1 else k + N - i - 1
/-- The first round, from its second slot on. -/
structure FR (N : Nat) (T : Int) (p : SP) : Prop where
  on : ∀ i, p.on i = true
  r : p.r = 0
  k : 1 ≤ p.k ∧ p.k < N
  m : p.m = 2 ^ p.k - 1
  st : ∀ i, p.st i = if i = 0 then 2 else if i < p.k then 4 else 3
  a : ∀ i, i < N → p.a i ≤ aB N p.k i
  a1 : ∀ i, i < N → i + 1 ≠ p.k → 0 < p.a i
  tm : ∀ i, p.tm i = T
  ck : ∀ i, (p.ck i).length ≤ 4 ∧ ∀ x ∈ p.ck i, x = 0
  now : p.now = T
  gl : p.gl.length ≤ 4 ∧ ∀ x ∈ p.gl, x = 0
  si : p.si = 0
  da : ∀ i, (p.da i).length ≤ 8 ∧ bytesL (p.da i)
theorem aB_le (N k i : Nat) (h : 4 ≤ N ∧ N ≤ 8) (hk : k < N) : aB N k i ≤ 16 := by
  unfold aB; split <;> omega
theorem small_of {l : List Int} {B : Int} (hB : B ≤ 1000) (h : ∀ x ∈ l, -B ≤ x ∧ x ≤ B) : small l := fun x hx => by have := h x hx; omega
theorem fr1 (da : Nat → List Int) (T : Int) (hN : 4 ≤ N ∧ N ≤ 8) (hda : ∀ i, (da i).length ≤ 8 ∧ bytesL (da i)) : FR N T (p1 da T) := by
  refine ⟨fun _ => rfl, rfl, ⟨Nat.le_refl _, by show 1 < N; omega⟩, rfl, fun i => ?_, fun i hi => ?_, fun i _ h1 => ?_, fun _ => rfl, fun i => ?_, rfl, ⟨by show 0 ≤ 4; omega, fun x hx => (by cases hx)⟩, rfl, hda⟩
  · show (if i = 0 then 2 else 3) = if i = 0 then 2 else if i < 1 then 4 else 3
    by_cases h : i = 0
    · rw [if_pos h, if_pos h]
    · rw [if_neg h, if_neg h, if_neg (by omega)]
  · show (if i = 0 then 0 else 1) ≤ aB N 1 i
    unfold aB
    split <;> split <;> omega
  · show 0 < if i = 0 then 0 else 1
    have : i ≠ 0 := fun e => h1 (by rw [e]; rfl)
    rw [if_neg this]; omega
  · show (if i = 0 then [0] else []).length ≤ 4 ∧ ∀ x ∈ (if i = 0 then [0] else []), x = 0
    split <;> simp
theorem FR.ok {T : Int} (h : FR N T p) (hN : 4 ≤ N ∧ N ≤ 8) (hd : 0 ≤ dr ∧ dr ≤ 200) (hT : -1000 ≤ T ∧ T ≤ 1000) : p.Ok N dr := by
  have hk := h.k
  refine ⟨hN, hd, by rw [h.r]; omega, hk.2, by rw [h.m]; exact Nat.lt_of_le_of_lt (Nat.sub_le_sub_right (Nat.pow_le_pow_right (by omega) (show p.k ≤ 8 by omega)) 1) (by omega), fun i => ?_, fun i hi => by have := h.a i hi; have := aB_le N p.k i hN hk.2; omega, fun _ => h.a1 p.k hk.2 (by omega), fun i _ => by rw [h.tm]; omega, by rw [h.now]; omega, fun _ => by rw [h.tm, h.now]; omega, small_of (B := 0) (by omega) (fun x hx => by rw [h.gl.2 x hx]; omega), by rw [h.si]; omega, h.da, fun _ i _ _ => ?_⟩
  · rw [h.st]
    split
    · exact .inl rfl
    · split
      · exact .inr (.inr rfl)
      · exact .inr (.inl rfl)
  · have hz : ∀ x ∈ p.mid.ck i, x = 0 := fun x hx => by
      unfold SP.mid at hx
      rw [if_pos (h.on _)] at hx
      simp only at hx
      split at hx
      · rcases keep4_mem hx with e | e
        · exact (h.ck i).2 x e
        · rw [e, h.tm, h.tm]; omega
      · exact (h.ck i).2 x hx
    have hl : (p.mid.ck i).length ≤ 4 := by
      unfold SP.mid
      rw [if_pos (h.on _)]
      simp only
      split
      · exact (keep4_len (h.ck i).1).2
      · exact (h.ck i).1
    rw [avg_zeros hz hl]
    unfold wiB
    exact decide_eq_true (by omega)
/-- What the slot's node leaves, if it is on. -/
theorem mid_eq (h : p.on p.k = true) : p.mid = { p with m := ins p.m p.k, st := (fun i => if i = p.k then 4 else p.st i), a := (fun i => if i = p.k then 0 else p.a i + 1), ck := (fun i => if wsy p.k = true then keep4 (p.ck i) (p.tm p.k - p.tm i) else p.ck i), so := (fun i => if i = p.k then p.so i else ((p.so i).put p.k (p.da p.k)).member p.k (isB (ins p.m p.k) p.k)), gl := (if wsy p.k = true then keep4 p.gl (p.tm p.k - p.now) else p.gl), si := 0 } := by
  unfold SP.mid; rw [if_pos h]
theorem FR.next {T : Int} (h : FR N T p) (hN : 4 ≤ N ∧ N ≤ 8) (hlt : p.k + 1 < N) : FR N T (p.next N dr d) ∧ (p.next N dr d).k = p.k + 1 := by
  have hk := h.k
  unfold SP.next
  rw [mid_eq (h.on _)]
  unfold SP.fwd
  rw [if_pos (show p.k + 1 < N from hlt)]
  refine ⟨⟨h.on, h.r, ⟨by show 1 ≤ p.k + 1; omega, hlt⟩, ?_, fun i => ?_, fun i hi => ?_, fun i hi h1 => ?_, h.tm, fun i => ⟨?_, fun x hx => ?_⟩, h.now, ⟨?_, fun x hx => ?_⟩, rfl, h.da⟩, rfl⟩
  · show ins p.m p.k = 2 ^ (p.k + 1) - 1
    rw [h.m]
    exact full_ins (by omega)
  · show (if i = p.k then 4 else p.st i) = if i = 0 then 2 else if i < p.k + 1 then 4 else 3
    rw [h.st]
    by_cases e : i = p.k
    · rw [if_pos e, if_neg (by omega), if_pos (by omega)]
    · rw [if_neg e]
      by_cases e0 : i = 0
      · rw [if_pos e0, if_pos e0]
      · rw [if_neg e0, if_neg e0]
        by_cases e1 : i < p.k
        · rw [if_pos e1, if_pos (by omega)]
        · rw [if_neg e1, if_neg (by omega)]
  · show (if i = p.k then 0 else p.a i + 1) ≤ aB N (p.k + 1) i
    have := h.a i hi
    unfold aB at this ⊢
    split at this <;> split <;> split <;> omega
  · show 0 < if i = p.k then 0 else p.a i + 1
    have h1' : i + 1 ≠ p.k + 1 := h1
    rw [if_neg (by omega)]; omega
  · show (if wsy p.k = true then keep4 (p.ck i) (p.tm p.k - p.tm i) else p.ck i).length ≤ 4
    split
    · exact (keep4_len (h.ck i).1).2
    · exact (h.ck i).1
  · have hx : x ∈ (if wsy p.k = true then keep4 (p.ck i) (p.tm p.k - p.tm i) else p.ck i) := hx
    split at hx
    · rcases keep4_mem hx with e | e
      · exact (h.ck i).2 x e
      · rw [e, h.tm, h.tm]; omega
    · exact (h.ck i).2 x hx
  · show (if wsy p.k = true then keep4 p.gl (p.tm p.k - p.now) else p.gl).length ≤ 4
    split
    · exact (keep4_len h.gl.1).2
    · exact h.gl.1
  · have hx : x ∈ (if wsy p.k = true then keep4 p.gl (p.tm p.k - p.now) else p.gl) := hx
    split at hx
    · rcases keep4_mem hx with e | e
      · exact h.gl.2 x e
      · rw [e, h.tm, h.now]; omega
    · exact h.gl.2 x hx
/-- All go together: clocks that stand apart by their drifts alone. -/
structure ST (N : Nat) (dr : Int) (d : Nat → Int) (T : Int) (L : List Int) (p : SP) : Prop where
  on : ∀ i, p.on i = true
  r : 1 ≤ p.r ∧ p.r ≤ 1000
  k : p.k < N
  m : p.m = 2 ^ N - 1
  st : ∀ i, i < N → p.st i = if i = 0 ∧ p.k = 0 ∧ p.r = 1 then 2 else 4
  st3 : ∀ i, p.st i = 2 ∨ p.st i = 3 ∨ p.st i = 4
  a : ∀ i, i < N → p.a i ≤ aB N p.k i
  a1 : ∀ i, i < N → (i + 1) % N ≠ p.k → 0 < p.a i
  tm : ∀ i, p.tm i = T + d i
  ck : ∀ i, p.ck i = L.map (· - d i)
  now : p.now = T
  gl : p.gl = L
  len : L.length ≤ 4 ∧ (0 < p.k → 0 < L.length)
  lb : ∀ x ∈ L, -dr ≤ x ∧ x ≤ dr
  tb : -(1000 + dr * p.r) ≤ T ∧ T ≤ 1000 + dr * p.r
  si : p.si = 0
  da : ∀ i, (p.da i).length ≤ 8 ∧ bytesL (p.da i)
theorem FR.last {T : Int} (h : FR N T p) (hN : 4 ≤ N ∧ N ≤ 8) (hd : 0 ≤ dr) (hlt : p.k + 1 = N) (hT : -1000 ≤ T ∧ T ≤ 1000) : ST N dr d T [] (p.next N dr d) ∧ (p.next N dr d).k = 0 ∧ (p.next N dr d).r = 1 := by
  have hk := h.k
  have hz : ∀ i, termV (4 * dr + 9) (if wsy p.k = true then keep4 (p.ck i) (p.tm p.k - p.tm i) else p.ck i) = 0 := fun i => termV_zeros (fun x hx => by
    split at hx
    · rcases keep4_mem hx with e | e
      · exact (h.ck i).2 x e
      · rw [e, h.tm, h.tm]; omega
    · exact (h.ck i).2 x hx) (by
    split
    · exact (keep4_len (h.ck i).1).2
    · exact (h.ck i).1)
  have hg : termV (4 * dr + 9) (if wsy p.k = true then keep4 p.gl (p.tm p.k - p.now) else p.gl) = 0 := termV_zeros (fun x hx => by
    split at hx
    · rcases keep4_mem hx with e | e
      · exact h.gl.2 x e
      · rw [e, h.tm, h.now]; omega
    · exact h.gl.2 x hx) (by
    split
    · exact (keep4_len h.gl.1).2
    · exact h.gl.1)
  unfold SP.next
  rw [mid_eq (h.on _)]
  unfold SP.fwd
  rw [if_neg (show ¬ p.k + 1 < N by omega)]
  have er : (if p.r < 65535 then p.r + 1 else 0) = 1 := by rw [h.r]; rfl
  refine ⟨⟨h.on, ?_, by show 0 < N; omega, ?_, fun i hi => ?_, fun i => ?_, fun i hi => ?_, fun i hi h1 => ?_, fun i => ?_, fun i => rfl, ?_, rfl, ⟨by show 0 ≤ 4; omega, fun x => absurd x (Nat.lt_irrefl 0)⟩, fun x hx => (by cases hx), ?_, rfl, h.da⟩, rfl, er⟩
  · show 1 ≤ (if p.r < 65535 then p.r + 1 else 0) ∧ (if p.r < 65535 then p.r + 1 else 0) ≤ 1000
    rw [er]; omega
  · show ins p.m p.k = 2 ^ N - 1
    rw [h.m, full_ins (by omega), hlt]
  · show (if i = p.k then 4 else p.st i) = if i = 0 ∧ 0 = 0 ∧ (if p.r < 65535 then p.r + 1 else 0) = 1 then 2 else 4
    rw [h.st, er]
    by_cases e : i = p.k
    · rw [if_pos e, if_neg (by omega)]
    · rw [if_neg e]
      by_cases e0 : i = 0
      · rw [if_pos e0, if_pos (by omega)]
      · rw [if_neg e0, if_pos (by omega), if_neg (by omega)]
  · show (if i = p.k then 4 else p.st i) = 2 ∨ (if i = p.k then 4 else p.st i) = 3 ∨ (if i = p.k then 4 else p.st i) = 4
    rw [h.st]
    split
    · omega
    · split
      · omega
      · split <;> omega
  · show (if i = p.k then 0 else p.a i + 1) ≤ aB N 0 i
    have := h.a i hi
    unfold aB at this ⊢
    split at this <;> split <;> split <;> omega
  · show 0 < if i = p.k then 0 else p.a i + 1
    have h1' : (i + 1) % N ≠ 0 := h1
    rw [if_neg (fun e => h1' (by rw [e, hlt]; exact Nat.mod_self N))]
    omega
  · show p.tm i + termV (4 * dr + 9) (if wsy p.k = true then keep4 (p.ck i) (p.tm p.k - p.tm i) else p.ck i) + d i = T + d i
    rw [hz, h.tm]; omega
  · show p.now + termV (4 * dr + 9) (if wsy p.k = true then keep4 p.gl (p.tm p.k - p.now) else p.gl) = T
    rw [hg, h.now]; omega
  · show -(1000 + dr * (if p.r < 65535 then p.r + 1 else 0)) ≤ T ∧ T ≤ 1000 + dr * (if p.r < 65535 then p.r + 1 else 0)
    rw [er]; omega
/-- What was measured, behind this slot. -/
def l4 (d : Nat → Int) (k : Nat) (L : List Int) : List Int := if wsy k = true then keep4 L (d k) else L
theorem l4_len {d : Nat → Int} {k : Nat} {L : List Int} (h : L.length ≤ 4) (h0 : 0 < k → 0 < L.length) : (l4 d k L).length ≤ 4 ∧ 0 < (l4 d k L).length := by
  unfold l4
  split
  · exact ⟨(keep4_len h).2, (keep4_len h).1⟩
  · rename_i hs
    refine ⟨h, h0 ?_⟩
    rcases Nat.eq_zero_or_pos k with rfl | h
    · exact absurd rfl hs
    · exact h
theorem l4_bd {d : Nat → Int} {k : Nat} {L : List Int} {B : Int} (h : ∀ x ∈ L, -B ≤ x ∧ x ≤ B) (hd : -B ≤ d k ∧ d k ≤ B) : ∀ x ∈ l4 d k L, -B ≤ x ∧ x ≤ B := fun x hx => by
  unfold l4 at hx
  split at hx
  · rcases keep4_mem hx with e | e
    · exact h x e
    · rw [e]; exact hd
  · exact h x hx
theorem ST.mid {T : Int} {L : List Int} (h : ST N dr d T L p) : (∀ i, p.mid.ck i = (l4 d p.k L).map (· - d i)) ∧ p.mid.gl = l4 d p.k L := by
  rw [mid_eq (h.on _)]
  refine ⟨fun i => ?_, ?_⟩
  · show (if wsy p.k = true then keep4 (p.ck i) (p.tm p.k - p.tm i) else p.ck i) = _
    unfold l4
    rw [h.ck, h.tm, h.tm, show T + d p.k - (T + d i) = d p.k - d i by omega]
    split
    · rw [keep4_map]
    · rfl
  · show (if wsy p.k = true then keep4 p.gl (p.tm p.k - p.now) else p.gl) = _
    unfold l4
    rw [h.gl, h.tm, h.now, show T + d p.k - T = d p.k by omega]
theorem ST.avg_bd {T : Int} {L : List Int} (h : ST N dr d T L p) (hd0 : 0 ≤ dr) (hd : ∀ i, -dr ≤ d i ∧ d i ≤ dr) : -dr ≤ avg (l4 d p.k L) ∧ avg (l4 d p.k L) ≤ dr :=
  Clk.avg_bound hd0 (l4_bd h.lb (hd _)) (l4_len h.len.1 h.len.2).1
theorem ST.turn {T : Int} {L : List Int} (h : ST N dr d T L p) (hd0 : 0 ≤ dr) (hd : ∀ i, -dr ≤ d i ∧ d i ≤ dr) (i : Nat) : avg (p.mid.ck i) = avg (l4 d p.k L) - d i ∧ wiB (4 * dr + 9) (avg (p.mid.ck i)) = true := by
  have hb := h.avg_bd hd0 hd
  have hi := hd i
  obtain ⟨l1, l2⟩ := l4_len (d := d) h.len.1 h.len.2
  rw [h.mid.1 i, Clk.avg_map_sub _ _ l2 l1]
  refine ⟨rfl, ?_⟩
  unfold wiB
  exact decide_eq_true (by omega)
theorem dr_mul {dr r : Int} (h : 0 ≤ dr ∧ dr ≤ 2) (hr : 1 ≤ r ∧ r ≤ 1000) : 0 ≤ dr * r ∧ dr * r ≤ 2000 ∧ dr * (r + 1) = dr * r + dr := by
  refine ⟨Int.mul_nonneg h.1 (by omega), ?_, by rw [Int.mul_add, Int.mul_one]⟩
  rcases (by omega : dr = 0 ∨ dr = 1 ∨ dr = 2) with rfl | rfl | rfl <;> omega
theorem ST.ok {T : Int} {L : List Int} (h : ST N dr d T L p) (hN : 4 ≤ N ∧ N ≤ 8) (hd0 : 0 ≤ dr ∧ dr ≤ 2) (hd : ∀ i, -dr ≤ d i ∧ d i ≤ dr) : p.Ok N dr := by
  have hr := h.r
  have hk := h.k
  have htb := h.tb
  have hm := dr_mul hd0 h.r
  refine ⟨hN, by omega, by omega, h.k, by rw [h.m]; exact full_lt hN.2, h.st3, fun i hi => by have := h.a i hi; have := aB_le N p.k i hN h.k; omega, fun _ => h.a1 p.k h.k (fun e => ?_), fun i _ => by rw [h.tm]; have := hd i; omega, by rw [h.now]; omega, fun _ => by rw [h.tm, h.now]; have := hd p.k; omega, by rw [h.gl]; exact small_of (B := dr) (by omega) h.lb, by rw [h.si]; omega, h.da, fun _ i _ _ => (h.turn hd0.1 hd i).2⟩
  by_cases e1 : p.k + 1 = N
  · rw [e1, Nat.mod_self] at e; omega
  · rw [Nat.mod_eq_of_lt (by omega)] at e; omega
theorem ST.next {T : Int} {L : List Int} (h : ST N dr d T L p) (hN : 4 ≤ N ∧ N ≤ 8) (hd0 : 0 ≤ dr ∧ dr ≤ 2) (hd : ∀ i, -dr ≤ d i ∧ d i ≤ dr) (hr : p.r < 1000) : ∃ T' L', ST N dr d T' L' (p.next N dr d) ∧ (p.next N dr d).k = (p.k + 1) % N ∧ (p.next N dr d).r ≤ p.r + 1 ∧ ∀ i, i < N → (p.next N dr d).st i = 4 := by
  have hk := h.k
  have hr1 := h.r
  have htb := h.tb
  have hm := dr_mul hd0 h.r
  have hst : ∀ i, i < N → (if i = p.k then 4 else p.st i) = 4 := fun i hi => by
    split
    · rfl
    · rw [h.st i hi, if_neg (by omega)]
  have hst3 : ∀ i, (if i = p.k then 4 else p.st i) = 2 ∨ (if i = p.k then 4 else p.st i) = 3 ∨ (if i = p.k then 4 else p.st i) = 4 := fun i => by
    split
    · exact .inr (.inr rfl)
    · exact h.st3 i
  have hmid := mid_eq (h.on p.k)
  by_cases hlt : p.k + 1 < N
  · have en : p.next N dr d = { p.mid with k := p.k + 1 } := by
      unfold SP.next SP.fwd
      have : p.mid.k = p.k := (SP.mid_on p).2.1
      rw [this, if_pos hlt]
    refine ⟨T, l4 d p.k L, ?_, by rw [en, Nat.mod_eq_of_lt hlt], by rw [en]; show p.mid.r ≤ _; rw [(SP.mid_on p).2.2.1]; omega, fun i hi => by rw [en, hmid]; exact hst i hi⟩
    obtain ⟨c1, c2⟩ := h.mid
    rw [en]
    rw [hmid] at c1 c2 ⊢
    refine ⟨h.on, hr1, hlt, ?_, fun i hi => ?_, hst3, fun i hi => ?_, fun i hi h1 => ?_, h.tm, c1, h.now, c2, ⟨(l4_len h.len.1 h.len.2).1, fun _ => (l4_len h.len.1 h.len.2).2⟩, l4_bd h.lb (hd _), htb, rfl, h.da⟩
    · show ins p.m p.k = 2 ^ N - 1
      rw [h.m, full_has hN.2 hk]
    · show (if i = p.k then 4 else p.st i) = if i = 0 ∧ p.k + 1 = 0 ∧ p.r = 1 then 2 else 4
      rw [hst i hi, if_neg (by omega)]
    · show (if i = p.k then 0 else p.a i + 1) ≤ aB N (p.k + 1) i
      have := h.a i hi
      unfold aB at this ⊢
      split at this <;> split <;> split <;> omega
    · show 0 < if i = p.k then 0 else p.a i + 1
      have h1' : (i + 1) % N ≠ p.k + 1 := h1
      rw [if_neg (fun e => h1' (by rw [e, Nat.mod_eq_of_lt hlt]))]
      omega
  · have en : p.next N dr d = { p.mid with k := 0, r := if p.r < 65535 then p.r + 1 else 0, tm := (fun i => p.tm i + termV (4 * dr + 9) (p.mid.ck i) + d i), ck := (fun _ => []), so := (fun i => (p.mid.so i).age), now := p.now + termV (4 * dr + 9) p.mid.gl, gl := [] } := by
      obtain ⟨m1, m2, m3, m4, m5, m6⟩ := SP.mid_on p
      unfold SP.next SP.fwd
      rw [m2, m3, m4, m5, if_neg hlt]
    have er : (if p.r < 65535 then p.r + 1 else 0) = p.r + 1 := if_pos (by omega)
    have hb := h.avg_bd hd0.1 hd
    have tg : termV (4 * dr + 9) p.mid.gl = avg (l4 d p.k L) := by
      rw [h.mid.2]
      unfold termV
      rw [if_pos]
      unfold wiB
      exact decide_eq_true (by omega)
    have tt : ∀ i, termV (4 * dr + 9) (p.mid.ck i) = avg (l4 d p.k L) - d i := fun i => by
      obtain ⟨e1, e2⟩ := h.turn hd0.1 hd i
      unfold termV
      rw [if_pos e2, e1]
    have hkN : (p.k + 1) % N = 0 := by rw [show p.k + 1 = N by omega]; exact Nat.mod_self N
    refine ⟨T + avg (l4 d p.k L), [], ?_, by rw [en, hkN], by rw [en]; show (if p.r < 65535 then p.r + 1 else 0) ≤ _; rw [er]; omega, fun i hi => by rw [en, hmid]; exact hst i hi⟩
    rw [en]
    refine ⟨?_, ?_, by show 0 < N; omega, ?_, fun i hi => ?_, fun i => ?_, fun i hi => ?_, fun i hi h1 => ?_, fun i => ?_, fun i => rfl, ?_, rfl, ⟨by show 0 ≤ 4; omega, fun x => absurd x (Nat.lt_irrefl 0)⟩, fun x hx => (by cases hx), ?_, ?_, ?_⟩
    · rw [hmid]; exact h.on
    · show 1 ≤ (if p.r < 65535 then p.r + 1 else 0) ∧ (if p.r < 65535 then p.r + 1 else 0) ≤ 1000
      rw [er]; omega
    · show p.mid.m = _
      rw [hmid]
      show ins p.m p.k = 2 ^ N - 1
      rw [h.m, full_has hN.2 hk]
    · show p.mid.st i = if i = 0 ∧ 0 = 0 ∧ (if p.r < 65535 then p.r + 1 else 0) = 1 then 2 else 4
      rw [hmid, er]
      show (if i = p.k then 4 else p.st i) = _
      rw [hst i hi, if_neg (by omega)]
    · show p.mid.st i = 2 ∨ p.mid.st i = 3 ∨ p.mid.st i = 4
      rw [hmid]; exact hst3 i
    · show p.mid.a i ≤ aB N 0 i
      rw [hmid]
      show (if i = p.k then 0 else p.a i + 1) ≤ aB N 0 i
      have := h.a i hi
      unfold aB at this ⊢
      split at this <;> split <;> split <;> omega
    · show 0 < p.mid.a i
      rw [hmid]
      show 0 < if i = p.k then 0 else p.a i + 1
      have h1' : (i + 1) % N ≠ 0 := h1
      rw [if_neg (fun e => h1' (by rw [e]; exact hkN))]
      omega
    · show p.tm i + termV (4 * dr + 9) (p.mid.ck i) + d i = T + avg (l4 d p.k L) + d i
      rw [tt, h.tm]; omega
    · show p.now + termV (4 * dr + 9) p.mid.gl = T + avg (l4 d p.k L)
      rw [tg, h.now]
    · show -(1000 + dr * (if p.r < 65535 then p.r + 1 else 0)) ≤ T + avg (l4 d p.k L) ∧ T + avg (l4 d p.k L) ≤ 1000 + dr * (if p.r < 65535 then p.r + 1 else 0)
      rw [er, hm.2.2]; omega
    · show p.mid.si = 0
      rw [hmid]
    · show ∀ i, (p.mid.da i).length ≤ 8 ∧ bytesL (p.mid.da i)
      rw [hmid]; exact h.da
end
end Go.Proofs.YtjoioojckekfhaaGreat

namespace Go.Proofs.YtjoioojckekfhaaGreat
open Fr (St F)
open Clk (avg)

/-- So many slots behind their beginning. -/
def Wj (N : Nat) (dr : Int) (d : Nat → Int) (al : List R4) (tm : Nat → Int) (da : Nat → List Int) (j : Nat) (u : WM) : Prop :=
  u.sl = j ∧ ((j ≤ 19 ∧ Ls N dr d al tm da j u) ∨ (20 ≤ j ∧ ∃ p, Sy N dr d p u ∧ p.da = da ∧ ((FR N (tm 0) p ∧ p.k = j - 19) ∨ (19 + N ≤ j ∧ ∃ T L, ST N dr d T L p ∧ p.k = (j - 19) % N ∧ p.r ≤ j ∧ (20 + N ≤ j → ∀ i, i < N → p.st i = 4)))))
section
variable {N : Nat} {dr : Int} {d : Nat → Int} {al : List R4} {tm : Nat → Int} {da : Nat → List Int} {j : Nat} {u : WM}
theorem next_da (p : SP) : (p.next N dr d).da = p.da := by
  unfold SP.next
  rw [(SP.fwd_on p.mid N dr d).2.2.2.2.2, (SP.mid_on p).2.2.2.2.2]
theorem Wj.step (h : Wj N dr d al tm da j u) (hN : 4 ≤ N ∧ N ≤ 8) (hd0 : 0 ≤ dr ∧ dr ≤ 2) (hd : ∀ i, -dr ≤ d i ∧ d i ≤ dr) (htm : ∀ i, -1000 ≤ tm i ∧ tm i ≤ 1000) (hda : ∀ i, (da i).length ≤ 8 ∧ bytesL (da i)) (hj : j < 900) : WOk N u ∧ Wj N dr d al tm da (j + 1) (u.slot N) := by
  obtain ⟨hsl, h⟩ := h
  have hsl' : (u.slot N).sl = j + 1 := by show u.sl + 1 = _; rw [hsl]
  rcases h with ⟨hj19, h⟩ | ⟨hj20, p, hS, hpd, h⟩
  · by_cases e : j < 19
    · obtain ⟨w, l⟩ := h.silent hN (by omega) (fun i _ => by have := htm i; omega) e
      exact ⟨w, hsl', .inl ⟨by omega, l⟩⟩
    · obtain rfl : j = 19 := by omega
      obtain ⟨w, s⟩ := h.begins hN (by omega) (fun i _ => by have := htm i; omega) (hda 0).1
      exact ⟨w, hsl', .inr ⟨by omega, p1 da (tm 0), s, rfl, .inl ⟨fr1 da (tm 0) hN hda, rfl⟩⟩⟩
  · have hnd : (p.next N dr d).da = da := by rw [next_da, hpd]
    rcases h with ⟨h, hk⟩ | ⟨hjN, T, L, h, hk, hr, hst⟩
    · have ok := h.ok (dr := dr) hN (by omega) (htm 0)
      refine ⟨hS.wok ok, hsl', .inr ⟨by omega, p.next N dr d, hS.step ok, hnd, ?_⟩⟩
      by_cases hlt : p.k + 1 < N
      · obtain ⟨f, fk⟩ := h.next (dr := dr) (d := d) hN hlt
        exact .inl ⟨f, by rw [fk]; omega⟩
      · have hk2 := h.k
        obtain ⟨f, fk, fr⟩ := h.last (dr := dr) (d := d) hN hd0.1 (by omega) (htm 0)
        refine .inr ⟨by omega, tm 0, [], f, ?_, by rw [fr]; omega, fun h => by omega⟩
        rw [fk, show j + 1 - 19 = N by omega, Nat.mod_self]
    · have ok := h.ok hN hd0 hd
      obtain ⟨T', L', f, fk, fr, fs⟩ := h.next hN hd0 hd (by omega)
      refine ⟨hS.wok ok, hsl', .inr ⟨by omega, p.next N dr d, hS.step ok, hnd, .inr ⟨by omega, T', L', f, ?_, by omega, fun _ => fs⟩⟩⟩
      rw [fk, hk, Nat.mod_add_mod, show j - 19 + 1 = j + 1 - 19 by omega]
/-- All are Active, with one view; their clocks stand apart by their drifts. -/
theorem Wj.up (h : Wj N dr d al tm da j u) (hj : 20 + N ≤ j) : ∃ (r : Int) (k : Nat) (T : Int), ∀ i, i < N → (u.ms i).st = 4 ∧ (u.ms i).rd = r ∧ (u.ms i).sl = k ∧ (u.ms i).ty.m = 2 ^ N - 1 ∧ (u.ms i).tm = T + d i := by
  obtain ⟨-, h⟩ := h
  rcases h with ⟨h1, -⟩ | ⟨-, p, hS, -, h⟩
  · omega
  · rcases h with ⟨h, hk⟩ | ⟨-, T, L, h, -, -, hst⟩
    · have := h.k; omega
    · refine ⟨p.r, p.k, T, fun i hi => ?_⟩
      have hn := hS.nd i hi (h.on i)
      exact ⟨by rw [hn.st]; exact hst hj i hi, hn.rd, hn.sl, by rw [hn.ty]; exact h.m, by rw [hn.tm, h.tm]⟩
/-- A ward of which the first m are on. -/
def wO (N : Nat) (dr : Int) (dl : List Int) (al : List R4) (tm : Nat → Int) (m : Nat) : WM :=
  ⟨fun i => if i < m then lsN N dr (fun i => dl.getD i 0) al tm (fun _ => []) 0 i else NM.new (gsmT N dr) i (dl.getD i 0) al, newG (gsmT N dr), 0⟩
theorem wO_zero (N : Nat) (dr : Int) (dl : List Int) (al : List R4) (tm : Nat → Int) : wO N dr dl al tm 0 = WM.new (gsmT N dr) dl al := by
  unfold wO WM.new
  simp only [Nat.not_lt_zero, if_false]
theorem wO_ms (N : Nat) (dr : Int) (dl : List Int) (al : List R4) (tm : Nat → Int) (m : Nat) : (wO N dr dl al tm m).ms m = NM.new (gsmT N dr) m (dl.getD m 0) al := if_neg (Nat.lt_irrefl m)
theorem new_on (t : Tb.T) (i : Nat) (x : Int) (al : List R4) (a : Int) (ha : -1000 ≤ a ∧ a ≤ 1000) : (NM.new t i x al).onE a = 0 ∧ (NM.new t i x al).on a = { NM.new t i x al with st := 1, tm := a } := by
  have e : (NM.new t i x al).onE a = 0 := by
    unfold NM.onE
    rw [if_neg (by omega), if_neg (fun h => h.1 rfl)]
  refine ⟨e, ?_⟩
  unfold NM.on
  rw [if_pos e]
  rfl
theorem wO_succ (N : Nat) (dr : Int) (dl : List Int) (al : List R4) (tm : Nat → Int) (m : Nat) (h : -1000 ≤ tm m ∧ tm m ≤ 1000) :
    ((wO N dr dl al tm m).ms m).onE (tm m) = 0 ∧ ({ wO N dr dl al tm m with ms := upd' (wO N dr dl al tm m).ms m (((wO N dr dl al tm m).ms m).on (tm m)) } : WM) = wO N dr dl al tm (m + 1) := by
  rw [wO_ms]
  obtain ⟨e1, e2⟩ := new_on (gsmT N dr) m (dl.getD m 0) al (tm m) h
  refine ⟨e1, ?_⟩
  rw [e2]
  refine WM.alike (fun i => ?_) rfl rfl
  show upd' _ m _ i = if i < m + 1 then _ else _
  by_cases e : i = m
  · subst e
    rw [upd'_same, if_pos (Nat.lt_succ_self _)]
    rfl
  · rw [upd'_other _ _ _ e]
    show (if i < m then _ else _) = _
    by_cases h : i < m
    · rw [if_pos h, if_pos (by omega)]
    · rw [if_neg h, if_neg (by omega)]
theorem wO_all (N : Nat) (dr : Int) (dl : List Int) (al : List R4) (tm : Nat → Int) : Wj N dr (fun i => dl.getD i 0) al tm (fun _ => []) 0 (wO N dr dl al tm N) :=
  ⟨rfl, .inl ⟨by omega, fun i hi => if_pos hi, rfl⟩⟩
end
end Go.Proofs.YtjoioojckekfhaaGreat

namespace Go.Proofs.YtjoioojckekfhaaGreat
open Fr (St F)
open Clk (avg)

/-- A guardian's bounds. -/
structure GB (N : Nat) (dr : Int) (s : G) : Prop where
  n : s.n = N
  wi : s.wi = 4 * dr + 6
  lm : s.lm = 4 * dr + 9
  slot : s.slot < N
  now : s.now = 0
  l : s.l.length ≤ 4 ∧ ∀ x ∈ s.l, x = 0
  si : s.si ≤ 2 * N
  sk : s.kn = true → s.si < 2 * N
/-- A node that listens. -/
structure LsA (N : Nat) (dr : Int) (w j : Nat) (s : NM) : Prop where
  t : s.t = gsmT N dr
  ix : s.i = w
  dx : s.dr = 0
  st : s.st = 1
  wt : s.wt = j
  tm : s.tm = 0
  ty : s.ty = ⟨0, 0, 0⟩
  da : s.da = []
/-- A node that has begun. -/
structure BgA (N : Nat) (dr : Int) (w k : Nat) (s : NM) : Prop where
  t : s.t = gsmT N dr
  ix : s.i = w
  dx : s.dr = 0
  st : s.st = 2
  sl : s.sl = k
  tm : s.tm = 0
  a : s.ty.a = 0 ∧ s.ty.f = 0
  ck : s.ck.length ≤ 4 ∧ ∀ x ∈ s.ck, x = 0
  da : s.da = []
/-- All but one are off. -/
structure OneOn (N : Nat) (dr : Int) (w : Nat) (u : WM) : Prop where
  off : ∀ i, i < N → i ≠ w → ((u.ms i).st = 0 ∧ (u.ms i).se = false) ∧ (u.ms i).tm = 0 ∧ (u.ms i).ty = ⟨0, 0, 0⟩
  gd : GB N dr u.s
section
variable {N : Nat} {dr : Int} {w : Nat} {u : WM}
theorem GB.on {s : G} (h : GB N dr s) : GB N dr s.on := by
  unfold G.on
  have hs := h.slot
  split
  · refine ⟨h.n, h.wi, h.lm, by show 0 < N; omega, ?_, ⟨by show 0 ≤ 4; omega, fun x hx => (by cases hx)⟩, h.si, h.sk⟩
    show s.now + termV s.lm s.l = 0
    rw [termV_zeros h.l.2 h.l.1, h.now]
    rfl
  · rename_i e
    have hn := h.n
    exact ⟨h.n, h.wi, h.lm, by show s.slot + 1 < N; omega, h.now, h.l, h.si, h.sk⟩
theorem GB.ended {s : G} (h : GB N dr s) (hN : 4 ≤ N ∧ N ≤ 8) (l : List Int) (hl : bytesL l) : GB N dr (s.ended l 0) := by
  unfold G.ended
  split
  · rename_i hk
    split
    · unfold G.heard
      refine GB.on ?_
      split
      · refine ⟨h.n, h.wi, h.lm, h.slot, h.now, ⟨(keep4_len h.l.1).2, fun x hx => ?_⟩, by show 0 ≤ 2 * N; omega, fun _ => by show 0 < 2 * N; omega⟩
        rcases keep4_mem hx with e | e
        · exact h.l.2 x e
        · rw [e, h.now]; rfl
      · exact ⟨h.n, h.wi, h.lm, h.slot, h.now, h.l, by show 0 ≤ 2 * N; omega, fun _ => by show 0 < 2 * N; omega⟩
    · have h1 := h.sk hk
      have hn := h.n
      unfold G.missed
      split
      · exact ⟨h.n, h.wi, h.lm, by show 0 < N; omega, h.now, h.l, by show s.si + 1 ≤ 2 * N; omega, fun e => (by cases e)⟩
      · rename_i e
        exact GB.on ⟨h.n, h.wi, h.lm, h.slot, h.now, h.l, by show s.si + 1 ≤ 2 * N; omega, fun _ => by show s.si + 1 < 2 * N; omega⟩
  · unfold G.learnt
    split
    · rename_i ht
      unfold tells at ht
      simp only [Bool.and_eq_true, decide_eq_true_eq] at ht
      have h1 := tells_slot hl ht.1.1
      have hn := h.n
      exact GB.on ⟨h.n, h.wi, h.lm, by show (Fr.res l z0).st.s.toNat < N; omega, rfl, ⟨by show 0 ≤ 4; omega, fun x hx => (by cases hx)⟩, by show 0 ≤ 2 * N; omega, fun _ => by show 0 < 2 * N; omega⟩
    · exact h
/-- What may be asked of the slot. -/
theorem OneOn.wok (h : OneOn N dr w u) (hN : 4 ≤ N ∧ N ≤ 8) (hd : 0 ≤ dr ∧ dr ≤ 200) (hw : (u.ms w).sendS.tm = 0 ∧ (u.ms w).sendS.ty.a < 900 ∧ (u.ms w).sendS.ty.f < 900) : WOk N u := by
  have hn := h.gd.n
  refine ⟨hN, h.gd.n, fun i hi => ?_, fun i hi => ?_, by rw [h.gd.now]; omega, h.gd.slot, small_of (B := 0) (by omega) (fun x hx => by rw [h.gd.l.2 x hx]; omega), by rw [h.gd.lm]; omega, by rw [h.gd.wi]; omega, by have := h.gd.si; omega⟩
  · by_cases e : i = w
    · subst e; rw [hw.1]; omega
    · have := h.off i hi e
      rw [(off_quiet this.1).2, this.2.1]; omega
  · by_cases e : i = w
    · subst e; exact hw.2
    · have := h.off i hi e
      rw [(off_quiet this.1).2, this.2.2]
      show (0 : Nat) < 900 ∧ (0 : Nat) < 900
      omega
/-- The slot, but for the one that is on. -/
theorem OneOn.slot (h : OneOn N dr w u) (hN : 4 ≤ N ∧ N ≤ 8) (hw : w < N) (htm : (u.ms w).sendS.tm = 0) (hby : bytesL (u.ms w).sent) : OneOn N dr w (u.slot N) ∧ (u.slot N).ms w = (u.ms w).sendS.take (u.hear N w) ∧ ((u.ms w).sent = [] → u.hear N w = ⟨0, 0, [], [], 0⟩) := by
  have hbs : ∀ i, i ≠ w → u.bs N i = [] := fun i e => by
    unfold WM.bs
    split
    · rename_i hi; rw [sent_none (off_quiet (h.off i hi e).1).1]
    · rfl
  have hat : ∀ i, u.at_ N i = 0 := fun i => by
    unfold WM.at_
    split
    · rename_i hi
      by_cases e : i = w
      · subst e; exact htm
      · rw [(off_quiet (h.off i hi e).1).2]; exact (h.off i hi e).2.1
    · rfl
  have hheard : bytesL (u.heard N) := by
    unfold WM.heard
    split
    · exact fun x hx => (by cases hx)
    · by_cases e : (u.who N).toNat = w
      · rw [e]
        unfold WM.bs
        rw [if_pos hw]; exact hby
      · rw [hbs _ e]; exact fun x hx => (by cases hx)
  have hwhen : u.when_ N = 0 := by
    unfold WM.when_
    split
    · rfl
    · exact hat _
  refine ⟨⟨fun i hi e => ?_, ?_⟩, ?_, fun hs => ?_⟩
  · have ho := h.off i hi e
    have e2 : (u.slot N).ms i = u.ms i := by
      show (if i < N then (u.ms i).sendS.take (u.hear N i) else u.ms i) = u.ms i
      rw [if_pos hi, (off_quiet ho.1).2]
      unfold NM.take
      rw [if_pos (.inl ho.1.1)]
    rw [e2]
    exact ho
  · show GB N dr (u.s.ended (u.heard N) (u.when_ N))
    rw [hwhen]
    exact h.gd.ended hN _ hheard
  · show (if w < N then (u.ms w).sendS.take (u.hear N w) else u.ms w) = _
    rw [if_pos hw]
  · have hwho : u.who N = -1 := by
      rcases pass_range u.s (sF (u.sd N)) (sA (u.sd N)) (by rw [h.gd.n]; exact h.gd.slot) with e | ⟨j, -, hj, hf⟩
      · exact e
      · rw [h.gd.n] at hj
        unfold WM.sd at hf
        rw [sF_m0 N _ _ j hj] at hf
        have h0 := of_decide_eq_true hf
        by_cases e : j = w
        · subst e
          unfold WM.bs at h0
          rw [if_pos hj, hs] at h0
          simp at h0
        · rw [hbs j e] at h0
          simp at h0
    unfold WM.hear
    rw [hwho, if_pos (by omega)]
theorem LsA.me {j : Nat} {s : NM} (h : LsA N dr w j s) (hw : w < N) : s.me = gsmD w := by
  unfold NM.me
  rw [h.t, h.ix]
  exact gsm_at N dr w hw
theorem LsA.wait {j : Nat} {s : NM} (h : LsA N dr w j s) (hw : w < N) (hj : (j : Int) + 1 < (gsmD w).li) : s.sent = [] ∧ LsA N dr w (j + 1) (s.sendS.take ⟨0, 0, [], [], 0⟩) ∧ s.sendS.tm = 0 ∧ s.sendS.ty = ⟨0, 0, 0⟩ := by
  have eK : s.sendK = 0 := by
    unfold NM.sendK
    rw [if_pos h.st, h.me hw, h.wt, if_pos hj]
  have eS : s.sendS = { s with wt := j + 1, se := false } := by
    unfold NM.sendS
    rw [if_pos h.st, h.me hw, h.wt, if_pos hj]
  refine ⟨sent_none eK, ?_, by rw [eS]; exact h.tm, by rw [eS]; exact h.ty⟩
  rw [eS]
  have e : NM.take { s with wt := j + 1, se := false } ⟨0, 0, [], [], 0⟩ = { s with wt := j + 1, se := false } := by
    unfold NM.take
    rw [if_neg (by show ¬ (s.st = 0 ∨ s.st = 5); rw [h.st]; omega), if_pos (show s.st = 1 from h.st)]
    have : NM.firstL { s with wt := j + 1, se := false } ⟨0, 0, [], [], 0⟩ = none := rfl
    rw [this]
    simp only
    rw [if_neg (by simp)]
  rw [e]
  exact ⟨h.t, h.ix, h.dx, h.st, rfl, h.tm, h.ty, h.da⟩
theorem goOn_bg {k : Nat} {s : NM} (ht : s.t = gsmT N dr) (hd : 0 ≤ dr ∧ dr ≤ 200) (hi : s.i = w) (hdx : s.dr = 0) (hst : s.st = 2) (hsl : s.sl = k) (hk : k < N) (htm : s.tm = 0) (ha : s.ty.a = 0 ∧ s.ty.f = 0) (hck : s.ck.length ≤ 4 ∧ ∀ x ∈ s.ck, x = 0) (hda : s.da = []) : BgA N dr w ((k + 1) % N) s.goOn := by
  have e : s.goOn = if nxS (s.t.ns.length : Nat) (s.sl : Nat) ≠ 0 then { s with rd := nxR (s.t.ns.length : Nat) s.rd (s.sl : Nat), sl := (nxS (s.t.ns.length : Nat) (s.sl : Nat)).toNat, se := false } else
      if wiB s.t.lm (avg s.ck) then { s with rd := nxR (s.t.ns.length : Nat) s.rd (s.sl : Nat), sl := (nxS (s.t.ns.length : Nat) (s.sl : Nat)).toNat, se := false, tm := s.tm + termV s.t.lm s.ck + s.dr, ck := [], so := s.so.age, an := nowM s.al s.so.age, ar := fun i => s.ar i ||| nowM s.al s.so.age i }
      else { s with rd := nxR (s.t.ns.length : Nat) s.rd (s.sl : Nat), sl := (nxS (s.t.ns.length : Nat) (s.sl : Nat)).toNat, se := false, st := 5, ck := [], so := s.so.age, an := nowM s.al s.so.age, ar := fun i => s.ar i ||| nowM s.al s.so.age i } := by
    unfold NM.goOn
    simp only
    split
    · rfl
    · split <;> rfl
  have elm : s.t.lm = 4 * dr + 9 := by rw [ht]; rfl
  have eln : s.t.ns.length = N := by rw [ht]; exact gsm_len N dr
  rw [e, eln, elm, hsl, avg_zeros hck.2 hck.1]
  by_cases hlt : k + 1 < N
  · rw [(nx_more hlt s.rd).1, if_pos (by omega), Int.toNat_natCast, Nat.mod_eq_of_lt hlt]
    exact ⟨ht, hi, hdx, hst, rfl, htm, ha, hck, hda⟩
  · have hkN : k + 1 = N := by omega
    rw [(nx_last hkN s.rd).1, if_neg (fun h => h rfl), if_pos (by unfold wiB; exact decide_eq_true (by omega)), hkN, Nat.mod_self]
    refine ⟨ht, hi, hdx, hst, rfl, ?_, ha, ⟨by show 0 ≤ 4; omega, fun x hx => (by cases hx)⟩, hda⟩
    show s.tm + termV (4 * dr + 9) s.ck + s.dr = 0
    rw [termV_zeros hck.2 hck.1, htm, hdx]
    rfl
/-- It begins. -/
def bgA (s : NM) (w : Nat) : NM := { s.anew 2 with sl := w, ty := ⟨ins 0 w, 0, 0⟩, se := true }
theorem LsA.begin {j : Nat} {s : NM} (h : LsA N dr w j s) (hN : 4 ≤ N ∧ N ≤ 8) (hd : 0 ≤ dr ∧ dr ≤ 200) (hw : w < N) (hj : ¬ (j : Int) + 1 < (gsmD w).li) (x : Hn) : BgA N dr w ((w + 1) % N) (s.sendS.take x) ∧ s.sendS.tm = 0 ∧ s.sendS.ty.a = 0 ∧ s.sendS.ty.f = 0 ∧ bytesL s.sent := by
  have eS : s.sendS = { s.begun with se := true } := by
    unfold NM.sendS
    rw [if_pos h.st, h.me hw, h.wt, if_neg hj]
  have eK : s.sendK = 3 := by
    unfold NM.sendK
    rw [if_pos h.st, h.me hw, h.wt, if_neg hj]
  have ej : (⟨0, 0, 0⟩ : TS).join (s.i : Nat) = ⟨ins 0 w, 0, 0⟩ := by
    unfold TS.join
    rw [h.ix, if_pos (by omega), Int.toNat_natCast]
  have eb : s.begun = { s.anew 2 with sl := w, ty := ⟨ins 0 w, 0, 0⟩ } := by
    unfold NM.begun
    rw [ej, h.ix]
  rw [eS, eb]
  refine ⟨?_, h.tm, rfl, rfl, ?_⟩
  · have e : NM.take (bgA s w) x = NM.goOn { bgA s w with ck := NM.meas (bgA s w) s.i 0 } := by
      unfold NM.take
      rw [if_neg (by show ¬ ((2 : Nat) = 0 ∨ (2 : Nat) = 5); omega), if_neg (by show ¬ (2 : Nat) = 1; omega), if_pos (show (bgA s w).sl = (bgA s w).i from h.ix.symm)]
      rfl
    show BgA N dr w _ (NM.take (bgA s w) x)
    rw [e]
    refine goOn_bg h.t hd h.ix h.dx rfl rfl hw h.tm ⟨rfl, rfl⟩ ?_ h.da
    show (NM.meas (bgA s w) s.i 0).length ≤ 4 ∧ ∀ y ∈ NM.meas (bgA s w) s.i 0, y = 0
    unfold NM.meas
    split
    · exact ⟨by show (keep4 [] 0).length ≤ 4; decide, fun y hy => by
        have hy : y ∈ keep4 [] 0 := hy
        rcases keep4_mem hy with e | e
        · cases e
        · exact e⟩
    · exact ⟨by show 0 ≤ 4; omega, fun y hy => (by cases hy)⟩
  · unfold NM.sent
    rw [eK, if_neg (by omega), eS, eb]
    have hi : (NM.frm (bgA s w) 3).is = true := by
      rw [F.is_iff]
      have h8 := ins_lt (m := 0) (k := w) (by omega) (by omega)
      refine ⟨by show (1 : Int) ≤ 3 ∧ (3 : Int) ≤ 3; omega, ?_, by show s.da.length ≤ 8; rw [h.da]; simp⟩
      rw [Fr.St.may_iff]
      show ((0 : Int) ≤ 0 ∧ (0 : Int) ≤ 65535) ∧ (0 ≤ (w : Int) ∧ (w : Int) < 8) ∧ 0 ≤ ((ins 0 w : Nat) : Int) ∧ ((ins 0 w : Nat) : Int) ≤ 255
      omega
    exact F.bytes_ok hi (by show Fr.okL s.da; rw [h.da]; exact fun x hx => (by cases hx))
theorem BgA.step {k : Nat} {s : NM} (h : BgA N dr w k s) (hd : 0 ≤ dr ∧ dr ≤ 200) (hk : k < N) : s.sent = [] ∧ s.sendS.tm = 0 ∧ s.sendS.ty.a = 0 ∧ s.sendS.ty.f = 0 ∧ ((k ≠ w → BgA N dr w ((k + 1) % N) (s.sendS.take ⟨0, 0, [], [], 0⟩)) ∧ (k = w → LsA N dr w 0 (s.sendS.take ⟨0, 0, [], [], 0⟩))) := by
  by_cases e : k = w
  · subst e
    have en : s.enter = s.anew 1 := by
      unfold NM.enter
      rw [if_pos h.st, if_pos (show s.alone from h.a.1)]
    have hsi : ¬ (s.st = 0 ∨ s.st = 5 ∨ s.sl ≠ s.i) := by
      rw [h.st, h.sl, h.ix]; omega
    have eK : s.sendK = 0 := by
      unfold NM.sendK
      rw [if_neg (by rw [h.st]; omega), if_neg hsi, if_pos (by rw [en]; show (1 : Nat) ≠ 4; omega)]
    have eS : s.sendS = { s.anew 1 with se := false } := by
      unfold NM.sendS
      rw [if_neg (by rw [h.st]; omega), if_neg hsi, if_pos (by rw [en]; show (1 : Nat) ≠ 4; omega), en]
    rw [eS]
    refine ⟨sent_none eK, h.tm, rfl, rfl, fun e => absurd rfl e, fun _ => ?_⟩
    have et : NM.take { s.anew 1 with se := false } ⟨0, 0, [], [], 0⟩ = { s.anew 1 with se := false } := by
      unfold NM.take
      rw [if_neg (by show ¬ ((1 : Nat) = 0 ∨ (1 : Nat) = 5); omega), if_pos (show (s.anew 1).st = 1 from rfl)]
      have : NM.firstL { s.anew 1 with se := false } ⟨0, 0, [], [], 0⟩ = none := rfl
      rw [this]
      simp only
      rw [if_neg (by simp)]
    rw [et]
    exact ⟨h.t, h.ix, h.dx, rfl, rfl, h.tm, rfl, h.da⟩
  · have hsi : s.st = 0 ∨ s.st = 5 ∨ s.sl ≠ s.i := .inr (.inr (by rw [h.sl, h.ix]; exact e))
    have eK : s.sendK = 0 := by
      unfold NM.sendK
      rw [if_neg (by rw [h.st]; omega), if_pos hsi]
    have eS : s.sendS = { s with se := false } := by
      unfold NM.sendS
      rw [if_neg (by rw [h.st]; omega), if_pos hsi]
    rw [eS]
    refine ⟨sent_none eK, h.tm, h.a.1, h.a.2, fun _ => ?_, fun x => absurd x e⟩
    have et : NM.take { s with se := false } ⟨0, 0, [], [], 0⟩ = (NM.took { s with se := false } (s.ty.miss s.sl) s.so s.ck).goOn := by
      unfold NM.take
      rw [if_neg (by show ¬ (s.st = 0 ∨ s.st = 5); rw [h.st]; omega), if_neg (by show ¬ s.st = 1; rw [h.st]; omega), if_neg (by show ¬ s.sl = s.i; rw [h.sl, h.ix]; exact e)]
      have : NM.rightL { s with se := false } ⟨0, 0, [], [], 0⟩ = none := rfl
      rw [this]
      simp only
      rw [if_pos ⟨trivial, trivial⟩]
    rw [et]
    refine goOn_bg (k := k) h.t hd h.ix h.dx h.st h.sl hk h.tm ?_ h.ck h.da
    show (s.ty.miss (s.sl : Nat)).a = 0 ∧ (s.ty.miss (s.sl : Nat)).f = 0
    unfold TS.miss
    split
    · exact h.a
    · exact h.a
/-- One alone, so many slots behind its beginning to listen. -/
def AJ (N : Nat) (dr : Int) (w L j : Nat) (u : WM) : Prop :=
  u.sl = j ∧ OneOn N dr w u ∧ ((j < L ∧ LsA N dr w j (u.ms w)) ∨ (L ≤ j ∧ j < L + N ∧ BgA N dr w ((w + 1 + (j - L)) % N) (u.ms w)) ∨ (L + N ≤ j ∧ j < 2 * L + N ∧ LsA N dr w (j - (L + N)) (u.ms w)) ∨ (2 * L + N ≤ j ∧ BgA N dr w ((w + 1) % N) (u.ms w)))
theorem AJ.step {L j : Nat} (h : AJ N dr w L j u) (hN : 4 ≤ N ∧ N ≤ 8) (hd : 0 ≤ dr ∧ dr ≤ 200) (hw : w < N) (hL : ((L : Nat) : Int) = (gsmD w).li) (hj : j < 2 * L + N) : WOk N u ∧ AJ N dr w L (j + 1) (u.slot N) := by
  obtain ⟨hsl, ho, h⟩ := h
  have hsl' : (u.slot N).sl = j + 1 := by show u.sl + 1 = _; rw [hsl]
  have nil : bytesL [] := fun x hx => (by cases hx)
  have hL20 := (gsm_li w (by omega)).2.1
  rcases h with ⟨h1, h⟩ | ⟨h1, h2, h⟩ | ⟨h1, h2, h⟩ | ⟨h1, h⟩
  · by_cases e : (j : Int) + 1 < (gsmD w).li
    · obtain ⟨a, b, c, d⟩ := h.wait hw e
      obtain ⟨o, m, hh⟩ := ho.slot hN hw c (by rw [a]; exact nil)
      refine ⟨ho.wok hN hd ⟨c, by rw [d]; show 0 < 900; omega, by rw [d]; show 0 < 900; omega⟩, hsl', o, .inl ⟨by omega, ?_⟩⟩
      rw [m, hh a]; exact b
    · obtain ⟨a, b, c, d, f⟩ := h.begin hN hd hw e (u.hear N w)
      obtain ⟨o, m, -⟩ := ho.slot hN hw b f
      refine ⟨ho.wok hN hd ⟨b, by omega, by omega⟩, hsl', o, .inr (.inl ⟨by omega, by omega, ?_⟩)⟩
      rw [m, show j + 1 - L = 0 by omega]; exact a
  · have hk : (w + 1 + (j - L)) % N < N := Nat.mod_lt _ (by omega)
    obtain ⟨a, b, c, d, f, g⟩ := h.step hd hk
    obtain ⟨o, m, hh⟩ := ho.slot hN hw b (by rw [a]; exact nil)
    refine ⟨ho.wok hN hd ⟨b, by omega, by omega⟩, hsl', o, ?_⟩
    by_cases e : j + 1 < L + N
    · refine .inr (.inl ⟨by omega, e, ?_⟩)
      rw [m, hh a]
      have hne : (w + 1 + (j - L)) % N ≠ w := fun x => by
        by_cases hlt : w + 1 + (j - L) < N
        · rw [Nat.mod_eq_of_lt hlt] at x; omega
        · rw [Nat.mod_eq_sub_mod (by omega), Nat.mod_eq_of_lt (by omega)] at x; omega
      have := f hne
      rwa [Nat.mod_add_mod, show w + 1 + (j - L) + 1 = w + 1 + (j + 1 - L) by omega] at this
    · refine .inr (.inr (.inl ⟨by omega, by omega, ?_⟩))
      rw [m, hh a, show j + 1 - (L + N) = 0 by omega]
      refine g ?_
      rw [show w + 1 + (j - L) = w + N by omega, Nat.add_mod_right, Nat.mod_eq_of_lt hw]
  · by_cases e : ((j - (L + N) : Nat) : Int) + 1 < (gsmD w).li
    · obtain ⟨a, b, c, d⟩ := h.wait hw e
      obtain ⟨o, m, hh⟩ := ho.slot hN hw c (by rw [a]; exact nil)
      refine ⟨ho.wok hN hd ⟨c, by rw [d]; show 0 < 900; omega, by rw [d]; show 0 < 900; omega⟩, hsl', o, .inr (.inr (.inl ⟨by omega, by omega, ?_⟩))⟩
      rw [m, hh a, show j + 1 - (L + N) = j - (L + N) + 1 by omega]; exact b
    · obtain ⟨a, b, c, d, f⟩ := h.begin hN hd hw e (u.hear N w)
      obtain ⟨o, m, -⟩ := ho.slot hN hw b f
      refine ⟨ho.wok hN hd ⟨b, by omega, by omega⟩, hsl', o, .inr (.inr (.inr ⟨by omega, ?_⟩))⟩
      rw [m]; exact a
  · omega
/-- Whether it has begun. -/
theorem AJ.st {L j : Nat} (h : AJ N dr w L j u) : (u.ms w).st = if (L ≤ j ∧ j < L + N) ∨ 2 * L + N ≤ j then 2 else 1 := by
  obtain ⟨-, -, h⟩ := h
  rcases h with ⟨h1, h⟩ | ⟨h1, h2, h⟩ | ⟨h1, h2, h⟩ | ⟨h1, h⟩
  · rw [h.st, if_neg (by omega)]
  · rw [h.st, if_pos (by omega)]
  · rw [h.st, if_neg (by omega)]
  · rw [h.st, if_pos (by omega)]
/-- A new ward of which one is switched on. -/
theorem AJ.start (hN : 4 ≤ N ∧ N ≤ 8) (_hw : w < N) (dl : List Int) (hdl : dl.getD w 0 = 0) (L : Nat) (hL : 0 < L) : AJ N dr w L 0 { WM.new (gsmT N dr) dl [] with ms := upd' (WM.new (gsmT N dr) dl []).ms w (((WM.new (gsmT N dr) dl []).ms w).on 0) } := by
  have e : ((WM.new (gsmT N dr) dl []).ms w).on 0 = { NM.new (gsmT N dr) w (dl.getD w 0) [] with st := 1, tm := 0 } := (new_on (gsmT N dr) w (dl.getD w 0) [] 0 (by omega)).2
  have hn : (newG (gsmT N dr)).n = N := gsm_len N dr
  refine ⟨rfl, ⟨fun i hi hne => ?_, hn, rfl, rfl, by show 0 < N; omega, rfl, ⟨by show 0 ≤ 4; omega, fun x hx => (by cases hx)⟩, by show 0 ≤ 2 * N; omega, fun x => (by cases x)⟩, .inl ⟨hL, ?_⟩⟩
  · show (((upd' _ w _ i : NM).st = 0 ∧ (upd' _ w _ i : NM).se = false) ∧ (upd' _ w _ i : NM).tm = 0 ∧ (upd' _ w _ i : NM).ty = ⟨0, 0, 0⟩)
    rw [upd'_other _ _ _ hne]
    exact ⟨⟨rfl, rfl⟩, rfl, rfl⟩
  · show LsA N dr w 0 (upd' _ w _ w)
    rw [upd'_same, e]
    exact ⟨rfl, rfl, hdl, rfl, rfl, rfl, rfl, rfl⟩
end
end Go.Proofs.YtjoioojckekfhaaGreat

namespace Go.Proofs.YtjoioojckekfhaaGreat
open Go.RowKit
open Tb (D T)

/-- A ward of some(n, dr), with drifts. -/
theorem wnew_dl (n : Nat) (dr : Int) (rv : Value) (dl : List Int) (l : List R4) (h4 : 4 ≤ n) (h8 : n ≤ 8) (hd : 0 ≤ dr ∧ dr ≤ 200) (hl : l.length ≤ 8) (hm : ∀ k, k < l.length → (l.getD k default).may) (hdl : dl.length = n) (hdd : ∀ i, i < n → -dr ≤ dl.getD i 0 ∧ dl.getD i 0 ≤ dr) (v dv : Value) (W : World) (hv : SeesT W W.heap.size v (gsmL n)) (hdv : SeesI W W.heap.size dv dl) (hr : SeesRs W W.heap.size rv l) :
    Calls Tryz.prog 13 #[.agg #[v, .int .i64 dr, .int .i64 (4 * dr + 6), .int .i64 (4 * dr + 9)], dv, rv] W fun e w' => ∃ x, e = .returned (.tuple #[.pointer (some ⟨x, 0, none⟩), .int .i64 0]) ∧ WAt W.heap.size [] n w' x (WM.new (gsmT n dr) dl l) ∧ Below W.heap.size W w' := by
  have := wnew (gsmT n dr) v dv rv dl l W hv hdv hr (some_is n dr h4 h8 hd) (by rw [hdl]; exact (gsmL_length n).symm) (fun i hi => by
    have hi : i < n := by rw [← gsmL_length n]; exact hi
    exact may_new n dr i _ l h4 h8 hd hi (hdd i hi) hl hm)
  rw [show (gsmT n dr).ns.length = n from gsmL_length n] at this
  exact this
theorem and_three64 (a : Int) : bits BinOp.and IntKind.i64 a 3 = a % 4 := by
  have h8 : (BitVec.ofInt 64 3).toNat = 2 ^ 2 - 1 := by decide
  show IntKind.i64.wrap (((BitVec.ofInt 64 a) &&& (BitVec.ofInt 64 3)).toNat : Int) = _
  rw [BitVec.toNat_and, h8, Nat.and_two_pow_sub_one_eq_mod, BitVec.toNat_ofInt, IntKind.wrap_i64]
  omega
theorem and_byte64 (a : Int) : bits BinOp.and IntKind.i64 a 255 = a % 256 := by
  rw [and_low]; omega
/-- The drifts of the first k. -/
def dfs (k : Nat) (f : Nat → Int) : List Int := (List.range k).map fun i => f i % 4 - 1
theorem dfs_length (k : Nat) (f : Nat → Int) : (dfs k f).length = k := by simp [dfs]
theorem dfs_succ (k : Nat) (f : Nat → Int) : dfs (k + 1) f = dfs k f ++ [f k % 4 - 1] := by simp [dfs, List.range_succ]
theorem dfs_bd (k : Nat) (f : Nat → Int) (i : Nat) : -2 ≤ (dfs k f).getD i 0 ∧ (dfs k f).getD i 0 ≤ 2 ∧ (i < k → -1 ≤ (dfs k f).getD i 0) := by
  by_cases h : i < k
  · have : (dfs k f).getD i 0 = f i % 4 - 1 := by simp [dfs, List.getD_eq_getElem?_getD, h]
    rw [this]; omega
  · have : (dfs k f).getD i 0 = 0 := by simp [dfs, List.getD_eq_getElem?_getD, h]
    rw [this]; omega
theorem i8_at (f : Nat → Int) (k : Nat) (hk : k < 8) : (i8 f)[k]? = some (.int .i64 (f k)) := by
  rcases (by omega : k = 0 ∨ k = 1 ∨ k = 2 ∨ k = 3 ∨ k = 4 ∨ k = 5 ∨ k = 6 ∨ k = 7) with rfl | rfl | rfl | rfl | rfl | rfl | rfl | rfl <;> rfl
set_option maxRecDepth 100000 in
set_option maxHeartbeats 4000000 in
theorem drifts_wd (N : Nat) (h8 : N ≤ 8) (f : Nat → Int) (w : World) :
    Calls Tryz.prog 15 #[.int .i64 (N : Nat), ints8 f] w fun e w' => ∃ v, e = .returned v ∧ OwnsI w' w.heap.size v (dfs N f) ∧ Below w.heap.size w w' := by
  have hb0 := (Below.refl w.heap.size w).alloc (Nat.le_refl _) (.cells #[.int .i64 (f 0), .int .i64 (f 1), .int .i64 (f 2), .int .i64 (f 3), .int .i64 (f 4), .int .i64 (f 5), .int .i64 (f 6), .int .i64 (f 7)] 22)
  have hX : Blk (w.alloc (.cells #[.int .i64 (f 0), .int .i64 (f 1), .int .i64 (f 2), .int .i64 (f 3), .int .i64 (f 4), .int .i64 (f 5), .int .i64 (f 6), .int .i64 (f 7)] 22)) w.heap.size (i8 f) 22 := Blk.new w w.heap.size rfl (i8 f) 22
  have hi8 := Lib.hid (i8_at f)
  have hsu := Lib.hid (fun k => dfs_succ k f)
  have hle := Lib.hid (fun k => dfs_length k f)
  have ha3 := Lib.hid and_three64
  unfold ints8
  go_enter Tryz.func15, Tryz.ntmps15
  go_wp2_with fail
  have hz := hX.lt
  generalize w.alloc (.cells #[.int .i64 (f 0), .int .i64 (f 1), .int .i64 (f 2), .int .i64 (f 3), .int .i64 (f 4), .int .i64 (f 5), .int .i64 (f 6), .int .i64 (f 7)] 22) = w0 at *
  go_loopw [5, 6] (fun v i wr => ∃ k : Nat, k ≤ N ∧ i = .int .i64 k ∧ OwnsI wr (w.heap.size + 1) v (dfs k f) ∧ Blk wr w.heap.size (i8 f) 22 ∧ Below w.heap.size w wr) (fun _ i _ => N - (intOf i).toNat)
  case atStart => exact ⟨0, by omega, rfl, OwnsI.nil, hX, hb0⟩
  case round =>
    clear hX hb0 hz
    obtain ⟨k, hk, rfl, ho, hX, hb⟩ := hrel
    by_cases hlt : k < N
    · have q1 : decide ((k : Int) < (N : Nat)) = true := by simp; omega
      have c0 := hX.cell k (hi8.out k (by omega))
      have k8 : decide ((k : Int) < 8) = true := by simp; omega
      have k8n : decide (k < 8) = true := by simp; omega
      have a3 := ha3.out (f k)
      have z1 : IntKind.i64.wrap (f k % 4 - 1) = f k % 4 - 1 := IntWalk.i64_in _ (by omega)
      have hl := hle.out k
      have hsuk := Lib.hid (hsu.out k)
      have ho1 := Lib.hid (ho.alloc (.cells #[.int .i64 (f k % 4 - 1)] 3))
      have hX1 := Lib.hid (hX.alloc (.cells #[.int .i64 (f k % 4 - 1)] 3))
      have hb1 := Lib.hid (hb.alloc hb.size (.cells #[.int .i64 (f k % 4 - 1)] 3))
      have hsee := Lib.hid (sees_liti wr 3 #[.int .i64 (f k % 4 - 1)] [f k % 4 - 1] rfl (wr.heap.size + 1) (Nat.lt_succ_self _) (by simp [maxLen]) wr.heap.size 1 1 rfl rfl rfl)
      have hlt1 := Lib.hid ho1.out.lt
      have hsz : w.heap.size + 1 ≤ (wr.alloc (.cells #[.int .i64 (f k % 4 - 1)] 3)).heap.size := by have := hX.lt; simp; omega
      clear ho hX hb
      go_wp2_with (at_builtin; go_loud (refine wpList_pushI _ rfl (.tmp 12) (.tmp 18) 31 rfl (w.heap.size + 1) infoInt Tryz.underlying31 _ (dfs k f) ho1.out rfl _ _ [f k % 4 - 1] rfl hsee.out hsz (by rw [hl]; simp; omega) ?_))
      intro v2 w2 ho2 hx2
      rw [← hsuk.out] at ho2
      have hX2 := Lib.hid (hX1.out.ext hx2 (fun e => by have := (hlt1.out _ e).1; omega))
      have hb2 := Lib.hid (hb1.out.trans (hx2.toBelow (B := w.heap.size) (by omega) (fun i hi => by have := (hlt1.out i hi).1; omega)))
      have ho2 := Lib.hid ho2
      clear hX1 hb1 ho1 hsee hx2 hlt1
      go_wp2
      go_roundw
      case rel => exact ⟨k + 1, by omega, by go_num, ho2.out, hX2.out, hb2.out⟩
      case measure => simp [intOf]; omega
    · obtain rfl : k = N := by omega
      have q1 : decide ((k : Int) < (k : Nat)) = false := by simp
      go_wp2
      go_ret
      exact ⟨_, rfl, ho.base (Nat.le_succ _), hb⟩
end Go.Proofs.YtjoioojckekfhaaGreat

namespace Go.Proofs.YtjoioojckekfhaaGreat
open Go.RowKit
open Tb (D T)

theorem WAt.state_ {B : Nat} {P : List Nat} {N x : Nat} {u : WM} {W : World} (h : WAt B P N W x u) (i : Nat) (hi : i < N) : Calls Tryz.prog 17 #[.pointer (some ⟨x, 0, none⟩), .int .i64 (i : Nat)] W fun e w' => e = .returned (.int .i64 ((u.ms i).st : Nat)) ∧ Below W.heap.size W w' := by
  obtain ⟨q, h⟩ := h
  exact wstate_in h i hi
theorem WAt.view_ {B : Nat} {P : List Nat} {N x : Nat} {u : WM} {W : World} (h : WAt B P N W x u) (i : Nat) (hi : i < N) : Calls Tryz.prog 18 #[.pointer (some ⟨x, 0, none⟩), .int .i64 (i : Nat)] W fun e w' => e = .returned (csV (u.ms i).rd (u.ms i).sl (u.ms i).ty.m) ∧ Below W.heap.size W w' := by
  obtain ⟨q, h⟩ := h
  exact wview_in h i hi
theorem wrap_pow8 {k : Nat} (hk : k ≤ 8) : wrap64 ((2 : Int) ^ k) = ((2 ^ k - 1 : Nat) : Int) + 1 := by
  have : ∀ (b : Fin 9), wrap64 ((2 : Int) ^ b.val) = ((2 ^ b.val - 1 : Nat) : Int) + 1 := by decide +kernel
  exact this ⟨k, by omega⟩
/-- The least that listens of the first m. -/
def lsm (m : Nat) : Int := if m = 0 then 200 else 20
theorem lsm_succ (m : Nat) (h : m < 8) : lsm (m + 1) = if (gsmD m).li < lsm m then (gsmD m).li else lsm m := by
  have e := (gsm_li m h).2
  have e0 : (gsmD 0).li = 20 := rfl
  unfold lsm
  rw [if_neg (by omega)]
  by_cases h0 : m = 0
  · subst h0; rw [if_pos rfl, e0]; rfl
  · rw [if_neg h0, if_neg (by have := e.2 h0; omega)]
end Go.Proofs.YtjoioojckekfhaaGreat

namespace Go.Proofs.YtjoioojckekfhaaGreat
open Go.ChangeShapes Go.WideShapes Go.ChangeAt Go.RowKit

set_option maxRecDepth 100000 in
set_option maxHeartbeats 8000000 in
theorem core_wardAlone (n who : Int) (w : World) :
    Calls Tryz.prog 9 #[.int .i64 n, .int .i64 who] w fun e w' => e = .returned (.bool true) ∧ Below w.heap.size w w' := by
  by_cases call : 4 ≤ n ∧ n ≤ 8 ∧ 0 ≤ who ∧ who < n
  case neg =>
    go_enter Tryz.func9, Tryz.ntmps9
    go_wp2
    all_goals first
      | (exfalso; omega)
      | (go_ret; exact ⟨rfl, Below.refl _ _⟩)
      | skip
  obtain ⟨n4, n8, w0, wn⟩ := call
  obtain ⟨N, rfl⟩ : ∃ t : Nat, n = t := ⟨n.toNat, by omega⟩
  obtain ⟨V, rfl⟩ : ∃ t : Nat, who = t := ⟨who.toNat, by omega⟩
  have q1 : decide (((N : Nat) : Int) < 4) = false := decide_eq_false (by omega)
  have q2 : decide ((8 : Int) < ((N : Nat) : Int)) = false := decide_eq_false (by omega)
  have q3 : decide (((V : Nat) : Int) < 0) = false := decide_eq_false (by omega)
  have q4 : decide (((N : Nat) : Int) ≤ ((V : Nat) : Int)) = false := decide_eq_false (by omega)
  have q4n : decide (N ≤ V) = false := decide_eq_false (by omega)
  have N4 : 4 ≤ N := by omega
  have N8 : N ≤ 8 := by omega
  have VN : V < N := by omega
  have hs := Lib.hid (show Calls Tryz.prog 14 #[.int .i64 (N : Nat), .int .i64 1] w fun e w' => ∃ v, e = .returned (.agg #[v, .int .i64 1, .int .i64 10, .int .i64 13]) ∧ OwnsD w' w.heap.size v (gsmL N) ∧ Below w.heap.size w w' from some_wd N 1 (by omega) (by omega) w)
  have hmk : ∀ W : World, (Instr.makeSlice 31 (.int .i64 (N : Nat)) (.int .i64 (N : Nat))).run Tryz.prog W = .ok (.slice (some ⟨W.heap.size, 0, none⟩) N N) (W.alloc (.cells (ics N) 3)) := fun W => run_makeI N (by omega) W
  have hN := fun v dv W (hv : SeesT W W.heap.size v (gsmL N)) (hdv : SeesI W W.heap.size dv (List.replicate N 0)) => Lib.hid (wnew_some N 1 (.slice none 0 0) [] (by omega) (by omega) (by omega) (by simp) (fun k hk => by simp at hk) v dv W hv hdv SeesRs.nil)
  have hI := fun W => Lib.hid (sees_ics N (by omega) W)
  have hKn := fun W => Lib.hid (known_wd W)
  go_enter Tryz.func9, Tryz.ntmps9
  go_wp2_with fail
  refine hs.out.mono ?_
  rintro e w1 ⟨v, rfl, ho, c1⟩
  obtain ⟨gb, cb, rfl⟩ : ∃ gb cb, v = .slice (some ⟨gb, 0, none⟩) N cb := by
    rcases ho.form with ⟨-, h0⟩ | ⟨gb, cb, h1, -⟩
    · rw [gsmL_length] at h0; omega
    · exact ⟨gb, cb, by rw [h1, gsmL_length]⟩
  have hgb := (ho.lt gb rfl).2
  have hat := ho.atD (gsmL_length N).symm V (by rw [gsmL_length]; exact VN)
  rw [gsmL_get N V VN] at hat
  have hv1 := (ho.sees.below ((Below.refl _ w1).alloc (Nat.le_refl _) (.cells #[.slice (some ⟨gb, 0, none⟩) N cb, .int .i64 1, .int .i64 10, .int .i64 13] 29))).more (by simp : _ ≤ (w1.alloc (.cells #[.slice (some ⟨gb, 0, none⟩) N cb, .int .i64 1, .int .i64 10, .int .i64 13] 29)).heap.size)
  have hT := Blk.new w1 w1.heap.size rfl #[.slice (some ⟨gb, 0, none⟩) N cb, .int .i64 1, .int .i64 10, .int .i64 13] 29
  have hz2 : (w1.alloc (.cells #[.slice (some ⟨gb, 0, none⟩) N cb, .int .i64 1, .int .i64 10, .int .i64 13] 29)).heap.size = w1.heap.size + 1 := by simp
  have hat2 : AtD (w1.alloc (.cells #[.slice (some ⟨gb, 0, none⟩) N cb, .int .i64 1, .int .i64 10, .int .i64 13] 29)) gb (V * 4) (gsmD V) := hat.keep fun o => World.cell?_alloc_lt _ _ _ hgb
  have hB1 := Lib.hid (c1.alloc c1.size (.cells #[.slice (some ⟨gb, 0, none⟩) N cb, .int .i64 1, .int .i64 10, .int .i64 13] 29))
  clear ho hat hs
  go_wp2_with fail
  generalize w1.alloc (.cells #[.slice (some ⟨gb, 0, none⟩) N cb, .int .i64 1, .int .i64 10, .int .i64 13] 29) = w2 at *
  have hHS : ∀ W, Blk W w1.heap.size #[.slice (some ⟨gb, 0, none⟩) N cb, .int .i64 1, .int .i64 10, .int .i64 13] 29 → W.cell? ⟨w1.heap.size, 0, none⟩ = some (.slice (some ⟨gb, 0, none⟩) N cb) ∧ W.cell? ⟨w1.heap.size, 1, none⟩ = some (.int .i64 1) ∧ W.cell? ⟨w1.heap.size, 2, none⟩ = some (.int .i64 10) ∧ W.cell? ⟨w1.heap.size, 3, none⟩ = some (.int .i64 13) := fun W h => ⟨h.cell 0 rfl, h.cell 1 rfl, h.cell 2 rfl, h.cell 3 rfl⟩
  have hHS := Lib.hid hHS
  have hi1 := ((hI w2).out.below (Below.refl _ _).drew).more (by simp : _ ≤ (w2.alloc (.cells (ics N) 3)).drew.heap.size)
  rw [hz2] at hi1
  have hi1 := Lib.hid hi1
  have hv2 := Lib.hid ((hv1.below ((Below.refl _ w2).alloc (Nat.le_refl _) (.cells (ics N) 3)).drew).more (by simp : _ ≤ (w2.alloc (.cells (ics N) 3)).drew.heap.size))
  have b2 := Lib.hid (((Below.refl w2.heap.size w2).alloc (Nat.le_refl _) (.cells (ics N) 3)).drew)
  have S0 := hHS.out _ hT.drew
  have S1 := hHS.out _ (hT.alloc (.cells (ics N) 3)).drew
  have hT := Lib.hid hT
  have hT2 := Lib.hid (hT.out.alloc (.cells (ics N) 3)).drew
  go_region_held3 (fun W => W.cell? ⟨w1.heap.size, 0, none⟩ = some (.slice (some ⟨gb, 0, none⟩) N cb) ∧ W.cell? ⟨w1.heap.size, 1, none⟩ = some (.int .i64 1) ∧ W.cell? ⟨w1.heap.size, 2, none⟩ = some (.int .i64 10) ∧ W.cell? ⟨w1.heap.size, 3, none⟩ = some (.int .i64 13))
    (first | exact S0 | exact S1 | exact S2)
    (first
      | (go_at_call 13; refine (hN _ _ _ hv2.out hi1.out).out.mono ?_; rintro e w3 ⟨x, rfl, hw, c3⟩; have b3 := Lib.hid (b2.out.trans (c3.mono b2.out.size)); have hw3 := Lib.hid (hw.lower b2.out.size); have S2 := hHS.out _ (hT2.out.below c3 hT2.out.lt))
      | fail)
  all_goals
    have hL2 := (gsm_li V (by omega)).2.1
    have hL3 := (gsm_li V (by omega)).1
    obtain ⟨L, hL⟩ : ∃ L : Nat, ((L : Nat) : Int) = (gsmD V).li := ⟨(gsmD V).li.toNat, by omega⟩
    have hL50 : L ≤ 50 := by omega
    have hTz := Lib.hid (fun W (h : Below w2.heap.size w2 W) => And.intro ((hT.out.below h (by omega)).cell 0 (x := .slice (some ⟨gb, 0, none⟩) N cb) rfl) ((h.cell (p := ⟨gb, V * 4 + 2, none⟩) (by show gb < w2.heap.size; omega)).trans (hL ▸ hat2.c2 : w2.cell? ⟨gb, V * 4 + 2, none⟩ = some (.int .i64 (L : Nat)))))
    have hJ := Lib.hid (AJ.start (dr := 1) ⟨N4, N8⟩ VN (List.replicate N 0) (by simp [List.getD_eq_getElem?_getD, VN]) L (by omega))
    obtain ⟨e1, -⟩ := new_on (gsmT N 1) V ((List.replicate N 0).getD V 0) [] 0 (by omega)
    have hst := wstep_on hw3.out V VN 0
    have e1 : ((WM.new (gsmT N 1) (List.replicate N 0) []).ms V).onE 0 = 0 := e1
    rw [e1] at hst
    have hst := Lib.hid hst
    have hstep := Lib.hid (fun j u (h : AJ N 1 V L j u) (hj : j < 2 * L + N) => h.step ⟨N4, N8⟩ (by omega) VN hL hj)
    have z1 : IntKind.i64.wrap (2 * (L : Int)) = 2 * L := IntWalk.i64_in _ (by omega)
    have z2 : IntKind.i64.wrap (2 * (L : Int) + N) = 2 * L + N := IntWalk.i64_in _ (by omega)
    have z3 : IntKind.i64.wrap ((L : Int) + N) = L + N := IntWalk.i64_in _ (by omega)
    have b3 := Lib.hid b3.out
    clear S0 S1 S2 hv2 hi1 hI hN hmk hw hw3 b2 hT2 hT hHS hv1 e1 hL2 hat2 c3
    generalize (gsmD V).li = li at *
    subst hL
    clear hL3
    go_wp2_with fail
    refine hst.out.mono ?_
    rintro e w4 ⟨rfl, hW4, c4⟩
    have hB4 := Lib.hid (b3.out.trans c4.b)
    have hW4 := Lib.hid hW4
    clear hst c4 b3
    go_wp2_with fail
    go_loopw [8] (fun i wr => ∃ j : Nat, j ≤ 2 * L + N ∧ i = .int .i64 ((j : Int) + 1) ∧ ∃ u, AJ N 1 V L j u ∧ WAt w2.heap.size [] N wr x u ∧ Below w2.heap.size w2 wr) (fun i _ => 2 * L + N + 1 - (intOf i).toNat)
    case atStart => exact ⟨0, by omega, rfl, _, hJ.out, hW4.out, hB4.out⟩
    case round =>
      clear hJ hW4 hB4
      obtain ⟨j, hj, rfl, u, hJ, hW, hB⟩ := hrel
      have t0 := (hTz.out _ hB).1
      have a2 := (hTz.out _ hB).2
      have vN : decide (((V : Nat) : Int) < (N : Nat)) = true := decide_eq_true (by omega)
      by_cases hlt : j < 2 * L + N
      · have r1 : decide ((j : Int) + 1 ≤ 2 * (L : Int) + N) = true := decide_eq_true (by omega)
        have r1n : decide (j + 1 ≤ 2 * L + N) = true := decide_eq_true (by omega)
        obtain ⟨ok, hJ2⟩ := hstep.out j u hJ hlt
        have hst := wstep_slot hW ok (by rw [hJ.1]; omega)
        clear ok hJ hW
        generalize u.slot N = u2 at *
        have hst := Lib.hid hst
        have hJ2 := Lib.hid hJ2
        have hB := Lib.hid hB
        have z4 : IntKind.i64.wrap ((j : Int) + 1 + 1) = (j : Int) + 1 + 1 := IntWalk.i64_in _ (by omega)
        clear hKn hstep
        by_cases k1 : L ≤ j + 1
        · by_cases k2 : j + 1 < L + N
          · skip
            have g1 : decide ((L : Int) ≤ (j : Int) + 1) = true := decide_eq_true (by omega)
            have g1n : decide (L ≤ j + 1) = true := decide_eq_true (by omega)
            have g2 : decide ((j : Int) + 1 < (L : Int) + N) = true := decide_eq_true (by omega)
            have g2n : decide (j + 1 < L + N) = true := decide_eq_true (by omega)
            have es : (u2.ms V).st = 2 := by rw [hJ2.out.st, if_pos (by omega)]
            have hst2 := Lib.hid (fun W (h : WAt w2.heap.size [] N W x u2) => show Calls Tryz.prog 17 #[.pointer (some ⟨x, 0, none⟩), .int .i64 (V : Nat)] W fun e w' => e = .returned (.int .i64 2) ∧ Below W.heap.size W w' by
              have := h.state_ V VN
              rw [es] at this
              exact this)
            go_wp2_with fail
            refine hst.out.mono ?_
            rintro e w6 ⟨rfl, hW6, c6⟩
            have hs6 := Lib.hid (hst2.out _ hW6)
            have hB6 := hB.out.trans c6.b
            have t0 := (hTz.out _ hB6).1
            have a2 := (hTz.out _ hB6).2
            have hW6 := Lib.hid hW6
            have hB6 := Lib.hid hB6
            clear hst hB c6 hst2 es
            go_wp2_with fail
            refine hs6.out.mono ?_
            rintro e w7 ⟨rfl, c7⟩
            have hW7 := Lib.hid (hW6.out.below c7)
            have hB7 := Lib.hid (hB6.out.trans (c7.mono hB6.out.size))
            clear hs6 hW6 hB6 c7 t0 a2 g1 g1n
            go_wp2_with fail
            go_roundw
            case rel => exact ⟨j + 1, by omega, by go_num, u2, hJ2.out, hW7.out, hB7.out⟩
            case measure => simp [intOf]; omega
          · by_cases k3 : 2 * L + N ≤ j + 1
            · skip
              have g1 : decide ((L : Int) ≤ (j : Int) + 1) = true := decide_eq_true (by omega)
              have g1n : decide (L ≤ j + 1) = true := decide_eq_true (by omega)
              have g2 : decide ((j : Int) + 1 < (L : Int) + N) = false := decide_eq_false (by omega)
              have g2n : decide (j + 1 < L + N) = false := decide_eq_false (by omega)
              have g3 : decide (2 * (L : Int) + N ≤ (j : Int) + 1) = true := decide_eq_true (by omega)
              have g3n : decide (2 * L + N ≤ j + 1) = true := decide_eq_true (by omega)
              have es : (u2.ms V).st = 2 := by rw [hJ2.out.st, if_pos (by omega)]
              have hst2 := Lib.hid (fun W (h : WAt w2.heap.size [] N W x u2) => show Calls Tryz.prog 17 #[.pointer (some ⟨x, 0, none⟩), .int .i64 (V : Nat)] W fun e w' => e = .returned (.int .i64 2) ∧ Below W.heap.size W w' by
                have := h.state_ V VN
                rw [es] at this
                exact this)
              go_wp2_with fail
              refine hst.out.mono ?_
              rintro e w6 ⟨rfl, hW6, c6⟩
              have hs6 := Lib.hid (hst2.out _ hW6)
              have hB6 := hB.out.trans c6.b
              have t0 := (hTz.out _ hB6).1
              have a2 := (hTz.out _ hB6).2
              have hW6 := Lib.hid hW6
              have hB6 := Lib.hid hB6
              clear hst hB c6 hst2 es
              go_wp2_with fail
              refine hs6.out.mono ?_
              rintro e w7 ⟨rfl, c7⟩
              have hW7 := Lib.hid (hW6.out.below c7)
              have hB7 := Lib.hid (hB6.out.trans (c7.mono hB6.out.size))
              clear hs6 hW6 hB6 c7 t0 a2 g1 g1n
              go_wp2_with fail
              go_roundw
              case rel => exact ⟨j + 1, by omega, by go_num, u2, hJ2.out, hW7.out, hB7.out⟩
              case measure => simp [intOf]; omega
            · skip
              have g1 : decide ((L : Int) ≤ (j : Int) + 1) = true := decide_eq_true (by omega)
              have g1n : decide (L ≤ j + 1) = true := decide_eq_true (by omega)
              have g2 : decide ((j : Int) + 1 < (L : Int) + N) = false := decide_eq_false (by omega)
              have g2n : decide (j + 1 < L + N) = false := decide_eq_false (by omega)
              have g3 : decide (2 * (L : Int) + N ≤ (j : Int) + 1) = false := decide_eq_false (by omega)
              have g3n : decide (2 * L + N ≤ j + 1) = false := decide_eq_false (by omega)
              have es : (u2.ms V).st = 1 := by rw [hJ2.out.st, if_neg (by omega)]
              have hst2 := Lib.hid (fun W (h : WAt w2.heap.size [] N W x u2) => show Calls Tryz.prog 17 #[.pointer (some ⟨x, 0, none⟩), .int .i64 (V : Nat)] W fun e w' => e = .returned (.int .i64 1) ∧ Below W.heap.size W w' by
                have := h.state_ V VN
                rw [es] at this
                exact this)
              go_wp2_with fail
              refine hst.out.mono ?_
              rintro e w6 ⟨rfl, hW6, c6⟩
              have hs6 := Lib.hid (hst2.out _ hW6)
              have hB6 := hB.out.trans c6.b
              have t0 := (hTz.out _ hB6).1
              have a2 := (hTz.out _ hB6).2
              have hW6 := Lib.hid hW6
              have hB6 := Lib.hid hB6
              clear hst hB c6 hst2 es
              go_wp2_with fail
              refine hs6.out.mono ?_
              rintro e w7 ⟨rfl, c7⟩
              have hW7 := Lib.hid (hW6.out.below c7)
              have hB7 := Lib.hid (hB6.out.trans (c7.mono hB6.out.size))
              clear hs6 hW6 hB6 c7 t0 a2 g1 g1n
              go_wp2_with fail
              go_roundw
              case rel => exact ⟨j + 1, by omega, by go_num, u2, hJ2.out, hW7.out, hB7.out⟩
              case measure => simp [intOf]; omega
        · skip
          have g1 : decide ((L : Int) ≤ (j : Int) + 1) = false := decide_eq_false (by omega)
          have g1n : decide (L ≤ j + 1) = false := decide_eq_false (by omega)
          have g3 : decide (2 * (L : Int) + N ≤ (j : Int) + 1) = false := decide_eq_false (by omega)
          have g3n : decide (2 * L + N ≤ j + 1) = false := decide_eq_false (by omega)
          have es : (u2.ms V).st = 1 := by rw [hJ2.out.st, if_neg (by omega)]
          have hst2 := Lib.hid (fun W (h : WAt w2.heap.size [] N W x u2) => show Calls Tryz.prog 17 #[.pointer (some ⟨x, 0, none⟩), .int .i64 (V : Nat)] W fun e w' => e = .returned (.int .i64 1) ∧ Below W.heap.size W w' by
            have := h.state_ V VN
            rw [es] at this
            exact this)
          go_wp2_with fail
          refine hst.out.mono ?_
          rintro e w6 ⟨rfl, hW6, c6⟩
          have hs6 := Lib.hid (hst2.out _ hW6)
          have hB6 := hB.out.trans c6.b
          have t0 := (hTz.out _ hB6).1
          have a2 := (hTz.out _ hB6).2
          have hW6 := Lib.hid hW6
          have hB6 := Lib.hid hB6
          clear hst hB c6 hst2 es
          go_wp2_with fail
          refine hs6.out.mono ?_
          rintro e w7 ⟨rfl, c7⟩
          have hW7 := Lib.hid (hW6.out.below c7)
          have hB7 := Lib.hid (hB6.out.trans (c7.mono hB6.out.size))
          clear hs6 hW6 hB6 c7 t0 a2 g1 g1n
          go_wp2_with fail
          go_roundw
          case rel => exact ⟨j + 1, by omega, by go_num, u2, hJ2.out, hW7.out, hB7.out⟩
          case measure => simp [intOf]; omega
      · obtain rfl : j = 2 * L + N := by omega
        have ec : ((2 * L + N : Nat) : Int) = 2 * (L : Int) + (N : Int) := by omega
        rw [ec]
        have r1 : decide (2 * (L : Int) + N + 1 ≤ 2 * (L : Int) + N) = false := decide_eq_false (by omega)
        have r1n : decide (2 * L + N + 1 ≤ 2 * L + N) = false := decide_eq_false (by omega)
        have hB := Lib.hid hB
        clear hJ hW hstep ec
        go_wp2_with fail
        refine (hKn _).out.mono ?_
        rintro e w8 ⟨rfl, c8⟩
        have hB8 := Lib.hid (hB.out.trans (c8.mono hB.out.size))
        clear hB c8 hKn
        go_wp2_with fail
        go_ret
        exact ⟨rfl, hB1.out.trans (hB8.out.mono hB1.out.size)⟩
theorem walk_wardAlone (n who : Int) (w : World) (_h_n : -9223372036854775808 ≤ n ∧ n ≤ 9223372036854775807) (_h_w : -9223372036854775808 ≤ who ∧ who ≤ 9223372036854775807) :
    Calls Tryz.prog 9 #[.int .i64 n, .int .i64 who] w fun e w' => e = .returned (.bool true) ∧ Below w.heap.size w w' := core_wardAlone n who w

/-! ### THE ROW's STEP around the walk. -/
theorem own_wardAlone : ownKnob Tryz.prog.godebug = none := by kernel_rfl
theorem laidOut_wardAlone : laidOutB Tryz.prog = true := by kernel_rfl
set_option maxRecDepth 100000 in
theorem lifted_wardAlone (os : Os) (started : os.Started) (H : Type) (enc : TypeId × Value → H) :
    ReturnsInHanded {} Tryz.checked os 9 .any (Rows.wardAloneSpec.pre6 enc Tryz.prog Tryz.f9 Rows.wardAloneRow.domain false) (Rows.wardAloneSpec.post enc Tryz.prog Tryz.f9 false true false false) := by
  refine returnsInHanded_of_change (C := Tryz.checked) own_wardAlone started (by kernel_rfl) Tryz.func9
    (ChangeSpec.witness6 (enc := enc) (C := Tryz.checked) false ⟨#[], #[.int .i64 0, .int .i64 0], []⟩ 8 (by kernel_rfl) (by kernel_rfl) (by kernel_rfl) (by kernel_rfl)) ?_
  intro W base args ds gs before hval0 hW hcnd _
  have hval : ∀ (j : Nat) t v, Tryz.f9.params[j]? = some t → args[j]? = some v → Value.okWide Tryz.prog W .any base t v := hval0
  have hW' := hW
  obtain ⟨p, q, hA0, hV, rfl, hfz, hnd⟩ := hW
  have hA : DataW.TrodAll enc Tryz.prog W 0 (fun _ => true) true Tryz.f9.params.toList args.toList ds p := hA0
  rw [Tryz.params9] at hA hval
  obtain ⟨v0, vs0, d0, ds0, p0, q0, hargs, rfl, rfl, h0, r0⟩ := trodAll_cons hA
  obtain ⟨v1, vs1, d1, ds1, p1, q1, rfl, rfl, rfl, h1, r1⟩ := trodAll_cons r0
  obtain ⟨rfl, rfl, rfl⟩ := trodAll_nil r1
  obtain rfl : args = #[v0, v1] := by cases args; simp_all
  obtain ⟨rfl, rfl⟩ := trodVars_none hV
  obtain ⟨a0, rfl, rfl, rfl, w0⟩ := open_int Tryz.underlying3 (hval 0 3 v0 rfl rfl) h0
  obtain ⟨a1, rfl, rfl, rfl, w1⟩ := open_int Tryz.underlying3 (hval 1 3 v1 rfl rfl) h1
  clear hA0 hval0
  refine (walk_wardAlone a0 a1 W (bounds_i64 w0) (bounds_i64 w1)).mono fun e W' ⟨he, bel⟩ => ?_
  subst he
  exact ⟨_, rfl, _, _, _, [], _, [], hW', trodAll_mk1 (shut_bool Tryz.underlying4 _), (trodAll_cons_mk (shut_int Tryz.underlying3 w0) (trodAll_cons_mk (shut_int Tryz.underlying3 w1) trodAll_mk0)), rfl, bel.frame _, fun h => by cases h⟩

theorem over_wardAlone : Rows.wardAloneRow.holds Tryz.pinned (OpenSpec.ofChange Rows.wardAloneSpec) :=
  OpenClaim.holds_of_wide 9 Tryz.f9 rfl rfl rfl rfl rfl rfl rfl ⟨rfl, rfl, rfl, rfl, rfl⟩ rfl rfl rfl rfl rfl (by kernel_rfl) Tryz.func9 (by kernel_rfl)
    (of_decide_eq_true (by kernel_rfl)) (by unfold Func.isWrapper; first | (rw [if_pos (by decide +kernel)]; kernel_rfl) | (rw [if_neg (by decide +kernel)]; exact ⟨rfl, rfl⟩))
    (fun os started H enc _ => lifted_wardAlone os started H enc)

theorem proved_wardAlone : Rows.WardAloneSaid := over_wardAlone
end Go.Proofs.YtjoioojckekfhaaGreat
