/- AuditAlone holds: nobody who is Active: all agree, no clock is apart. For all arguments. -/
import Derived.Lib.SmallJoins
import Derived.Test.YtjoioojckekfhaaGreatVB52
namespace Go.Proofs.YtjoioojckekfhaaGreat
open Fr (St F)
open Clk (avg)

/-- What is written is read by the state that it was written by. -/
theorem wm_read {f : F} (h : f.is = true) : Fr.err f.bytes f.st = 0 ∧ Fr.res f.bytes f.st = f := by
  obtain ⟨a, b, c⟩ := Fr.back h f.st ((F.is_iff f).1 h).2.1
  have hs : Fr.sumB f.bytes f.st = true := c.2 fun _ => rfl
  unfold Fr.err Fr.res
  rw [a, hs, b]
  refine ⟨rfl, ?_⟩
  obtain ⟨k, st, d⟩ := f
  simp
/-- What tells its state is read by any. -/
theorem wm_told {f : F} (h : f.is = true) (hk : f.k ≠ 1) (own : St) (ho : own.may = true) : Fr.err f.bytes own = 0 ∧ Fr.res f.bytes own = f := by
  obtain ⟨a, b, c⟩ := Fr.back h own ho
  have hs : Fr.sumB f.bytes own = true := c.2 fun e => absurd e hk
  unfold Fr.err Fr.res
  rw [a, hs, b, if_neg hk]
  exact ⟨rfl, rfl⟩
/-- A ward's nodes that go together. -/
structure SP where
  on : Nat → Bool
  r : Int
  k : Nat
  m : Nat
  st : Nat → Nat
  a : Nat → Nat
  tm : Nat → Int
  ck : Nat → List Int
  so : Nat → MS
  da : Nat → List Int
  now : Int
  gl : List Int
  si : Nat
/-- Does its clock count? -/
def wsy (k : Nat) : Bool := (gsmD k).sy
namespace SP
/-- The slot's node was heard, or not. -/
def mid (p : SP) : SP :=
  if p.on p.k = true then
    { p with m := ins p.m p.k, st := fun i => if i = p.k then 4 else p.st i, a := fun i => if i = p.k then 0 else p.a i + 1,
             ck := fun i => if wsy p.k = true then keep4 (p.ck i) (p.tm p.k - p.tm i) else p.ck i,
             so := fun i => if i = p.k then p.so i else ((p.so i).put p.k (p.da p.k)).member p.k (isB (ins p.m p.k) p.k),
             gl := if wsy p.k = true then keep4 p.gl (p.tm p.k - p.now) else p.gl, si := 0 }
  else { p with m := del p.m p.k, so := fun i => (p.so i).member p.k (isB (del p.m p.k) p.k), si := p.si + 1 }
/-- The slot goes on. -/
def fwd (N : Nat) (dr : Int) (d : Nat → Int) (p : SP) : SP :=
  if p.k + 1 < N then { p with k := p.k + 1 }
  else { p with k := 0, r := if p.r < 65535 then p.r + 1 else 0, tm := fun i => p.tm i + termV (4 * dr + 9) (p.ck i) + d i, ck := fun _ => [], so := fun i => (p.so i).age, now := p.now + termV (4 * dr + 9) p.gl, gl := [] }
def next (N : Nat) (dr : Int) (d : Nat → Int) (p : SP) : SP := p.mid.fwd N dr d
/-- What may be asked of it for a slot. -/
structure Ok (N : Nat) (dr : Int) (p : SP) : Prop where
  n : 4 ≤ N ∧ N ≤ 8
  drb : 0 ≤ dr ∧ dr ≤ 200
  r : 0 ≤ p.r ∧ p.r ≤ 65535
  k : p.k < N
  m : p.m < 256
  st : ∀ i, p.st i = 2 ∨ p.st i = 3 ∨ p.st i = 4
  a : ∀ i, i < N → p.a i < 900
  ak : p.on p.k = true → 0 < p.a p.k
  tm : ∀ i, i < N → -100000 ≤ p.tm i ∧ p.tm i ≤ 100000
  now : -100000 ≤ p.now ∧ p.now ≤ 100000
  near : p.on p.k = true → -(4 * dr + 6) ≤ p.tm p.k - p.now ∧ p.tm p.k - p.now ≤ 4 * dr + 6
  gl : small p.gl
  si : p.si + 1 ≠ 2 * N ∧ p.si ≤ 1000
  da : ∀ i, (p.da i).length ≤ 8 ∧ bytesL (p.da i)
  lim : p.k + 1 = N → ∀ i, i < N → p.on i = true → wiB (4 * dr + 9) (avg (p.mid.ck i)) = true
end SP
/-- A node that goes along. -/
structure NdS (N : Nat) (dr : Int) (d : Nat → Int) (p : SP) (i : Nat) (s : NM) : Prop where
  t : s.t = gsmT N dr
  ix : s.i = i
  dx : s.dr = d i
  st : s.st = p.st i
  rd : s.rd = p.r
  sl : s.sl = p.k
  ty : s.ty = ⟨p.m, p.a i, 0⟩
  tm : s.tm = p.tm i
  ck : s.ck = p.ck i
  so : s.so = p.so i
  da : s.da = p.da i
/-- The guardians. -/
structure GdS (N : Nat) (dr : Int) (p : SP) (s : G) : Prop where
  kn : s.kn = true
  slot : s.slot = p.k
  n : s.n = N
  wi : s.wi = 4 * dr + 6
  lm : s.lm = 4 * dr + 9
  now : s.now = p.now
  l : s.l = p.gl
  si : s.si = p.si
  sy : ∀ j, j < N → s.sy j = wsy j
structure Sy (N : Nat) (dr : Int) (d : Nat → Int) (p : SP) (u : WM) : Prop where
  nd : ∀ i, i < N → p.on i = true → NdS N dr d p i (u.ms i)
  off : ∀ i, i < N → p.on i = false → ((u.ms i).st = 0 ∧ (u.ms i).se = false) ∧ (-100000 ≤ (u.ms i).tm ∧ (u.ms i).tm ≤ 100000) ∧ (u.ms i).ty.a < 900 ∧ (u.ms i).ty.f < 900
  gd : GdS N dr p u.s
section
variable {N : Nat} {dr : Int} {d : Nat → Int} {p : SP} {u : WM}
theorem gsm_len (N : Nat) (dr : Int) : (gsmT N dr).ns.length = N := gsmL_length N
theorem gsm_at (N : Nat) (dr : Int) (k : Nat) (hk : k < N) : (gsmT N dr).ns.getD k default = gsmD k := gsmL_get N k hk
/-- The frame of the slot's node. -/
def wfr (p : SP) : F := ⟨if (gsmD p.k).inf = true ∨ p.st p.k ≠ 4 ∨ p.r % 2 = 0 then 2 else 1, ⟨p.r, p.k, (ins p.m p.k : Nat)⟩, p.da p.k⟩
theorem wfr_is (ok : p.Ok N dr) : (wfr p).is = true := by
  rw [F.is_iff]
  refine ⟨?_, ?_, (ok.da p.k).1⟩
  · show 1 ≤ (if _ then (2 : Int) else 1) ∧ (if _ then (2 : Int) else 1) ≤ 3
    split <;> omega
  · rw [Fr.St.may_iff]
    have h1 := ok.r
    have h2 := ok.k
    have h3 := ok.n
    have h4 := ins_lt ok.m (show p.k < 8 by omega)
    show (0 ≤ p.r ∧ p.r ≤ 65535) ∧ (0 ≤ (p.k : Int) ∧ (p.k : Int) < 8) ∧ 0 ≤ ((ins p.m p.k : Nat) : Int) ∧ ((ins p.m p.k : Nat) : Int) ≤ 255
    omega
/-- A node whose slot it is not sends nothing. -/
theorem NdS.quiet {i : Nat} {s : NM} (h : NdS N dr d p i s) (ok : p.Ok N dr) (hi : i ≠ p.k) : s.sendK = 0 ∧ s.sendS = { s with se := false } := by
  have hst := ok.st i
  rw [← h.st] at hst
  have hne : s.sl ≠ s.i := by rw [h.sl, h.ix]; exact fun e => hi e.symm
  unfold NM.sendK NM.sendS
  rw [if_neg (by omega), if_pos (.inr (.inr hne)), if_neg (by omega), if_pos (.inr (.inr hne))]
  exact ⟨rfl, rfl⟩
theorem off_quiet {s : NM} (h : s.st = 0 ∧ s.se = false) : s.sendK = 0 ∧ s.sendS = s := by
  obtain ⟨h1, h2⟩ := h
  unfold NM.sendK NM.sendS
  rw [if_neg (by omega), if_pos (.inl h1), if_neg (by omega), if_pos (.inl h1)]
  exact ⟨rfl, by rw [← h2]⟩
theorem sent_none {s : NM} (h : s.sendK = 0) : s.sent = [] := by unfold NM.sent; rw [if_pos h]
/-- The slot's node sends its frame. -/
theorem NdS.sends {s : NM} (h : NdS N dr d p p.k s) (ok : p.Ok N dr) (hon : p.on p.k = true) :
    s.sent = (wfr p).bytes ∧ s.sendS = { s with st := 4, ty := ⟨ins p.m p.k, 0, 0⟩, se := true } := by
  have hst := ok.st p.k
  rw [← h.st] at hst
  have hsl : s.sl = s.i := by rw [h.sl, h.ix]
  have hk8 : p.k < 8 := by have := ok.n; have := ok.k; omega
  have ha : s.ty.a ≠ 0 := by rw [h.ty]; have := ok.ak hon; show p.a p.k ≠ 0; omega
  have hf : s.ty.f = 0 := by rw [h.ty]
  have hal : ¬ s.alone := fun e => ha e
  have hcl : s.clique := by show s.ty.f ≤ s.ty.a; omega
  have en : s.enter = { s with st := 4 } := by
    unfold NM.enter
    by_cases h2 : s.st = 2
    · rw [if_pos h2, if_neg hal]
    · rw [if_neg h2]
      by_cases h3 : s.st = 3
      · rw [if_pos h3, if_pos ⟨hal, hcl⟩]
      · rw [if_neg h3, if_neg (fun e => e hcl), if_neg hal]
        have : s.st = 4 := by omega
        rw [← this]
  have ej : s.enter.joined = { s with st := 4, ty := ⟨ins p.m p.k, 0, 0⟩ } := by
    rw [en]
    unfold NM.joined
    have hi : ((s.i : Nat) : Int) = (p.k : Nat) := by rw [h.ix]
    show ({ s with st := 4, ty := (s.ty.join (s.i : Nat)).clear } : NM) = _
    unfold TS.join TS.clear
    rw [if_pos (by rw [hi]; omega), hi, Int.toNat_natCast, h.ty]
  have eK : s.sendK = (wfr p).k := by
    unfold NM.sendK
    rw [if_neg (by omega), if_neg (by rw [hsl]; omega), if_neg (by rw [en]; simp)]
    show (if s.me.inf = true ∨ s.st ≠ 4 ∨ s.rd % 2 = 0 then (2 : Int) else 1) = (if (gsmD p.k).inf = true ∨ p.st p.k ≠ 4 ∨ p.r % 2 = 0 then (2 : Int) else 1)
    have e : s.me = gsmD p.k := by
      unfold NM.me
      rw [h.t, h.ix]
      exact gsm_at N dr p.k ok.k
    rw [e, h.st, h.rd]
  have eS : s.sendS = { s with st := 4, ty := ⟨ins p.m p.k, 0, 0⟩, se := true } := by
    unfold NM.sendS
    rw [if_neg (by omega), if_neg (by rw [hsl]; omega), if_neg (by rw [en]; simp), ej]
  refine ⟨?_, eS⟩
  unfold NM.sent
  rw [if_neg (by rw [eK]; unfold wfr; simp only; split <;> omega), eK, eS]
  have : NM.frm { s with st := 4, ty := ⟨ins p.m p.k, 0, 0⟩, se := true } (wfr p).k = wfr p := by
    unfold NM.frm NM.view wfr
    simp only [h.rd, h.sl, h.da]
  rw [this]
end
end Go.Proofs.YtjoioojckekfhaaGreat

namespace Go.Proofs.YtjoioojckekfhaaGreat
open Fr (St F)
open Clk (avg)

section
variable {N : Nat} {dr : Int} {d : Nat → Int} {p : SP} {u : WM}
theorem nx_more {k : Nat} (h : k + 1 < N) (r : Int) : nxS N (k : Nat) = ((k + 1 : Nat) : Int) ∧ nxR N r (k : Nat) = r := by
  unfold nxS nxR
  rw [if_pos (by omega), if_pos (by omega)]
  exact ⟨by omega, rfl⟩
theorem nx_last {k : Nat} (h : k + 1 = N) (r : Int) : nxS N (k : Nat) = 0 ∧ nxR N r (k : Nat) = if r < 65535 then r + 1 else 0 := by
  unfold nxS nxR
  rw [if_neg (by omega), if_neg (by omega)]
  exact ⟨rfl, rfl⟩
theorem NdS.goOn {i : Nat} {s : NM} (h : NdS N dr d p i s) (hk : p.k < N) (hl : p.k + 1 = N → wiB (4 * dr + 9) (avg (p.ck i)) = true) : NdS N dr d (p.fwd N dr d) i s.goOn := by
  have e : s.goOn = if nxS (s.t.ns.length : Nat) (s.sl : Nat) ≠ 0 then { s with rd := nxR (s.t.ns.length : Nat) s.rd (s.sl : Nat), sl := (nxS (s.t.ns.length : Nat) (s.sl : Nat)).toNat, se := false } else
      if wiB s.t.lm (avg s.ck) then { s with rd := nxR (s.t.ns.length : Nat) s.rd (s.sl : Nat), sl := (nxS (s.t.ns.length : Nat) (s.sl : Nat)).toNat, se := false, tm := s.tm + termV s.t.lm s.ck + s.dr, ck := [], so := s.so.age, an := nowM s.al s.so.age, ar := fun i => s.ar i ||| nowM s.al s.so.age i }
      else { s with rd := nxR (s.t.ns.length : Nat) s.rd (s.sl : Nat), sl := (nxS (s.t.ns.length : Nat) (s.sl : Nat)).toNat, se := false, st := 5, ck := [], so := s.so.age, an := nowM s.al s.so.age, ar := fun i => s.ar i ||| nowM s.al s.so.age i } := by
    unfold NM.goOn
    simp only
    split
    · rfl
    · split <;> rfl
  rw [e, h.t, gsm_len, h.sl, h.rd]
  have elm : (gsmT N dr).lm = 4 * dr + 9 := rfl
  by_cases hlt : p.k + 1 < N
  · obtain ⟨e1, e2⟩ := nx_more hlt p.r
    rw [e1, e2, if_pos (by omega), Int.toNat_natCast]
    unfold SP.fwd
    rw [if_pos hlt]
    exact ⟨rfl, h.ix, h.dx, h.st, rfl, rfl, h.ty, h.tm, h.ck, h.so, h.da⟩
  · obtain ⟨e1, e2⟩ := nx_last (N := N) (k := p.k) (by omega) p.r
    rw [e1, e2, if_neg (fun h => h rfl), elm, h.ck, if_pos (hl (by omega))]
    unfold SP.fwd
    rw [if_neg hlt]
    exact ⟨rfl, h.ix, h.dx, h.st, rfl, rfl, h.ty, by show s.tm + termV (4 * dr + 9) (p.ck i) + s.dr = p.tm i + termV (4 * dr + 9) (p.ck i) + d i; rw [h.tm, h.dx], rfl, by show s.so.age = _; rw [h.so], h.da⟩
theorem meas_eq {i k : Nat} {s : NM} (ht : s.t = gsmT N dr) (hk : k < N) (o : Int) (hc : s.ck = p.ck i) : s.meas k o = if wsy k = true then keep4 (p.ck i) o else p.ck i := by
  unfold NM.meas NM.at_ wsy
  rw [ht, gsm_at N dr k hk, hc]
/-- The slot's own node. -/
theorem NdS.own {s : NM} (h : NdS N dr d p p.k s) (ok : p.Ok N dr) (hon : p.on p.k = true) (x : Hn) : NdS N dr d (p.next N dr d) p.k (s.sendS.take x) := by
  rw [(h.sends ok hon).2]
  have e : NM.take { s with st := 4, ty := ⟨ins p.m p.k, 0, 0⟩, se := true } x = NM.goOn { s with st := 4, ty := ⟨ins p.m p.k, 0, 0⟩, se := true, ck := s.meas s.i 0 } := by
    unfold NM.take
    rw [if_neg (by simp), if_neg (by simp), if_pos (show s.sl = s.i by rw [h.sl, h.ix])]
    rfl
  rw [e]
  have hm : p.mid = _ := show SP.mid p = _ from by unfold SP.mid; rw [if_pos hon]
  refine NdS.goOn (p := p.mid) ?_ (by rw [hm]; exact ok.k) (fun h1 => ok.lim (by rw [hm] at h1; exact h1) p.k ok.k hon)
  rw [hm]
  refine ⟨h.t, h.ix, h.dx, (if_pos rfl).symm, h.rd, h.sl, ?_, h.tm, ?_, ?_, h.da⟩
  · show (⟨ins p.m p.k, 0, 0⟩ : TS) = ⟨ins p.m p.k, if p.k = p.k then 0 else _, 0⟩
    rw [if_pos rfl]
  · show s.meas s.i 0 = if wsy p.k = true then keep4 (p.ck p.k) (p.tm p.k - p.tm p.k) else p.ck p.k
    rw [h.ix, meas_eq h.t ok.k 0 h.ck, Int.sub_self]
  · show s.so = if p.k = p.k then p.so p.k else _
    rw [if_pos rfl]; exact h.so
/-- Another node hears the slot's. -/
theorem NdS.hears {i : Nat} {s : NM} (h : NdS N dr d p i s) (ok : p.Ok N dr) (hon : p.on p.k = true) (hi : i < N) (hon2 : p.on i = true) (hik : i ≠ p.k) :
    NdS N dr d (p.next N dr d) i (s.sendS.take ⟨2, 2, (wfr p).bytes, (wfr p).bytes, p.tm p.k - p.tm i⟩) := by
  rw [(h.quiet ok hik).2]
  have hst := ok.st i
  rw [← h.st] at hst
  have hk8 : p.k < 8 := by have := ok.n; have := ok.k; omega
  have eo : NM.own { s with se := false } = (wfr p).st := by
    show (⟨s.rd, s.sl, (ins s.ty.m s.sl : Nat)⟩ : St) = ⟨p.r, p.k, (ins p.m p.k : Nat)⟩
    rw [h.rd, h.sl, h.ty]
  obtain ⟨r1, r2⟩ := wm_read (wfr_is ok)
  have hR : NM.isRight { s with se := false } (wfr p).bytes := by
    unfold NM.isRight
    rw [eo, r1, r2]
    refine ⟨rfl, ?_, rfl⟩
    show (if _ then (2 : Int) else 1) ≠ 3
    split <;> omega
  have hl : NM.rightL { s with se := false } ⟨2, 2, (wfr p).bytes, (wfr p).bytes, p.tm p.k - p.tm i⟩ = some (wfr p).bytes := by
    unfold NM.rightL NM.rows
    show List.find? _ ([(wfr p).bytes] ++ [(wfr p).bytes]) = _
    rw [List.singleton_append]
    exact List.find?_cons_of_pos (by show decide (NM.isRight _ _) = true; exact decide_eq_true hR)
  have e : NM.take { s with se := false } ⟨2, 2, (wfr p).bytes, (wfr p).bytes, p.tm p.k - p.tm i⟩ = (NM.took { s with se := false } (s.ty.right s.sl) (s.so.put s.sl (p.da p.k)) (NM.meas { s with se := false } s.sl (p.tm p.k - p.tm i))).goOn := by
    unfold NM.take
    rw [if_neg (by show ¬ (s.st = 0 ∨ s.st = 5); omega), if_neg (by show ¬ s.st = 1; omega), if_neg (by show ¬ s.sl = s.i; rw [h.sl, h.ix]; exact fun e => hik e.symm), hl]
    simp only
    rw [eo, r2]
    rfl
  rw [e]
  have hm : p.mid = _ := show SP.mid p = _ from by unfold SP.mid; rw [if_pos hon]
  refine NdS.goOn (p := p.mid) ?_ (by rw [hm]; exact ok.k) (fun h1 => ok.lim (by rw [hm] at h1; exact h1) i hi hon2)
  rw [hm]
  have et : s.ty.right (s.sl : Nat) = ⟨ins p.m p.k, p.a i + 1, 0⟩ := by
    unfold TS.right
    rw [h.sl, if_pos (by omega), Int.toNat_natCast, h.ty]
  unfold NM.took
  rw [et]
  refine ⟨h.t, h.ix, h.dx, ?_, h.rd, h.sl, ?_, h.tm, ?_, ?_, h.da⟩
  · show s.st = if i = p.k then 4 else p.st i
    rw [if_neg hik]; exact h.st
  · show (⟨ins p.m p.k, p.a i + 1, 0⟩ : TS) = ⟨ins p.m p.k, if i = p.k then 0 else p.a i + 1, 0⟩
    rw [if_neg hik]
  · show NM.meas { s with se := false } s.sl _ = if wsy p.k = true then keep4 (p.ck i) (p.tm p.k - p.tm i) else p.ck i
    rw [h.sl]
    exact meas_eq (s := { s with se := false }) h.t ok.k _ h.ck
  · show (s.so.put (s.sl : Nat) (p.da p.k)).member (s.sl : Nat) (isB (ins p.m p.k) (s.sl : Nat)) = if i = p.k then p.so i else ((p.so i).put p.k (p.da p.k)).member p.k (isB (ins p.m p.k) p.k)
    rw [if_neg hik, h.so, h.sl]
/-- Nobody is heard. -/
theorem NdS.misses {i : Nat} {s : NM} (h : NdS N dr d p i s) (ok : p.Ok N dr) (hoff : p.on p.k = false) (hi : i < N) (hon2 : p.on i = true) :
    NdS N dr d (p.next N dr d) i (s.sendS.take ⟨0, 0, [], [], 0⟩) := by
  have hik : i ≠ p.k := fun e => by rw [e, hoff] at hon2; cases hon2
  rw [(h.quiet ok hik).2]
  have hst := ok.st i
  rw [← h.st] at hst
  have hk8 : p.k < 8 := by have := ok.n; have := ok.k; omega
  have e : NM.take { s with se := false } ⟨0, 0, [], [], 0⟩ = (NM.took { s with se := false } (s.ty.miss s.sl) s.so s.ck).goOn := by
    unfold NM.take
    rw [if_neg (by show ¬ (s.st = 0 ∨ s.st = 5); omega), if_neg (by show ¬ s.st = 1; omega), if_neg (by show ¬ s.sl = s.i; rw [h.sl, h.ix]; exact fun e => hik e.symm)]
    have : NM.rightL { s with se := false } ⟨0, 0, [], [], 0⟩ = none := rfl
    rw [this]
    simp only
    rw [if_pos ⟨trivial, trivial⟩]
  rw [e]
  have hm : p.mid = _ := show SP.mid p = _ from by unfold SP.mid; rw [if_neg (by rw [hoff]; simp)]
  refine NdS.goOn (p := p.mid) ?_ (by rw [hm]; exact ok.k) (fun h1 => ok.lim (by rw [hm] at h1; exact h1) i hi hon2)
  rw [hm]
  have et : s.ty.miss (s.sl : Nat) = ⟨del p.m p.k, p.a i, 0⟩ := by
    unfold TS.miss
    rw [h.sl, if_pos (by omega), Int.toNat_natCast, h.ty]
  unfold NM.took
  rw [et]
  refine ⟨h.t, h.ix, h.dx, h.st, h.rd, h.sl, rfl, h.tm, h.ck, ?_, h.da⟩
  show s.so.member (s.sl : Nat) (isB (del p.m p.k) (s.sl : Nat)) = (p.so i).member p.k (isB (del p.m p.k) p.k)
  rw [h.so, h.sl]
end
end Go.Proofs.YtjoioojckekfhaaGreat

namespace Go.Proofs.YtjoioojckekfhaaGreat
open Fr (St F)
open Clk (avg)

section
variable {N : Nat} {dr : Int} {d : Nat → Int} {p : SP} {u : WM}
theorem Sy.bs (h : Sy N dr d p u) (ok : p.Ok N dr) (i : Nat) (hi : i < N) : u.bs N i = if i = p.k ∧ p.on p.k = true then (wfr p).bytes else [] := by
  unfold WM.bs
  rw [if_pos hi]
  cases ho : p.on i
  · rw [sent_none (off_quiet (h.off i hi ho).1).1, if_neg]
    rintro ⟨rfl, e⟩
    rw [ho] at e; cases e
  · by_cases e : i = p.k
    · subst e
      rw [((h.nd _ hi ho).sends ok ho).1, if_pos ⟨rfl, ho⟩]
    · rw [sent_none ((h.nd i hi ho).quiet ok e).1, if_neg (fun x => e x.1)]
theorem Sy.at_ (h : Sy N dr d p u) (ok : p.Ok N dr) (i : Nat) (hi : i < N) (ho : p.on i = true) : u.at_ N i = p.tm i := by
  unfold WM.at_
  rw [if_pos hi]
  by_cases e : i = p.k
  · subst e
    rw [((h.nd _ hi ho).sends ok ho).2]
    exact (h.nd _ hi ho).tm
  · rw [((h.nd i hi ho).quiet ok e).2]
    exact (h.nd i hi ho).tm
theorem wfr_len (p : SP) : 0 < (wfr p).bytes.length := by rw [F.bytes_length]; omega
theorem Sy.who (h : Sy N dr d p u) (ok : p.Ok N dr) : u.who N = if p.on p.k = true then (p.k : Int) else -1 := by
  have hk := ok.k
  unfold WM.who G.pass
  rw [if_pos h.gd.kn, h.gd.slot, h.gd.now, h.gd.wi]
  unfold WM.sd
  rw [sF_m0 N _ _ p.k hk, sA_m0 N _ _ p.k hk, h.bs ok p.k hk]
  by_cases ho : p.on p.k = true
  · rw [show (if p.k = p.k ∧ p.on p.k = true then (wfr p).bytes else []) = (wfr p).bytes from if_pos ⟨rfl, ho⟩, h.at_ ok p.k hk ho, decide_eq_true (wfr_len p), if_pos (c := p.on p.k = true) ho]
    have hn : nearB (p.tm p.k) p.now (4 * dr + 6) = true := by unfold nearB; exact decide_eq_true (ok.near ho)
    rw [hn]
    rfl
  · rw [show (if p.k = p.k ∧ p.on p.k = true then (wfr p).bytes else []) = [] from if_neg (fun x => ho x.2), if_neg (c := p.on p.k = true) ho]
    rfl
theorem Sy.hear (h : Sy N dr d p u) (ok : p.Ok N dr) (i : Nat) (hi : i < N) (hon : p.on i = true) : u.hear N i = if p.on p.k = true then ⟨2, 2, (wfr p).bytes, (wfr p).bytes, p.tm p.k - p.tm i⟩ else ⟨0, 0, [], [], 0⟩ := by
  have hk := ok.k
  unfold WM.hear WM.heard WM.when_
  rw [h.who ok]
  by_cases ho : p.on p.k = true
  · simp only [if_pos ho]
    rw [if_neg (by omega), if_neg (by omega), if_neg (by omega), Int.toNat_natCast, h.bs ok p.k hk, if_pos ⟨rfl, ho⟩, h.at_ ok p.k hk ho, h.at_ ok i hi hon]
  · simp only [if_neg ho]
    rw [if_pos (by omega)]
theorem Sy.heard (h : Sy N dr d p u) (ok : p.Ok N dr) : u.heard N = (if p.on p.k = true then (wfr p).bytes else []) ∧ (p.on p.k = true → u.when_ N = p.tm p.k) := by
  have hk := ok.k
  unfold WM.heard WM.when_
  rw [h.who ok]
  by_cases ho : p.on p.k = true
  · simp only [if_pos ho]
    rw [if_neg (by omega), if_neg (by omega), Int.toNat_natCast, h.bs ok p.k hk, if_pos ⟨rfl, ho⟩, h.at_ ok p.k hk ho]
    exact ⟨rfl, fun _ => rfl⟩
  · simp only [if_neg ho]
    rw [if_pos (by omega)]
    exact ⟨rfl, fun e => absurd e ho⟩
theorem Sy.wok (h : Sy N dr d p u) (ok : p.Ok N dr) : WOk N u := by
  have hd := ok.drb
  refine ⟨ok.n, h.gd.n, fun i hi => ?_, fun i hi => ?_, by rw [h.gd.now]; exact ok.now, by rw [h.gd.slot]; exact ok.k, by rw [h.gd.l]; exact ok.gl, by rw [h.gd.lm]; omega, by rw [h.gd.wi]; omega, by rw [h.gd.si]; exact ok.si.2⟩
  · cases ho : p.on i
    · rw [(off_quiet (h.off i hi ho).1).2]; exact (h.off i hi ho).2.1
    · by_cases e : i = p.k
      · subst e
        rw [((h.nd _ hi ho).sends ok ho).2]
        show _ ≤ (u.ms p.k).tm ∧ (u.ms p.k).tm ≤ _
        rw [(h.nd _ hi ho).tm]; exact ok.tm _ hi
      · rw [((h.nd i hi ho).quiet ok e).2]
        show _ ≤ (u.ms i).tm ∧ (u.ms i).tm ≤ _
        rw [(h.nd i hi ho).tm]; exact ok.tm i hi
  · cases ho : p.on i
    · rw [(off_quiet (h.off i hi ho).1).2]; exact (h.off i hi ho).2.2
    · by_cases e : i = p.k
      · subst e
        rw [((h.nd _ hi ho).sends ok ho).2]
        show (0 : Nat) < 900 ∧ (0 : Nat) < 900
        omega
      · rw [((h.nd i hi ho).quiet ok e).2]
        show (u.ms i).ty.a < 900 ∧ (u.ms i).ty.f < 900
        rw [(h.nd i hi ho).ty]
        exact ⟨ok.a i hi, by show 0 < 900; omega⟩
theorem G_on_eq (s : G) (N k : Nat) (dr now : Int) (l : List Int) (hs : s.slot = k) (hn : s.n = N) (hl : s.lm = 4 * dr + 9) (hnow : s.now = now) (hll : s.l = l) :
    s.on = if k + 1 = N then { s with slot := 0, now := now + termV (4 * dr + 9) l, l := [] } else { s with slot := k + 1 } := by
  unfold G.on
  rw [hs, hn, hl, hnow, hll]
theorem GdS.fwd {s : G} (h : GdS N dr p s) (hk : p.k < N) : GdS N dr (p.fwd N dr d) s.on := by
  rw [G_on_eq s N p.k dr p.now p.gl h.slot h.n h.lm h.now h.l]
  unfold SP.fwd
  by_cases e : p.k + 1 = N
  · rw [if_pos e, if_neg (by omega)]
    exact ⟨h.kn, rfl, h.n, h.wi, h.lm, rfl, rfl, h.si, h.sy⟩
  · rw [if_neg e, if_pos (by omega)]
    exact ⟨h.kn, rfl, h.n, h.wi, h.lm, h.now, h.l, h.si, h.sy⟩
theorem SP.mid_on (p : SP) : p.mid.on = p.on ∧ p.mid.k = p.k ∧ p.mid.r = p.r ∧ p.mid.tm = p.tm ∧ p.mid.now = p.now ∧ p.mid.da = p.da := by
  unfold SP.mid
  by_cases h : p.on p.k = true
  · rw [if_pos h]; exact ⟨rfl, rfl, rfl, rfl, rfl, rfl⟩
  · rw [if_neg h]; exact ⟨rfl, rfl, rfl, rfl, rfl, rfl⟩
theorem SP.fwd_on (p : SP) (N : Nat) (dr : Int) (d : Nat → Int) : (p.fwd N dr d).on = p.on ∧ (p.fwd N dr d).m = p.m ∧ (p.fwd N dr d).st = p.st ∧ (p.fwd N dr d).a = p.a ∧ (p.fwd N dr d).si = p.si ∧ (p.fwd N dr d).da = p.da := by
  unfold SP.fwd
  by_cases h : p.k + 1 < N
  · rw [if_pos h]; exact ⟨rfl, rfl, rfl, rfl, rfl, rfl⟩
  · rw [if_neg h]; exact ⟨rfl, rfl, rfl, rfl, rfl, rfl⟩
theorem Sy.step (h : Sy N dr d p u) (ok : p.Ok N dr) : Sy N dr d (p.next N dr d) (u.slot N) := by
  have hon : ∀ i, (p.next N dr d).on i = p.on i := fun i => by
    unfold SP.next
    rw [(SP.fwd_on p.mid N dr d).1, (SP.mid_on p).1]
  refine ⟨fun i hi ho => ?_, fun i hi ho => ?_, ?_⟩
  · rw [hon] at ho
    show NdS N dr d _ i (if i < N then (u.ms i).sendS.take (u.hear N i) else u.ms i)
    rw [if_pos hi, h.hear ok i hi ho]
    by_cases hk : p.on p.k = true
    · rw [if_pos hk]
      by_cases e : i = p.k
      · subst e
        exact (h.nd _ hi ho).own ok ho _
      · exact (h.nd i hi ho).hears ok hk hi ho e
    · rw [if_neg hk]
      exact (h.nd i hi ho).misses ok (by simpa using hk) hi ho
  · rw [hon] at ho
    have := h.off i hi ho
    have e : (u.slot N).ms i = u.ms i := by
      show (if i < N then (u.ms i).sendS.take (u.hear N i) else u.ms i) = u.ms i
      rw [if_pos hi, (off_quiet this.1).2]
      unfold NM.take
      rw [if_pos (.inl this.1.1)]
    rw [e]
    exact this
  · show GdS N dr _ (u.s.ended (u.heard N) (u.when_ N))
    obtain ⟨e1, e2⟩ := h.heard ok
    unfold G.ended
    rw [if_pos h.gd.kn, e1]
    by_cases hk : p.on p.k = true
    · rw [if_pos hk, if_pos (wfr_len p), e2 hk]
      have hm : p.mid = _ := show SP.mid p = _ from by unfold SP.mid; rw [if_pos hk]
      unfold G.heard
      refine GdS.fwd (p := p.mid) ?_ (by rw [hm]; exact ok.k)
      rw [hm, h.gd.slot, h.gd.sy p.k ok.k, h.gd.l, h.gd.now]
      cases hs : wsy p.k
      · rw [if_neg (by simp)]
        exact ⟨h.gd.kn, rfl, h.gd.n, h.gd.wi, h.gd.lm, rfl, rfl, rfl, h.gd.sy⟩
      · rw [if_pos rfl]
        exact ⟨h.gd.kn, rfl, h.gd.n, h.gd.wi, h.gd.lm, rfl, rfl, rfl, h.gd.sy⟩
    · rw [if_neg hk, if_neg (by simp)]
      have hm : p.mid = _ := show SP.mid p = _ from by unfold SP.mid; rw [if_neg hk]
      unfold G.missed
      rw [h.gd.si, h.gd.n, if_neg ok.si.1]
      refine GdS.fwd (p := p.mid) ?_ (by rw [hm]; exact ok.k)
      rw [hm]
      exact ⟨h.gd.kn, h.gd.slot, rfl, h.gd.wi, h.gd.lm, h.gd.now, h.gd.l, rfl, h.gd.sy⟩
end
end Go.Proofs.YtjoioojckekfhaaGreat

namespace Go.Proofs.YtjoioojckekfhaaGreat
open Fr (St F)
open Clk (avg)

/-- A node that listens for so many slots. -/
def lsN (N : Nat) (dr : Int) (d : Nat → Int) (al : List R4) (tm : Nat → Int) (da : Nat → List Int) (j i : Nat) : NM := { NM.new (gsmT N dr) i (d i) al with st := 1, tm := tm i, wt := j, da := da i }
/-- All listen. -/
structure Ls (N : Nat) (dr : Int) (d : Nat → Int) (al : List R4) (tm : Nat → Int) (da : Nat → List Int) (j : Nat) (u : WM) : Prop where
  nd : ∀ i, i < N → u.ms i = lsN N dr d al tm da j i
  gd : u.s = newG (gsmT N dr)
section
variable {N : Nat} {dr : Int} {d : Nat → Int} {al : List R4} {tm : Nat → Int} {da : Nat → List Int} {j : Nat} {u : WM}
theorem gsm_li (i : Nat) (hi : i < 8) : (gsmD i).li = 20 + 3 * ((i : Int) * 5 % 8) ∧ 20 ≤ (gsmD i).li ∧ (i ≠ 0 → 23 ≤ (gsmD i).li) := by
  have e : (gsmD i).li = 20 + 3 * ((i : Int) * 5 % 8) := rfl
  rw [e]
  omega
theorem lsN_me {i : Nat} (hi : i < N) : (lsN N dr d al tm da j i).me = gsmD i := gsm_at N dr i hi
theorem lsN_quiet {i : Nat} (hi : i < N) (h : (j : Int) + 1 < (gsmD i).li) : (lsN N dr d al tm da j i).sendK = 0 ∧ (lsN N dr d al tm da j i).sendS = lsN N dr d al tm da (j + 1) i := by
  unfold NM.sendK NM.sendS
  rw [lsN_me hi]
  rw [if_pos (show (lsN N dr d al tm da j i).st = 1 from rfl), if_pos (show ((lsN N dr d al tm da j i).wt : Int) + 1 < (gsmD i).li from h), if_pos (show (lsN N dr d al tm da j i).st = 1 from rfl), if_pos (show ((lsN N dr d al tm da j i).wt : Int) + 1 < (gsmD i).li from h)]
  exact ⟨rfl, rfl⟩
/-- A slot in which nobody begins. -/
theorem Ls.silent (h : Ls N dr d al tm da j u) (hN : 4 ≤ N ∧ N ≤ 8) (hd : 0 ≤ dr ∧ dr ≤ 200) (htm : ∀ i, i < N → -100000 ≤ tm i ∧ tm i ≤ 100000) (hj : j < 19) : WOk N u ∧ Ls N dr d al tm da (j + 1) (u.slot N) := by
  have hli : ∀ i, i < N → (j : Int) + 1 < (gsmD i).li := fun i hi => by have := (gsm_li i (by omega)).2.1; omega
  have hbs : ∀ i, u.bs N i = [] := fun i => by
    unfold WM.bs
    split
    · rename_i hi
      rw [h.nd i hi, sent_none (lsN_quiet hi (hli i hi)).1]
    · rfl
  have hwho : u.who N = -1 := by
    unfold WM.who G.pass WM.sd
    rw [h.gd, if_neg (by simp [newG])]
    refine fst_none fun k hk => ?_
    have hk : k < N := by have : (newG (gsmT N dr)).n = N := gsm_len N dr; omega
    rw [sF_m0 N _ _ k hk, hbs k]
    rfl
  refine ⟨⟨hN, by rw [h.gd]; exact gsm_len N dr, fun i hi => ?_, fun i hi => ?_, by rw [h.gd]; show _ ≤ (0 : Int) ∧ (0 : Int) ≤ _; omega, by rw [h.gd]; show 0 < N; omega, by rw [h.gd]; exact fun x hx => (by cases hx), by rw [h.gd]; show 0 ≤ 4 * dr + 9 ∧ 4 * dr + 9 ≤ 1000; omega, by rw [h.gd]; show 0 ≤ 4 * dr + 6 ∧ 4 * dr + 6 ≤ 1000; omega, by rw [h.gd]; show 0 ≤ 1000; omega⟩, ⟨fun i hi => ?_, ?_⟩⟩
  · rw [h.nd i hi, (lsN_quiet hi (hli i hi)).2]; exact htm i hi
  · rw [h.nd i hi, (lsN_quiet hi (hli i hi)).2]; show (0 : Nat) < 900 ∧ (0 : Nat) < 900; omega
  · show (if i < N then (u.ms i).sendS.take (u.hear N i) else u.ms i) = _
    have eh : u.hear N i = ⟨0, 0, [], [], 0⟩ := by
      unfold WM.hear
      rw [hwho, if_pos (by omega)]
    rw [if_pos hi, eh, h.nd i hi, (lsN_quiet hi (hli i hi)).2]
    unfold NM.take
    rw [if_neg (by show ¬ ((1 : Nat) = 0 ∨ (1 : Nat) = 5); omega), if_pos (show (lsN N dr d al tm da (j + 1) i).st = 1 from rfl)]
    have : NM.firstL (lsN N dr d al tm da (j + 1) i) ⟨0, 0, [], [], 0⟩ = none := rfl
    rw [this]
    simp only
    rw [if_neg (by simp)]
  · show u.s.ended (u.heard N) (u.when_ N) = _
    rw [show u.heard N = [] by unfold WM.heard; rw [hwho]; rfl, h.gd]
    exact ended_not _ rfl (tells_short (by simp) _) _
/-- The ward behind the first that begins: node 0, a slot on. -/
def p1 (da : Nat → List Int) (T : Int) : SP where
  on := fun _ => true
  r := 0
  k := 1
  m := 1
  st := fun i => if i = 0 then 2 else 3
  a := fun i => if i = 0 then 0 else 1
  tm := fun _ => T
  ck := fun i => if i = 0 then [0] else []
  so := fun i => if i = 0 then MS.new else NM.goods (MS.new.put 0 (da 0)) 1
  da := da
  now := T
  gl := []
  si := 0
/-- The frame by which node 0 begins. -/
def f0 (da : Nat → List Int) : F := ⟨3, ⟨0, 0, 1⟩, da 0⟩
theorem f0_is (hda : (da 0).length ≤ 8) : (f0 da).is = true := by
  rw [F.is_iff]
  exact ⟨by show (1 : Int) ≤ 3 ∧ (3 : Int) ≤ 3; omega, by show Fr.St.may ⟨0, 0, 1⟩ = true; decide, hda⟩
theorem tells0 (hda : (da 0).length ≤ 8) : Fr.err (f0 da).bytes NM.z3 = 0 ∧ Fr.res (f0 da).bytes NM.z3 = f0 da := wm_told (f0_is hda) (by show (3 : Int) ≠ 1; omega) NM.z3 (by decide)
/-- Node 0, as it begins. -/
def bgN (N : Nat) (dr : Int) (d : Nat → Int) (al : List R4) (tm : Nat → Int) (da : Nat → List Int) : NM := { NM.new (gsmT N dr) 0 (d 0) al with st := 2, tm := tm 0, wt := 0, da := da 0, ty := ⟨1, 0, 0⟩, se := true }
theorem lsN_begins (hN : 0 < N) : (lsN N dr d al tm da 19 0).sendK = 3 ∧ (lsN N dr d al tm da 19 0).sendS = bgN N dr d al tm da := by
  have e : ¬ ((lsN N dr d al tm da 19 0).wt : Int) + 1 < (gsmD 0).li := by show ¬ ((19 : Nat) : Int) + 1 < 20 + 3 * (((0 : Nat) : Int) * 5 % 8); omega
  unfold NM.sendK NM.sendS
  rw [lsN_me hN, if_pos (show (lsN N dr d al tm da 19 0).st = 1 from rfl), if_neg e, if_pos (show (lsN N dr d al tm da 19 0).st = 1 from rfl), if_neg e]
  refine ⟨rfl, ?_⟩
  unfold NM.begun
  have ej : (⟨0, 0, 0⟩ : TS).join ((lsN N dr d al tm da 19 0).i : Nat) = ⟨1, 0, 0⟩ := show (⟨0, 0, 0⟩ : TS).join ((0 : Nat) : Int) = ⟨1, 0, 0⟩ from by decide
  rw [ej]
  rfl
/-- The slot in which node 0 begins: all the others know it. -/
theorem Ls.begins (h : Ls N dr d al tm da 19 u) (hN : 4 ≤ N ∧ N ≤ 8) (hd : 0 ≤ dr ∧ dr ≤ 200) (htm : ∀ i, i < N → -100000 ≤ tm i ∧ tm i ≤ 100000) (hda : (da 0).length ≤ 8) : WOk N u ∧ Sy N dr d (p1 da (tm 0)) (u.slot N) := by
  have h0N : 0 < N := by omega
  obtain ⟨k0, s0⟩ := lsN_begins (dr := dr) (d := d) (al := al) (tm := tm) (da := da) h0N
  have hli : ∀ i, i < N → i ≠ 0 → ((19 : Nat) : Int) + 1 < (gsmD i).li := fun i hi h0 => by have := (gsm_li i (by omega)).2.2 h0; omega
  have hq := fun i hi h0 => lsN_quiet (N := N) (dr := dr) (d := d) (al := al) (tm := tm) (da := da) (j := 19) (i := i) hi (hli i hi h0)
  have hb0 : (lsN N dr d al tm da 19 0).sent = (f0 da).bytes := by
    unfold NM.sent
    rw [k0, if_neg (by omega), s0]
    rfl
  have hbs : ∀ i, i < N → u.bs N i = if i = 0 then (f0 da).bytes else [] := fun i hi => by
    unfold WM.bs
    rw [if_pos hi, h.nd i hi]
    by_cases e : i = 0
    · subst e; rw [if_pos rfl, hb0]
    · rw [if_neg e, sent_none (hq i hi e).1]
  have hat : ∀ i, i < N → u.at_ N i = tm i := fun i hi => by
    unfold WM.at_
    rw [if_pos hi, h.nd i hi]
    by_cases e : i = 0
    · subst e; rw [s0]; rfl
    · rw [(hq i hi e).2]; rfl
  have hlen : 0 < (f0 da).bytes.length := by rw [F.bytes_length]; omega
  have hwho : u.who N = 0 := by
    have hn : (newG (gsmT N dr)).n = N := gsm_len N dr
    unfold WM.who G.pass WM.sd
    rw [h.gd, if_neg (by simp [newG])]
    exact fst_hit (k := 0) (by omega) (by rw [sF_m0 N _ _ 0 h0N, hbs 0 h0N, if_pos rfl]; exact decide_eq_true hlen) (fun j hj => by omega)
  have hheard : u.heard N = (f0 da).bytes := by
    unfold WM.heard
    rw [hwho, if_neg (by omega)]
    show u.bs N 0 = _
    rw [hbs 0 h0N, if_pos rfl]
  have hwhen : u.when_ N = tm 0 := by
    unfold WM.when_
    rw [hwho, if_neg (by omega)]
    exact hat 0 h0N
  have hhear : ∀ i, i < N → u.hear N i = ⟨2, 2, (f0 da).bytes, (f0 da).bytes, tm 0 - tm i⟩ := fun i hi => by
    unfold WM.hear
    rw [hwho, if_neg (by omega), hheard, hwhen, hat i hi]
  obtain ⟨r1, r2⟩ := tells0 (da := da) hda
  refine ⟨⟨hN, by rw [h.gd]; exact gsm_len N dr, fun i hi => ?_, fun i hi => ?_, by rw [h.gd]; show _ ≤ (0 : Int) ∧ (0 : Int) ≤ _; omega, by rw [h.gd]; show 0 < N; omega, by rw [h.gd]; exact fun x hx => (by cases hx), by rw [h.gd]; show 0 ≤ 4 * dr + 9 ∧ 4 * dr + 9 ≤ 1000; omega, by rw [h.gd]; show 0 ≤ 4 * dr + 6 ∧ 4 * dr + 6 ≤ 1000; omega, by rw [h.gd]; show 0 ≤ 1000; omega⟩, ⟨fun i hi _ => ?_, fun i _ ho => (by cases ho), ?_⟩⟩
  · rw [h.nd i hi]
    by_cases e : i = 0
    · subst e; rw [s0]; exact htm 0 hi
    · rw [(hq i hi e).2]; exact htm i hi
  · rw [h.nd i hi]
    by_cases e : i = 0
    · subst e; rw [s0]; show (0 : Nat) < 900 ∧ (0 : Nat) < 900; omega
    · rw [(hq i hi e).2]; show (0 : Nat) < 900 ∧ (0 : Nat) < 900; omega
  · show NdS N dr d _ i (if i < N then (u.ms i).sendS.take (u.hear N i) else u.ms i)
    rw [if_pos hi, hhear i hi, h.nd i hi]
    have en : nxS ((gsmT N dr).ns.length : Nat) ((0 : Nat) : Int) = 1 ∧ nxR ((gsmT N dr).ns.length : Nat) (0 : Int) ((0 : Nat) : Int) = 0 := by
      rw [gsm_len]
      unfold nxS nxR
      rw [if_pos (by omega), if_pos (by omega)]
      exact ⟨rfl, rfl⟩
    have hgo : ∀ s : NM, s.t = gsmT N dr → s.sl = 0 → s.rd = 0 → s.goOn = { s with rd := 0, sl := 1, se := false } := fun s ht hsl hrd => by
      unfold NM.goOn
      simp only
      rw [ht, hsl, hrd, en.1, en.2, if_pos (by omega)]
      rfl
    by_cases e : i = 0
    · subst e
      rw [s0]
      have et : NM.take (bgN N dr d al tm da) ⟨2, 2, (f0 da).bytes, (f0 da).bytes, tm 0 - tm 0⟩ = NM.goOn { bgN N dr d al tm da with ck := [0] } := by
        unfold NM.take
        rw [if_neg (by show ¬ ((2 : Nat) = 0 ∨ (2 : Nat) = 5); omega), if_neg (by show ¬ (2 : Nat) = 1; omega), if_pos (show (bgN N dr d al tm da).sl = (bgN N dr d al tm da).i from rfl)]
        have : NM.meas (bgN N dr d al tm da) 0 0 = [0] := by
          unfold NM.meas NM.at_
          rw [if_pos]
          · rfl
          · show ((gsmT N dr).ns.getD 0 default).sy = true
            rw [gsm_at N dr 0 hi]
            rfl
        rw [if_pos (show (bgN N dr d al tm da).se = true from rfl)]
        show NM.goOn { lsN N dr d al tm da 19 0 with st := 2, wt := 0, sl := 0, ty := ⟨1, 0, 0⟩, se := true, ck := NM.meas _ 0 0 } = _
        rw [this]
        rfl
      rw [et, hgo _ rfl rfl rfl]
      exact ⟨rfl, rfl, rfl, rfl, rfl, rfl, rfl, rfl, rfl, rfl, rfl⟩
    · rw [(hq i hi e).2]
      have hT : NM.tells (lsN N dr d al tm da 20 i) (f0 da).bytes := by
        unfold NM.tells
        rw [r1, r2]
        refine ⟨rfl, by show (3 : Int) ≠ 1; omega, ?_, ?_⟩
        · show (0 : Int) < ((gsmT N dr).ns.length : Nat)
          rw [gsm_len]; omega
        · show (0 : Int) ≠ (i : Nat)
          omega
      have hF : NM.firstL (lsN N dr d al tm da 20 i) ⟨2, 2, (f0 da).bytes, (f0 da).bytes, tm 0 - tm i⟩ = some (f0 da).bytes := by
        unfold NM.firstL NM.rows
        show List.find? _ ([(f0 da).bytes] ++ [(f0 da).bytes]) = _
        rw [List.singleton_append]
        exact List.find?_cons_of_pos (by show decide (NM.tells _ _) = true; exact decide_eq_true hT)
      have et : NM.take (lsN N dr d al tm da (19 + 1) i) ⟨2, 2, (f0 da).bytes, (f0 da).bytes, tm 0 - tm i⟩ = (NM.knows (lsN N dr d al tm da 20 i) (f0 da) (tm 0 - tm i)).goOn := by
        unfold NM.take
        rw [if_neg (by show ¬ ((1 : Nat) = 0 ∨ (1 : Nat) = 5); omega), if_pos (show (lsN N dr d al tm da (19 + 1) i).st = 1 from rfl)]
        show (match NM.firstL (lsN N dr d al tm da 20 i) _ with | some l => _ | none => _) = _
        rw [hF]
        simp only
        rw [r2]
      rw [et, hgo _ rfl rfl rfl]
      have e1 : (p1 da (tm 0)).st i = 3 := if_neg e
      have e2 : (p1 da (tm 0)).a i = 1 := if_neg e
      have e3 : (p1 da (tm 0)).ck i = [] := if_neg e
      have e4 : (p1 da (tm 0)).so i = NM.goods (MS.new.put 0 (da 0)) 1 := if_neg e
      refine ⟨rfl, rfl, rfl, e1.symm, rfl, rfl, ?_, ?_, e3.symm, ?_, rfl⟩
      · rw [e2]
        show (⟨((1 : Int) % 256).toNat, 0, 0⟩ : TS).right (0 : Int) = ⟨1, 1, 0⟩
        decide
      · show tm i + (tm 0 - tm i) = tm 0
        omega
      · rw [e4]
        show NM.goods (MS.new.put (0 : Int) (da 0)) ((⟨((1 : Int) % 256).toNat, 0, 0⟩ : TS).right (0 : Int)).m = _
        rw [show (⟨((1 : Int) % 256).toNat, 0, 0⟩ : TS).right (0 : Int) = ⟨1, 1, 0⟩ from by decide]
  · show GdS N dr _ (u.s.ended (u.heard N) (u.when_ N))
    rw [hheard, hwhen, h.gd]
    have hn : (newG (gsmT N dr)).n = N := gsm_len N dr
    unfold G.ended
    rw [if_neg (by simp [newG])]
    unfold G.learnt
    have ht : Go.Proofs.YtjoioojckekfhaaGreat.tells (f0 da).bytes (newG (gsmT N dr)).n = true := by
      unfold Go.Proofs.YtjoioojckekfhaaGreat.tells
      rw [show (z0 : St) = NM.z3 from rfl, r1, r2, hn]
      simp [f0]
      omega
    rw [if_pos ht, show (z0 : St) = NM.z3 from rfl, r2]
    unfold G.on
    rw [if_neg (by show ¬ ((0 : Int).toNat + 1 = (newG (gsmT N dr)).n); rw [hn]; show ¬ (0 + 1 = N); omega)]
    refine ⟨rfl, rfl, hn, rfl, rfl, rfl, rfl, rfl, fun j hj => ?_⟩
    show ((gsmT N dr).ns.getD j default).sy = wsy j
    rw [gsm_at N dr j hj]
    rfl
end
end Go.Proofs.YtjoioojckekfhaaGreat

namespace Go.Proofs.YtjoioojckekfhaaGreat
open Fr (St F)
open Clk (avg)

section
variable {N : Nat} {dr : Int} {d : Nat → Int} {p : SP} {u : WM}
theorem avg_zeros {l : List Int} (h : ∀ x ∈ l, x = 0) (h4 : l.length ≤ 4) : avg l = 0 := by
  have := Clk.avg_bound (l := l) (B := 0) (by omega) (fun x hx => by rw [h x hx]; omega) h4
  omega
theorem termV_zeros {m : Int} {l : List Int} (h : ∀ x ∈ l, x = 0) (h4 : l.length ≤ 4) : termV m l = 0 := by
  unfold termV
  rw [avg_zeros h h4]
  split <;> rfl
theorem keep4_mem {l : List Int} {n x : Int} (h : x ∈ keep4 l n) : x ∈ l ∨ x = n := by
  unfold keep4 at h
  split at h
  · rcases List.mem_append.1 h with h | h
    · exact .inl (List.mem_of_mem_drop h)
    · exact .inr (by simpa using h)
  · rcases List.mem_append.1 h with h | h
    · exact .inl h
    · exact .inr (by simpa using h)
theorem keep4_len {l : List Int} {n : Int} (h : l.length ≤ 4) : 0 < (keep4 l n).length ∧ (keep4 l n).length ≤ 4 := by
  unfold keep4
  split <;> simp <;> omega
theorem keep4_map (l : List Int) (n c : Int) : (keep4 l n).map (· - c) = keep4 (l.map (· - c)) (n - c) := by
  unfold keep4
  rw [List.length_map]
  split <;> simp
theorem full_ins {k : Nat} (hk : k < 8) : ins (2 ^ k - 1) k = 2 ^ (k + 1) - 1 := by
  have : ∀ a : Fin 8, ins (2 ^ a.val - 1) a.val = 2 ^ (a.val + 1) - 1 := by decide +kernel
  exact this ⟨k, hk⟩
theorem full_has {N k : Nat} (hN : N ≤ 8) (hk : k < N) : ins (2 ^ N - 1) k = 2 ^ N - 1 := by
  have : ∀ (n : Fin 9) (a : Fin 8), a.val < n.val → ins (2 ^ n.val - 1) a.val = 2 ^ n.val - 1 := by decide +kernel
  exact this ⟨N, by omega⟩ ⟨k, by omega⟩ hk
theorem full_lt {N : Nat} (hN : N ≤ 8) : 2 ^ N - 1 < 256 := by
  have : ∀ n : Fin 9, 2 ^ n.val - 1 < 256 := by decide +kernel
  exact this ⟨N, by omega⟩
/-- How often a node was agreed with, at most. -/
def aB (N k i : Nat) : Nat := if i < k then k - i - 1 else k + N - i - 1
/-- The first round, from its second slot on. -/
structure FR (N : Nat) (T : Int) (p : SP) : Prop where
  on : ∀ i, p.on i = true
  r : p.r = 0
  k : 1 ≤ p.k ∧ p.k < N
  m : p.m = 2 ^ p.k - 1
  st : ∀ i, p.st i = if i = 0 then 2 else if i < p.k then 4 else 3
  a : ∀ i, i < N → p.a i ≤ aB N p.k i
  a1 : ∀ i, i < N → i + 1 ≠ p.k → 0 < p.a i
  tm : ∀ i, p.tm i = T
  ck : ∀ i, (p.ck i).length ≤ 4 ∧ ∀ x ∈ p.ck i, x = 0
  now : p.now = T
  gl : p.gl.length ≤ 4 ∧ ∀ x ∈ p.gl, x = 0
  si : p.si = 0
  da : ∀ i, (p.da i).length ≤ 8 ∧ bytesL (p.da i)
theorem aB_le (N k i : Nat) (h : 4 ≤ N ∧ N ≤ 8) (hk : k < N) : aB N k i ≤ 16 := by
  unfold aB; split <;> omega
theorem small_of {l : List Int} {B : Int} (hB : B ≤ 1000) (h : ∀ x ∈ l, -B ≤ x ∧ x ≤ B) : small l := fun x hx => by have := h x hx; omega
theorem fr1 (da : Nat → List Int) (T : Int) (hN : 4 ≤ N ∧ N ≤ 8) (hda : ∀ i, (da i).length ≤ 8 ∧ bytesL (da i)) : FR N T (p1 da T) := by
  refine ⟨fun _ => rfl, rfl, ⟨Nat.le_refl _, by show 1 < N; omega⟩, rfl, fun i => ?_, fun i hi => ?_, fun i _ h1 => ?_, fun _ => rfl, fun i => ?_, rfl, ⟨by show 0 ≤ 4; omega, fun x hx => (by cases hx)⟩, rfl, hda⟩
  · show (if i = 0 then 2 else 3) = if i = 0 then 2 else if i < 1 then 4 else 3
    by_cases h : i = 0
    · rw [if_pos h, if_pos h]
    · rw [if_neg h, if_neg h, if_neg (by omega)]
  · show (if i = 0 then 0 else 1) ≤ aB N 1 i
    unfold aB
    split <;> split <;> omega
  · show 0 < if i = 0 then 0 else 1
    have : i ≠ 0 := fun e => h1 (by rw [e]; rfl)
    rw [if_neg this]; omega
  · show (if i = 0 then [0] else []).length ≤ 4 ∧ ∀ x ∈ (if i = 0 then [0] else []), x = 0
    split <;> simp
theorem FR.ok {T : Int} (h : FR N T p) (hN : 4 ≤ N ∧ N ≤ 8) (hd : 0 ≤ dr ∧ dr ≤ 200) (hT : -1000 ≤ T ∧ T ≤ 1000) : p.Ok N dr := by
  have hk := h.k
  refine ⟨hN, hd, by rw [h.r]; omega, hk.2, by rw [h.m]; exact Nat.lt_of_le_of_lt (Nat.sub_le_sub_right (Nat.pow_le_pow_right (by omega) (show p.k ≤ 8 by omega)) 1) (by omega), fun i => ?_, fun i hi => by have := h.a i hi; have := aB_le N p.k i hN hk.2; omega, fun _ => h.a1 p.k hk.2 (by omega), fun i _ => by rw [h.tm]; omega, by rw [h.now]; omega, fun _ => by rw [h.tm, h.now]; omega, small_of (B := 0) (by omega) (fun x hx => by rw [h.gl.2 x hx]; omega), by rw [h.si]; omega, h.da, fun _ i _ _ => ?_⟩
  · rw [h.st]
    split
    · exact .inl rfl
    · split
      · exact .inr (.inr rfl)
      · exact .inr (.inl rfl)
  · have hz : ∀ x ∈ p.mid.ck i, x = 0 := fun x hx => by
      unfold SP.mid at hx
      rw [if_pos (h.on _)] at hx
      simp only at hx
      split at hx
      · rcases keep4_mem hx with e | e
        · exact (h.ck i).2 x e
        · rw [e, h.tm, h.tm]; omega
      · exact (h.ck i).2 x hx
    have hl : (p.mid.ck i).length ≤ 4 := by
      unfold SP.mid
      rw [if_pos (h.on _)]
      simp only
      split
      · exact (keep4_len (h.ck i).1).2
      · exact (h.ck i).1
    rw [avg_zeros hz hl]
    unfold wiB
    exact decide_eq_true (by omega)
/-- What the slot's node leaves, if it is on. -/
theorem mid_eq (h : p.on p.k = true) : p.mid = { p with m := ins p.m p.k, st := (fun i => if i = p.k then 4 else p.st i), a := (fun i => if i = p.k then 0 else p.a i + 1), ck := (fun i => if wsy p.k = true then keep4 (p.ck i) (p.tm p.k - p.tm i) else p.ck i), so := (fun i => if i = p.k then p.so i else ((p.so i).put p.k (p.da p.k)).member p.k (isB (ins p.m p.k) p.k)), gl := (if wsy p.k = true then keep4 p.gl (p.tm p.k - p.now) else p.gl), si := 0 } := by
  unfold SP.mid; rw [if_pos h]
theorem FR.next {T : Int} (h : FR N T p) (hN : 4 ≤ N ∧ N ≤ 8) (hlt : p.k + 1 < N) : FR N T (p.next N dr d) ∧ (p.next N dr d).k = p.k + 1 := by
  have hk := h.k
  unfold SP.next
  rw [mid_eq (h.on _)]
  unfold SP.fwd
  rw [if_pos (show p.k + 1 < N from hlt)]
  refine ⟨⟨h.on, h.r, ⟨by show 1 ≤ p.k + 1; omega, hlt⟩, ?_, fun i => ?_, fun i hi => ?_, fun i hi h1 => ?_, h.tm, fun i => ⟨?_, fun x hx => ?_⟩, h.now, ⟨?_, fun x hx => ?_⟩, rfl, h.da⟩, rfl⟩
  · show ins p.m p.k = 2 ^ (p.k + 1) - 1
    rw [h.m]
    exact full_ins (by omega)
  · show (if i = p.k then 4 else p.st i) = if i = 0 then 2 else if i < p.k + 1 then 4 else 3
    rw [h.st]
    by_cases e : i = p.k
    · rw [if_pos e, if_neg (by omega), if_pos (by omega)]
    · rw [if_neg e]
      by_cases e0 : i = 0
      · rw [if_pos e0, if_pos e0]
      · rw [if_neg e0, if_neg e0]
        by_cases e1 : i < p.k
        · rw [if_pos e1, if_pos (by omega)]
        · rw [if_neg e1, if_neg (by omega)]
  · show (if i = p.k then 0 else p.a i + 1) ≤ aB N (p.k + 1) i
    have := h.a i hi
    unfold aB at this ⊢
    split at this <;> split <;> split <;> omega
  · show 0 < if i = p.k then 0 else p.a i + 1
    have h1' : i + 1 ≠ p.k + 1 := h1
    rw [if_neg (by omega)]; omega
  · show (if wsy p.k = true then keep4 (p.ck i) (p.tm p.k - p.tm i) else p.ck i).length ≤ 4
    split
    · exact (keep4_len (h.ck i).1).2
    · exact (h.ck i).1
  · have hx : x ∈ (if wsy p.k = true then keep4 (p.ck i) (p.tm p.k - p.tm i) else p.ck i) := hx
    split at hx
    · rcases keep4_mem hx with e | e
      · exact (h.ck i).2 x e
      · rw [e, h.tm, h.tm]; omega
    · exact (h.ck i).2 x hx
  · show (if wsy p.k = true then keep4 p.gl (p.tm p.k - p.now) else p.gl).length ≤ 4
    split
    · exact (keep4_len h.gl.1).2
    · exact h.gl.1
  · have hx : x ∈ (if wsy p.k = true then keep4 p.gl (p.tm p.k - p.now) else p.gl) := hx
    split at hx
    · rcases keep4_mem hx with e | e
      · exact h.gl.2 x e
      · rw [e, h.tm, h.now]; omega
    · exact h.gl.2 x hx
/-- All go together: clocks that stand apart by their drifts alone. -/
structure ST (N : Nat) (dr : Int) (d : Nat → Int) (T : Int) (L : List Int) (p : SP) : Prop where
  on : ∀ i, p.on i = true
  r : 1 ≤ p.r ∧ p.r ≤ 1000
  k : p.k < N
  m : p.m = 2 ^ N - 1
  st : ∀ i, i < N → p.st i = if i = 0 ∧ p.k = 0 ∧ p.r = 1 then 2 else 4
  st3 : ∀ i, p.st i = 2 ∨ p.st i = 3 ∨ p.st i = 4
  a : ∀ i, i < N → p.a i ≤ aB N p.k i
  a1 : ∀ i, i < N → (i + 1) % N ≠ p.k → 0 < p.a i
  tm : ∀ i, p.tm i = T + d i
  ck : ∀ i, p.ck i = L.map (· - d i)
  now : p.now = T
  gl : p.gl = L
  len : L.length ≤ 4 ∧ (0 < p.k → 0 < L.length)
  lb : ∀ x ∈ L, -dr ≤ x ∧ x ≤ dr
  tb : -(1000 + dr * p.r) ≤ T ∧ T ≤ 1000 + dr * p.r
  si : p.si = 0
  da : ∀ i, (p.da i).length ≤ 8 ∧ bytesL (p.da i)
theorem FR.last {T : Int} (h : FR N T p) (hN : 4 ≤ N ∧ N ≤ 8) (hd : 0 ≤ dr) (hlt : p.k + 1 = N) (hT : -1000 ≤ T ∧ T ≤ 1000) : ST N dr d T [] (p.next N dr d) ∧ (p.next N dr d).k = 0 ∧ (p.next N dr d).r = 1 := by
  have hk := h.k
  have hz : ∀ i, termV (4 * dr + 9) (if wsy p.k = true then keep4 (p.ck i) (p.tm p.k - p.tm i) else p.ck i) = 0 := fun i => termV_zeros (fun x hx => by
    split at hx
    · rcases keep4_mem hx with e | e
      · exact (h.ck i).2 x e
      · rw [e, h.tm, h.tm]; omega
    · exact (h.ck i).2 x hx) (by
    split
    · exact (keep4_len (h.ck i).1).2
    · exact (h.ck i).1)
  have hg : termV (4 * dr + 9) (if wsy p.k = true then keep4 p.gl (p.tm p.k - p.now) else p.gl) = 0 := termV_zeros (fun x hx => by
    split at hx
    · rcases keep4_mem hx with e | e
      · exact h.gl.2 x e
      · rw [e, h.tm, h.now]; omega
    · exact h.gl.2 x hx) (by
    split
    · exact (keep4_len h.gl.1).2
    · exact h.gl.1)
  unfold SP.next
  rw [mid_eq (h.on _)]
  unfold SP.fwd
  rw [if_neg (show ¬ p.k + 1 < N by omega)]
  have er : (if p.r < 65535 then p.r + 1 else 0) = 1 := by rw [h.r]; rfl
  refine ⟨⟨h.on, ?_, by show 0 < N; omega, ?_, fun i hi => ?_, fun i => ?_, fun i hi => ?_, fun i hi h1 => ?_, fun i => ?_, fun i => rfl, ?_, rfl, ⟨by show 0 ≤ 4; omega, fun x => absurd x (Nat.lt_irrefl 0)⟩, fun x hx => (by cases hx), ?_, rfl, h.da⟩, rfl, er⟩
  · show 1 ≤ (if p.r < 65535 then p.r + 1 else 0) ∧ (if p.r < 65535 then p.r + 1 else 0) ≤ 1000
    rw [er]; omega
  · show ins p.m p.k = 2 ^ N - 1
    rw [h.m, full_ins (by omega), hlt]
  · show (if i = p.k then 4 else p.st i) = if i = 0 ∧ 0 = 0 ∧ (if p.r < 65535 then p.r + 1 else 0) = 1 then 2 else 4
    rw [h.st, er]
    by_cases e : i = p.k
    · rw [if_pos e, if_neg (by omega)]
    · rw [if_neg e]
      by_cases e0 : i = 0
      · rw [if_pos e0, if_pos (by omega)]
      · rw [if_neg e0, if_pos (by omega), if_neg (by omega)]
  · show (if i = p.k then 4 else p.st i) = 2 ∨ (if i = p.k then 4 else p.st i) = 3 ∨ (if i = p.k then 4 else p.st i) = 4
    rw [h.st]
    split
    · omega
    · split
      · omega
      · split <;> omega
  · show (if i = p.k then 0 else p.a i + 1) ≤ aB N 0 i
    have := h.a i hi
    unfold aB at this ⊢
    split at this <;> split <;> split <;> omega
  · show 0 < if i = p.k then 0 else p.a i + 1
    have h1' : (i + 1) % N ≠ 0 := h1
    rw [if_neg (fun e => h1' (by rw [e, hlt]; exact Nat.mod_self N))]
    omega
  · show p.tm i + termV (4 * dr + 9) (if wsy p.k = true then keep4 (p.ck i) (p.tm p.k - p.tm i) else p.ck i) + d i = T + d i
    rw [hz, h.tm]; omega
  · show p.now + termV (4 * dr + 9) (if wsy p.k = true then keep4 p.gl (p.tm p.k - p.now) else p.gl) = T
    rw [hg, h.now]; omega
  · show -(1000 + dr * (if p.r < 65535 then p.r + 1 else 0)) ≤ T ∧ T ≤ 1000 + dr * (if p.r < 65535 then p.r + 1 else 0)
    rw [er]; omega
/-- What was measured, behind this slot. -/
def l4 (d : Nat → Int) (k : Nat) (L : List Int) : List Int := if wsy k = true then keep4 L (d k) else L
theorem l4_len {d : Nat → Int} {k : Nat} {L : List Int} (h : L.length ≤ 4) (h0 : 0 < k → 0 < L.length) : (l4 d k L).length ≤ 4 ∧ 0 < (l4 d k L).length := by
  unfold l4
  split
  · exact ⟨(keep4_len h).2, (keep4_len h).1⟩
  · rename_i hs
    refine ⟨h, h0 ?_⟩
    rcases Nat.eq_zero_or_pos k with rfl | h
    · exact absurd rfl hs
    · exact h
theorem l4_bd {d : Nat → Int} {k : Nat} {L : List Int} {B : Int} (h : ∀ x ∈ L, -B ≤ x ∧ x ≤ B) (hd : -B ≤ d k ∧ d k ≤ B) : ∀ x ∈ l4 d k L, -B ≤ x ∧ x ≤ B := fun x hx => by
  unfold l4 at hx
  split at hx
  · rcases keep4_mem hx with e | e
    · exact h x e
    · rw [e]; exact hd
  · exact h x hx
theorem ST.mid {T : Int} {L : List Int} (h : ST N dr d T L p) : (∀ i, p.mid.ck i = (l4 d p.k L).map (· - d i)) ∧ p.mid.gl = l4 d p.k L := by
  rw [mid_eq (h.on _)]
  refine ⟨fun i => ?_, ?_⟩
  · show (if wsy p.k = true then keep4 (p.ck i) (p.tm p.k - p.tm i) else p.ck i) = _
    unfold l4
    rw [h.ck, h.tm, h.tm, show T + d p.k - (T + d i) = d p.k - d i by omega]
    split
    · rw [keep4_map]
    · rfl
  · show (if wsy p.k = true then keep4 p.gl (p.tm p.k - p.now) else p.gl) = _
    unfold l4
    rw [h.gl, h.tm, h.now, show T + d p.k - T = d p.k by omega]
theorem ST.avg_bd {T : Int} {L : List Int} (h : ST N dr d T L p) (hd0 : 0 ≤ dr) (hd : ∀ i, -dr ≤ d i ∧ d i ≤ dr) : -dr ≤ avg (l4 d p.k L) ∧ avg (l4 d p.k L) ≤ dr :=
  Clk.avg_bound hd0 (l4_bd h.lb (hd _)) (l4_len h.len.1 h.len.2).1
theorem ST.turn {T : Int} {L : List Int} (h : ST N dr d T L p) (hd0 : 0 ≤ dr) (hd : ∀ i, -dr ≤ d i ∧ d i ≤ dr) (i : Nat) : avg (p.mid.ck i) = avg (l4 d p.k L) - d i ∧ wiB (4 * dr + 9) (avg (p.mid.ck i)) = true := by
  have hb := h.avg_bd hd0 hd
  have hi := hd i
  obtain ⟨l1, l2⟩ := l4_len (d := d) h.len.1 h.len.2
  rw [h.mid.1 i, Clk.avg_map_sub _ _ l2 l1]
  refine ⟨rfl, ?_⟩
  unfold wiB
  exact decide_eq_true (by omega)
theorem dr_mul {dr r : Int} (h : 0 ≤ dr ∧ dr ≤ 2) (hr : 1 ≤ r ∧ r ≤ 1000) : 0 ≤ dr * r ∧ dr * r ≤ 2000 ∧ dr * (r + 1) = dr * r + dr := by
  refine ⟨Int.mul_nonneg h.1 (by omega), ?_, by rw [Int.mul_add, Int.mul_one]⟩
  rcases (by omega : dr = 0 ∨ dr = 1 ∨ dr = 2) with rfl | rfl | rfl <;> omega
theorem ST.ok {T : Int} {L : List Int} (h : ST N dr d T L p) (hN : 4 ≤ N ∧ N ≤ 8) (hd0 : 0 ≤ dr ∧ dr ≤ 2) (hd : ∀ i, -dr ≤ d i ∧ d i ≤ dr) : p.Ok N dr := by
  have hr := h.r
  have hk := h.k
  have htb := h.tb
  have hm := dr_mul hd0 h.r
  refine ⟨hN, by omega, by omega, h.k, by rw [h.m]; exact full_lt hN.2, h.st3, fun i hi => by have := h.a i hi; have := aB_le N p.k i hN h.k; omega, fun _ => h.a1 p.k h.k (fun e => ?_), fun i _ => by rw [h.tm]; have := hd i; omega, by rw [h.now]; omega, fun _ => by rw [h.tm, h.now]; have := hd p.k; omega, by rw [h.gl]; exact small_of (B := dr) (by omega) h.lb, by rw [h.si]; omega, h.da, fun _ i _ _ => (h.turn hd0.1 hd i).2⟩
  by_cases e1 : p.k + 1 = N
  · rw [e1, Nat.mod_self] at e; omega
  · rw [Nat.mod_eq_of_lt (by omega)] at e; omega
theorem ST.next {T : Int} {L : List Int} (h : ST N dr d T L p) (hN : 4 ≤ N ∧ N ≤ 8) (hd0 : 0 ≤ dr ∧ dr ≤ 2) (hd : ∀ i, -dr ≤ d i ∧ d i ≤ dr) (hr : p.r < 1000) : ∃ T' L', ST N dr d T' L' (p.next N dr d) ∧ (p.next N dr d).k = (p.k + 1) % N ∧ (p.next N dr d).r ≤ p.r + 1 ∧ ∀ i, i < N → (p.next N dr d).st i = 4 := by
  have hk := h.k
  have hr1 := h.r
  have htb := h.tb
  have hm := dr_mul hd0 h.r
  have hst : ∀ i, i < N → (if i = p.k then 4 else p.st i) = 4 := fun i hi => by
    split
    · rfl
    · rw [h.st i hi, if_neg (by omega)]
  have hst3 : ∀ i, (if i = p.k then 4 else p.st i) = 2 ∨ (if i = p.k then 4 else p.st i) = 3 ∨ (if i = p.k then 4 else p.st i) = 4 := fun i => by
    split
    · exact .inr (.inr rfl)
    · exact h.st3 i
  have hmid := mid_eq (h.on p.k)
  by_cases hlt : p.k + 1 < N
  · have en : p.next N dr d = { p.mid with k := p.k + 1 } := by
      unfold SP.next SP.fwd
      have : p.mid.k = p.k := (SP.mid_on p).2.1
      rw [this, if_pos hlt]
    refine ⟨T, l4 d p.k L, ?_, by rw [en, Nat.mod_eq_of_lt hlt], by rw [en]; show p.mid.r ≤ _; rw [(SP.mid_on p).2.2.1]; omega, fun i hi => by rw [en, hmid]; exact hst i hi⟩
    obtain ⟨c1, c2⟩ := h.mid
    rw [en]
    rw [hmid] at c1 c2 ⊢
    refine ⟨h.on, hr1, hlt, ?_, fun i hi => ?_, hst3, fun i hi => ?_, fun i hi h1 => ?_, h.tm, c1, h.now, c2, ⟨(l4_len h.len.1 h.len.2).1, fun _ => (l4_len h.len.1 h.len.2).2⟩, l4_bd h.lb (hd _), htb, rfl, h.da⟩
    · show ins p.m p.k = 2 ^ N - 1
      rw [h.m, full_has hN.2 hk]
    · show (if i = p.k then 4 else p.st i) = if i = 0 ∧ p.k + 1 = 0 ∧ p.r = 1 then 2 else 4
      rw [hst i hi, if_neg (by omega)]
    · show (if i = p.k then 0 else p.a i + 1) ≤ aB N (p.k + 1) i
      have := h.a i hi
      unfold aB at this ⊢
      split at this <;> split <;> split <;> omega
    · show 0 < if i = p.k then 0 else p.a i + 1
      have h1' : (i + 1) % N ≠ p.k + 1 := h1
      rw [if_neg (fun e => h1' (by rw [e, Nat.mod_eq_of_lt hlt]))]
      omega
  · have en : p.next N dr d = { p.mid with k := 0, r := if p.r < 65535 then p.r + 1 else 0, tm := (fun i => p.tm i + termV (4 * dr + 9) (p.mid.ck i) + d i), ck := (fun _ => []), so := (fun i => (p.mid.so i).age), now := p.now + termV (4 * dr + 9) p.mid.gl, gl := [] } := by
      obtain ⟨m1, m2, m3, m4, m5, m6⟩ := SP.mid_on p
      unfold SP.next SP.fwd
      rw [m2, m3, m4, m5, if_neg hlt]
    have er : (if p.r < 65535 then p.r + 1 else 0) = p.r + 1 := if_pos (by omega)
    have hb := h.avg_bd hd0.1 hd
    have tg : termV (4 * dr + 9) p.mid.gl = avg (l4 d p.k L) := by
      rw [h.mid.2]
      unfold termV
      rw [if_pos]
      unfold wiB
      exact decide_eq_true (by omega)
    have tt : ∀ i, termV (4 * dr + 9) (p.mid.ck i) = avg (l4 d p.k L) - d i := fun i => by
      obtain ⟨e1, e2⟩ := h.turn hd0.1 hd i
      unfold termV
      rw [if_pos e2, e1]
    have hkN : (p.k + 1) % N = 0 := by rw [show p.k + 1 = N by omega]; exact Nat.mod_self N
    refine ⟨T + avg (l4 d p.k L), [], ?_, by rw [en, hkN], by rw [en]; show (if p.r < 65535 then p.r + 1 else 0) ≤ _; rw [er]; omega, fun i hi => by rw [en, hmid]; exact hst i hi⟩
    rw [en]
    refine ⟨?_, ?_, by show 0 < N; omega, ?_, fun i hi => ?_, fun i => ?_, fun i hi => ?_, fun i hi h1 => ?_, fun i => ?_, fun i => rfl, ?_, rfl, ⟨by show 0 ≤ 4; omega, fun x => absurd x (Nat.lt_irrefl 0)⟩, fun x hx => (by cases hx), ?_, ?_, ?_⟩
    · rw [hmid]; exact h.on
    · show 1 ≤ (if p.r < 65535 then p.r + 1 else 0) ∧ (if p.r < 65535 then p.r + 1 else 0) ≤ 1000
      rw [er]; omega
    · show p.mid.m = _
      rw [hmid]
      show ins p.m p.k = 2 ^ N - 1
      rw [h.m, full_has hN.2 hk]
    · show p.mid.st i = if i = 0 ∧ 0 = 0 ∧ (if p.r < 65535 then p.r + 1 else 0) = 1 then 2 else 4
      rw [hmid, er]
      show (if i = p.k then 4 else p.st i) = _
      rw [hst i hi, if_neg (by omega)]
    · show p.mid.st i = 2 ∨ p.mid.st i = 3 ∨ p.mid.st i = 4
      rw [hmid]; exact hst3 i
    · show p.mid.a i ≤ aB N 0 i
      rw [hmid]
      show (if i = p.k then 0 else p.a i + 1) ≤ aB N 0 i
      have := h.a i hi
      unfold aB at this ⊢
      split at this <;> split <;> split <;> omega
    · show 0 < p.mid.a i
      rw [hmid]
      show 0 < if i = p.k then 0 else p.a i + 1
      have h1' : (i + 1) % N ≠ 0 := h1
      rw [if_neg (fun e => h1' (by rw [e]; exact hkN))]
      omega
    · show p.tm i + termV (4 * dr + 9) (p.mid.ck i) + d i = T + avg (l4 d p.k L) + d i
      rw [tt, h.tm]; omega
    · show p.now + termV (4 * dr + 9) p.mid.gl = T + avg (l4 d p.k L)
      rw [tg, h.now]
    · show -(1000 + dr * (if p.r < 65535 then p.r + 1 else 0)) ≤ T + avg (l4 d p.k L) ∧ T + avg (l4 d p.k L) ≤ 1000 + dr * (if p.r < 65535 then p.r + 1 else 0)
      rw [er, hm.2.2]; omega
    · show p.mid.si = 0
      rw [hmid]
    · show ∀ i, (p.mid.da i).length ≤ 8 ∧ bytesL (p.mid.da i)
      rw [hmid]; exact h.da
end
end Go.Proofs.YtjoioojckekfhaaGreat

namespace Go.Proofs.YtjoioojckekfhaaGreat
open Fr (St F)
open Clk (avg)

/-- So many slots behind their beginning. -/
def Wj (N : Nat) (dr : Int) (d : Nat → Int) (al : List R4) (tm : Nat → Int) (da : Nat → List Int) (j : Nat) (u : WM) : Prop :=
  u.sl = j ∧ ((j ≤ 19 ∧ Ls N dr d al tm da j u) ∨ (20 ≤ j ∧ ∃ p, Sy N dr d p u ∧ p.da = da ∧ ((FR N (tm 0) p ∧ p.k = j - 19) ∨ (19 + N ≤ j ∧ ∃ T L, ST N dr d T L p ∧ p.k = (j - 19) % N ∧ p.r ≤ j ∧ (20 + N ≤ j → ∀ i, i < N → p.st i = 4)))))
section
variable {N : Nat} {dr : Int} {d : Nat → Int} {al : List R4} {tm : Nat → Int} {da : Nat → List Int} {j : Nat} {u : WM}
theorem next_da (p : SP) : (p.next N dr d).da = p.da := by
  unfold SP.next
  rw [(SP.fwd_on p.mid N dr d).2.2.2.2.2, (SP.mid_on p).2.2.2.2.2]
theorem Wj.step (h : Wj N dr d al tm da j u) (hN : 4 ≤ N ∧ N ≤ 8) (hd0 : 0 ≤ dr ∧ dr ≤ 2) (hd : ∀ i, -dr ≤ d i ∧ d i ≤ dr) (htm : ∀ i, -1000 ≤ tm i ∧ tm i ≤ 1000) (hda : ∀ i, (da i).length ≤ 8 ∧ bytesL (da i)) (hj : j < 900) : WOk N u ∧ Wj N dr d al tm da (j + 1) (u.slot N) := by
  obtain ⟨hsl, h⟩ := h
  have hsl' : (u.slot N).sl = j + 1 := by show u.sl + 1 = _; rw [hsl]
  rcases h with ⟨hj19, h⟩ | ⟨hj20, p, hS, hpd, h⟩
  · by_cases e : j < 19
    · obtain ⟨w, l⟩ := h.silent hN (by omega) (fun i _ => by have := htm i; omega) e
      exact ⟨w, hsl', .inl ⟨by omega, l⟩⟩
    · obtain rfl : j = 19 := by omega
      obtain ⟨w, s⟩ := h.begins hN (by omega) (fun i _ => by have := htm i; omega) (hda 0).1
      exact ⟨w, hsl', .inr ⟨by omega, p1 da (tm 0), s, rfl, .inl ⟨fr1 da (tm 0) hN hda, rfl⟩⟩⟩
  · have hnd : (p.next N dr d).da = da := by rw [next_da, hpd]
    rcases h with ⟨h, hk⟩ | ⟨hjN, T, L, h, hk, hr, hst⟩
    · have ok := h.ok (dr := dr) hN (by omega) (htm 0)
      refine ⟨hS.wok ok, hsl', .inr ⟨by omega, p.next N dr d, hS.step ok, hnd, ?_⟩⟩
      by_cases hlt : p.k + 1 < N
      · obtain ⟨f, fk⟩ := h.next (dr := dr) (d := d) hN hlt
        exact .inl ⟨f, by rw [fk]; omega⟩
      · have hk2 := h.k
        obtain ⟨f, fk, fr⟩ := h.last (dr := dr) (d := d) hN hd0.1 (by omega) (htm 0)
        refine .inr ⟨by omega, tm 0, [], f, ?_, by rw [fr]; omega, fun h => by omega⟩
        rw [fk, show j + 1 - 19 = N by omega, Nat.mod_self]
    · have ok := h.ok hN hd0 hd
      obtain ⟨T', L', f, fk, fr, fs⟩ := h.next hN hd0 hd (by omega)
      refine ⟨hS.wok ok, hsl', .inr ⟨by omega, p.next N dr d, hS.step ok, hnd, .inr ⟨by omega, T', L', f, ?_, by omega, fun _ => fs⟩⟩⟩
      rw [fk, hk, Nat.mod_add_mod, show j - 19 + 1 = j + 1 - 19 by omega]
/-- All are Active, with one view; their clocks stand apart by their drifts. -/
theorem Wj.up (h : Wj N dr d al tm da j u) (hj : 20 + N ≤ j) : ∃ (r : Int) (k : Nat) (T : Int), ∀ i, i < N → (u.ms i).st = 4 ∧ (u.ms i).rd = r ∧ (u.ms i).sl = k ∧ (u.ms i).ty.m = 2 ^ N - 1 ∧ (u.ms i).tm = T + d i := by
  obtain ⟨-, h⟩ := h
  rcases h with ⟨h1, -⟩ | ⟨-, p, hS, -, h⟩
  · omega
  · rcases h with ⟨h, hk⟩ | ⟨-, T, L, h, -, -, hst⟩
    · have := h.k; omega
    · refine ⟨p.r, p.k, T, fun i hi => ?_⟩
      have hn := hS.nd i hi (h.on i)
      exact ⟨by rw [hn.st]; exact hst hj i hi, hn.rd, hn.sl, by rw [hn.ty]; exact h.m, by rw [hn.tm, h.tm]⟩
/-- A ward of which the first m are on. -/
def wO (N : Nat) (dr : Int) (dl : List Int) (al : List R4) (tm : Nat → Int) (m : Nat) : WM :=
  ⟨fun i => if i < m then lsN N dr (fun i => dl.getD i 0) al tm (fun _ => []) 0 i else NM.new (gsmT N dr) i (dl.getD i 0) al, newG (gsmT N dr), 0⟩
theorem wO_zero (N : Nat) (dr : Int) (dl : List Int) (al : List R4) (tm : Nat → Int) : wO N dr dl al tm 0 = WM.new (gsmT N dr) dl al := by
  unfold wO WM.new
  simp only [Nat.not_lt_zero, if_false]
theorem wO_ms (N : Nat) (dr : Int) (dl : List Int) (al : List R4) (tm : Nat → Int) (m : Nat) : (wO N dr dl al tm m).ms m = NM.new (gsmT N dr) m (dl.getD m 0) al := if_neg (Nat.lt_irrefl m)
theorem new_on (t : Tb.T) (i : Nat) (x : Int) (al : List R4) (a : Int) (ha : -1000 ≤ a ∧ a ≤ 1000) : (NM.new t i x al).onE a = 0 ∧ (NM.new t i x al).on a = { NM.new t i x al with st := 1, tm := a } := by
  have e : (NM.new t i x al).onE a = 0 := by
    unfold NM.onE
    rw [if_neg (by omega), if_neg (fun h => h.1 rfl)]
  refine ⟨e, ?_⟩
  unfold NM.on
  rw [if_pos e]
  rfl
theorem wO_succ (N : Nat) (dr : Int) (dl : List Int) (al : List R4) (tm : Nat → Int) (m : Nat) (h : -1000 ≤ tm m ∧ tm m ≤ 1000) :
    ((wO N dr dl al tm m).ms m).onE (tm m) = 0 ∧ ({ wO N dr dl al tm m with ms := upd' (wO N dr dl al tm m).ms m (((wO N dr dl al tm m).ms m).on (tm m)) } : WM) = wO N dr dl al tm (m + 1) := by
  rw [wO_ms]
  obtain ⟨e1, e2⟩ := new_on (gsmT N dr) m (dl.getD m 0) al (tm m) h
  refine ⟨e1, ?_⟩
  rw [e2]
  refine WM.alike (fun i => ?_) rfl rfl
  show upd' _ m _ i = if i < m + 1 then _ else _
  by_cases e : i = m
  · subst e
    rw [upd'_same, if_pos (Nat.lt_succ_self _)]
    rfl
  · rw [upd'_other _ _ _ e]
    show (if i < m then _ else _) = _
    by_cases h : i < m
    · rw [if_pos h, if_pos (by omega)]
    · rw [if_neg h, if_neg (by omega)]
end
end Go.Proofs.YtjoioojckekfhaaGreat

namespace Go.Proofs.YtjoioojckekfhaaGreat
open Go.RowKit
open Tb (D T)

end Go.Proofs.YtjoioojckekfhaaGreat

namespace Go.Proofs.YtjoioojckekfhaaGreat
open Go.RowKit
open Tb (D T)

theorem WAt.state_ {B : Nat} {P : List Nat} {N x : Nat} {u : WM} {W : World} (h : WAt B P N W x u) (i : Nat) (hi : i < N) : Calls Tryz.prog 17 #[.pointer (some ⟨x, 0, none⟩), .int .i64 (i : Nat)] W fun e w' => e = .returned (.int .i64 ((u.ms i).st : Nat)) ∧ Below W.heap.size W w' := by
  obtain ⟨q, h⟩ := h
  exact wstate_in h i hi
end Go.Proofs.YtjoioojckekfhaaGreat

namespace Go.Proofs.YtjoioojckekfhaaGreat
open Go.RowKit

section
variable {B : Nat} {P : List Nat} {N x : Nat} {u : WM} {W : World}
set_option maxRecDepth 100000 in
set_option maxHeartbeats 4000000 in
theorem active_none (h : WAt B P N W x u) (hN : N ≤ 8) (h4 : ∀ i, i < N → (u.ms i).st ≠ 4) (but : Int) :
    Calls Tryz.prog 47 #[.pointer (some ⟨x, 0, none⟩), .int .i64 but] W fun e w' => e = .returned (.slice none 0 0) ∧ Below W.heap.size W w' := by
  have hn := Lib.hid h.nodes_
  have hst := Lib.hid (fun W' (b : Below W.heap.size W W') i hi => (h.below b).state_ i hi)
  clear h
  go_enter Tryz.func47, Tryz.ntmps47
  go_wp2_with fail
  refine hn.out.mono ?_
  rintro e w1 ⟨rfl, rfl⟩
  go_wp2_with fail
  rename World => w1
  go_loopw [5, 9] (fun v i wr => v = .slice none 0 0 ∧ ∃ k : Nat, k ≤ N ∧ i = .int .i64 k ∧ Below w1.heap.size w1 wr) (fun _ i _ => N - (intOf i).toNat)
  case atStart => exact ⟨rfl, 0, by omega, rfl, Below.refl _ _⟩
  case round =>
    obtain ⟨rfl, k, hk, rfl, hb⟩ := hrel
    by_cases hlt : k < N
    · have q1 : decide ((k : Int) < (N : Nat)) = true := by simp; omega
      have hs := Lib.hid (hst.out _ hb k hlt)
      have hne := h4 k hlt
      have r4 : ((((u.ms k).st : Nat) : Int) == 4) = false := by rw [beq_eq_false_iff_ne]; omega
      have hb := Lib.hid hb
      generalize (u.ms k).st = s at *
      clear hst h4
      go_wp2_with fail
      refine hs.out.mono ?_
      rintro e w2 ⟨rfl, c2⟩
      have hb2 := Lib.hid (hb.out.trans (c2.mono hb.out.size))
      clear hs hb c2
      go_wp2_with fail
      go_roundw
      case rel => exact ⟨rfl, k + 1, by omega, by go_num, hb2.out⟩
      case measure => simp [intOf]; omega
    · obtain rfl : k = N := by omega
      have q1 : decide ((k : Int) < (k : Nat)) = false := by simp
      go_wp2
      go_ret
      exact ⟨rfl, hb⟩
set_option maxRecDepth 100000 in
set_option maxHeartbeats 4000000 in
theorem agree_none (h : WAt B P N W x u) (hN : N ≤ 8) (h4 : ∀ i, i < N → (u.ms i).st ≠ 4) (but : Int) :
    Calls Tryz.prog 30 #[.pointer (some ⟨x, 0, none⟩), .int .i64 but] W fun e w' => e = .returned (.bool true) ∧ Below W.heap.size W w' := by
  have ha := Lib.hid (active_none h hN h4 but)
  clear h h4
  go_enter Tryz.func30, Tryz.ntmps30
  go_wp2_with fail
  refine ha.out.mono ?_
  rintro e w1 ⟨rfl, b1⟩
  go_wp2_with fail
  rename World => w2
  go_loopw [13] (fun i wr => i = .int .i64 0 ∧ Below w2.heap.size w2 wr) (fun _ _ => 0)
  case atStart => exact ⟨rfl, Below.refl _ _⟩
  case round =>
    obtain ⟨rfl, hb⟩ := hrel
    go_wp2
    go_ret
    exact ⟨rfl, b1.trans (hb.mono b1.size)⟩
set_option maxRecDepth 100000 in
set_option maxHeartbeats 4000000 in
theorem spread_none (h : WAt B P N W x u) (hN : N ≤ 8) (h4 : ∀ i, i < N → (u.ms i).st ≠ 4) (but : Int) :
    Calls Tryz.prog 31 #[.pointer (some ⟨x, 0, none⟩), .int .i64 but] W fun e w' => e = .returned (.int .i64 0) ∧ Below W.heap.size W w' := by
  have ha := Lib.hid (active_none h hN h4 but)
  clear h h4
  go_enter Tryz.func31, Tryz.ntmps31
  go_wp2_with fail
  refine ha.out.mono ?_
  rintro e w1 ⟨rfl, b1⟩
  go_wp2_with fail
  go_ret
  exact ⟨rfl, b1⟩
end
end Go.Proofs.YtjoioojckekfhaaGreat

namespace Go.Proofs.YtjoioojckekfhaaGreat
open Go.ChangeShapes Go.WideShapes Go.ChangeAt Go.RowKit Go.Joins Go.Deep

structure A4 where
  k : Int
  n : Int
  A : Option Addr
  c : Nat
  l : List Int
  q : Bool
  deriving Inhabited
/-- The cells of one, and its bytes. -/
structure A4At (w : World) (b off : Nat) (x : A4) : Prop where
  c0 : w.cell? ⟨b, off, none⟩ = some (.int .i64 x.k)
  c1 : w.cell? ⟨b, off + 1, none⟩ = some (.int .i64 x.n)
  c2 : w.cell? ⟨b, off + 2, none⟩ = some (.slice x.A x.l.length x.c)
  c3 : w.cell? ⟨b, off + 3, none⟩ = some (.bool x.q)
structure InA4 (w : World) (v : Value) (n : Nat) (f : Nat → A4) : Prop where
  at_ : ∃ A c, v = .slice A n c ∧ n ≤ c ∧ c ≤ maxLen ∧ (0 < n → ∃ b off, A = some ⟨b, off, none⟩ ∧ b < w.heap.size ∧ ∀ k, k < n → A4At w b (off + k * 4) (f k))
  sees : ∀ k, k < n → SeesL w w.heap.size (.slice (f k).A (f k).l.length (f k).c) (f k).l ∧ bytesL (f k).l
section
variable {H : Type} {enc : TypeId × Value → H} {P : Program} {w : World} {base : Nat} {spare : Nat → Bool} {held : Bool}
end
end Go.Proofs.YtjoioojckekfhaaGreat

namespace Go.Proofs.YtjoioojckekfhaaGreat
open Go.ChangeShapes Go.WideShapes Go.ChangeAt Go.RowKit Go.Joins Go.Deep

section
variable {H : Type} {enc : TypeId × Value → H} {P : Program} {w : World} {base : Nat} {spare : Nat → Bool} {held : Bool}
end
end Go.Proofs.YtjoioojckekfhaaGreat

namespace Go.Proofs.YtjoioojckekfhaaGreat
open Go.ChangeShapes Go.WideShapes Go.ChangeAt Go.RowKit Go.Joins Go.Deep

/-- An act. -/
structure Ac where
  k : Int
  i : Int
  n : Int
  d : List Int
  f : List Ft
instance : Inhabited Ac := ⟨⟨0, 0, 0, [], []⟩⟩
/-- An act's five cells. -/
structure AcAt (W : World) (B b off : Nat) (x : Ac) : Prop where
  c0 : W.cell? ⟨b, off, none⟩ = some (.int .i64 x.k)
  c1 : W.cell? ⟨b, off + 1, none⟩ = some (.int .i64 x.i)
  c2 : W.cell? ⟨b, off + 2, none⟩ = some (.int .i64 x.n)
  c3 : ∃ v, W.cell? ⟨b, off + 3, none⟩ = some v ∧ SeesL W B v x.d
  c4 : ∃ v, W.cell? ⟨b, off + 4, none⟩ = some v ∧ SeesF W B v x.f
/-- Acts in memory. -/
structure SeesAc (W : World) (B : Nat) (v : Value) (l : List Ac) : Prop where
  at_ : ∃ A c, v = .slice A l.length c ∧ l.length ≤ c ∧ c ≤ maxLen ∧ (0 < l.length → ∃ b off, A = some ⟨b, off, none⟩ ∧ b < B ∧ ∀ i, i < l.length → AcAt W B b (off + i * 5) (l.getD i default))
  by_ : ∀ x ∈ l, bytesL x.d
theorem AcAt.below {W W' : World} {B b off : Nat} {x : Ac} (h : AcAt W B b off x) (hb : Below B W W') (hl : b < B) : AcAt W' B b off x := by
  obtain ⟨c0, c1, c2, ⟨v3, c3, s3⟩, v4, c4, s4⟩ := h
  exact ⟨(hb.cell (p := ⟨b, off, none⟩) hl).trans c0, (hb.cell (p := ⟨b, off + 1, none⟩) hl).trans c1, (hb.cell (p := ⟨b, off + 2, none⟩) hl).trans c2, ⟨v3, (hb.cell (p := ⟨b, off + 3, none⟩) hl).trans c3, s3.below hb⟩, v4, (hb.cell (p := ⟨b, off + 4, none⟩) hl).trans c4, s4.below hb⟩
theorem AcAt.more {W : World} {B B' b off : Nat} {x : Ac} (h : AcAt W B b off x) (hB : B ≤ B') : AcAt W B' b off x := by
  obtain ⟨c0, c1, c2, ⟨v3, c3, s3⟩, v4, c4, s4⟩ := h
  exact ⟨c0, c1, c2, ⟨v3, c3, s3.more hB⟩, v4, c4, s4.more hB⟩
theorem SeesAc.below {W W' : World} {B : Nat} {v : Value} {l : List Ac} (h : SeesAc W B v l) (hb : Below B W W') : SeesAc W' B v l := ⟨by
  obtain ⟨A, c, rfl, h1, h2, h3⟩ := h.at_
  refine ⟨A, c, rfl, h1, h2, fun h0 => ?_⟩
  obtain ⟨b, off, rfl, hbB, hc⟩ := h3 h0
  exact ⟨b, off, rfl, hbB, fun i hi => (hc i hi).below hb hbB⟩, h.by_⟩
theorem SeesAc.more {W : World} {B B' : Nat} {v : Value} {l : List Ac} (h : SeesAc W B v l) (hB : B ≤ B') : SeesAc W B' v l := ⟨by
  obtain ⟨A, c, rfl, h1, h2, h3⟩ := h.at_
  refine ⟨A, c, rfl, h1, h2, fun h0 => ?_⟩
  obtain ⟨b, off, rfl, hbB, hc⟩ := h3 h0
  exact ⟨b, off, rfl, by omega, fun i hi => (hc i hi).more hB⟩, h.by_⟩
theorem SeesAc.nil {W : World} {B : Nat} : SeesAc W B (.slice none 0 0) [] := ⟨⟨none, 0, rfl, Nat.le_refl _, Nat.zero_le _, fun h => absurd h (by simp)⟩, fun _ h => by cases h⟩
section
variable {H : Type} {enc : TypeId × Value → H} {P : Program} {w : World} {base : Nat} {spare : Nat → Bool} {held : Bool}
end
end Go.Proofs.YtjoioojckekfhaaGreat

namespace Go.Proofs.YtjoioojckekfhaaGreat
open Tb (D T)

/-- Is a fault fair? -/
def ftFair (w : Int) (f : Ft) : Bool := f.may && (decide (f.k ≠ 5) || decide (f.a = 0)) && (decide (f.k ≠ 6) || (decide (2 * w < f.a) || decide (f.a < -(2 * w))))
theorem ftFair_iff (w : Int) (f : Ft) : ftFair w f = true ↔ f.may = true ∧ (f.k = 5 → f.a = 0) ∧ (f.k = 6 → 2 * w < f.a ∨ f.a < -(2 * w)) := by
  unfold ftFair
  simp only [Bool.and_eq_true, Bool.or_eq_true, decide_eq_true_eq]
  exact ⟨fun ⟨⟨h1, h2⟩, h3⟩ => ⟨h1, fun e => by omega, fun e => by omega⟩, fun ⟨h1, h2, h3⟩ => ⟨⟨h1, by omega⟩, by omega⟩⟩
/-- Are a slot's faults fair? -/
def fsFair (w : Int) (l : List Ft) : Bool := decide (l.length = 1) && ftFair w (l.getD 0 default)
/-- How many slots without faults there were, behind one act more; none: it is not fair. -/
def auStep (r : Nat) (w : Int) (q : Option Nat) (a : Ac) : Option Nat := q.bind fun q => if a.k = 3 ∨ a.k = 4 then some q else if a.k ≠ 5 then none else if a.f.length = 0 then some (q + 1) else if q < r ∨ fsFair w a.f = false then none else some 0
def auAt (r : Nat) (w : Int) (l : List Ac) (k : Nat) : Option Nat := (l.take k).foldl (auStep r w) (some r)
theorem auAt_zero (r : Nat) (w : Int) (l : List Ac) : auAt r w l 0 = some r := rfl
theorem auAt_succ (r : Nat) (w : Int) (l : List Ac) (k : Nat) (hk : k < l.length) : auAt r w l (k + 1) = auStep r w (auAt r w l k) (l.getD k default) := by
  unfold auAt
  rw [List.take_add_one, List.foldl_append, List.getD_eq_getElem?_getD, List.getElem?_eq_getElem hk]
  rfl
theorem auAt_none (r : Nat) (w : Int) (l : List Ac) (k : Nat) (hk : k ≤ l.length) (h : auAt r w l k = none) : auAt r w l l.length = none := by
  have : ∀ d, k + d ≤ l.length → auAt r w l (k + d) = none := by
    intro d
    induction d with
    | zero => intro _; exact h
    | succ d ih => intro hd; rw [← Nat.add_assoc, auAt_succ r w l (k + d) (by omega), ih (by omega)]; rfl
  have := this (l.length - k) (by omega)
  rwa [show k + (l.length - k) = l.length by omega] at this
theorem auAt_le (r : Nat) (w : Int) (l : List Ac) : ∀ k q, k ≤ l.length → auAt r w l k = some q → q ≤ r + k
  | 0, q, _, h => by rw [auAt_zero] at h; cases h; omega
  | k + 1, q, hk, h => by
    rw [auAt_succ r w l k (by omega)] at h
    cases he : auAt r w l k with
    | none => rw [he] at h; cases h
    | some q' =>
      have := auAt_le r w l k q' (by omega) he
      rw [he] at h
      simp only [auStep, Option.bind_some] at h
      split at h
      · cases h; omega
      · split at h
        · cases h
        · split at h
          · cases h; omega
          · split at h <;> cases h; omega
/-- Is a script fair? -/
def auFair (t : T) (l : List Ac) : Bool := t.is && (auAt (3 * t.ns.length) t.wi l l.length).isSome

/-- Which nodes are hit by one fault more. -/
def hitF (m : Nat) (f : Ft) : Nat := if f.k ≠ 4 ∧ f.k ≠ 7 ∧ 0 ≤ f.n ∧ f.n < 8 then ins m f.n.toNat else m
def hitFs (m : Nat) (l : List Ft) (k : Nat) : Nat := (l.take k).foldl hitF m
def hitA (m : Nat) (a : Ac) : Nat := if a.k = 5 then hitFs m a.f a.f.length else m
def hitAs (l : List Ac) (k : Nat) : Nat := (l.take k).foldl hitA 0
theorem hitF_lt {m : Nat} (h : m < 256) (f : Ft) : hitF m f < 256 := by
  unfold hitF
  split
  · exact ins_lt h (by omega)
  · exact h
theorem hitFs_zero (m : Nat) (l : List Ft) : hitFs m l 0 = m := rfl
theorem hitFs_succ (m : Nat) (l : List Ft) (k : Nat) (hk : k < l.length) : hitFs m l (k + 1) = hitF (hitFs m l k) (l.getD k default) := by
  unfold hitFs
  rw [List.take_add_one, List.foldl_append, List.getD_eq_getElem?_getD, List.getElem?_eq_getElem hk]
  rfl
theorem hitFs_lt {m : Nat} (h : m < 256) (l : List Ft) (k : Nat) : hitFs m l k < 256 := by
  unfold hitFs
  generalize l.take k = l'
  induction l' generalizing m with
  | nil => exact h
  | cons x l ih => exact ih (hitF_lt h x)
theorem hitA_lt {m : Nat} (h : m < 256) (a : Ac) : hitA m a < 256 := by
  unfold hitA
  split
  · exact hitFs_lt h _ _
  · exact h
theorem hitAs_zero (l : List Ac) : hitAs l 0 = 0 := rfl
theorem hitAs_succ (l : List Ac) (k : Nat) (hk : k < l.length) : hitAs l (k + 1) = hitA (hitAs l k) (l.getD k default) := by
  unfold hitAs
  rw [List.take_add_one, List.foldl_append, List.getD_eq_getElem?_getD, List.getElem?_eq_getElem hk]
  rfl
theorem hitAs_lt (l : List Ac) (k : Nat) : hitAs l k < 256 := by
  unfold hitAs
  generalize l.take k = l'
  have : ∀ m, m < 256 → List.foldl hitA m l' < 256 := by
    induction l' with
    | nil => intro m h; exact h
    | cons x l ih => intro m h; exact ih _ (hitA_lt h x)
  exact this 0 (by omega)
/-- Which nodes a script hits. -/
def auHit (l : List Ac) : Nat := hitAs l l.length
end Go.Proofs.YtjoioojckekfhaaGreat

namespace Go.Proofs.YtjoioojckekfhaaGreat
open Go.RowKit
open Tb (D T)

set_option maxRecDepth 100000 in
set_option maxHeartbeats 4000000 in
theorem fair_au (dr wi lm : Int) (TA : Option Addr) (tn tc : Nat) (v : Value) (l : List Ft) (w : World) (hw : 0 ≤ wi ∧ wi ≤ 1000) (hs : SeesF w w.heap.size v l) :
    Calls Tryz.prog 68 #[.agg #[.slice TA tn tc, .int .i64 dr, .int .i64 wi, .int .i64 lm], v] w fun e w' => e = .returned (.bool (fsFair wi l)) ∧ Below w.heap.size w w' := by
  have hb0 := (Below.refl w.heap.size w).alloc (Nat.le_refl _) (.cells #[.slice TA tn tc, .int .i64 dr, .int .i64 wi, .int .i64 lm] 29)
  have hT := Blk.new w _ rfl #[.slice TA tn tc, .int .i64 dr, .int .i64 wi, .int .i64 lm] 29
  have hs0 := (hs.below hb0).more (B' := (w.alloc (.cells #[.slice TA tn tc, .int .i64 dr, .int .i64 wi, .int .i64 lm] 29)).heap.size) (by simp)
  have hI := Lib.hid (is_sr v l _ hs0)
  obtain ⟨A, c, rfl, hlen, hc, hcell⟩ := hs.at_
  by_cases h1 : l.length = 1
  · obtain ⟨f, rfl⟩ := List.length_eq_one_iff.1 h1
    obtain ⟨b, off, rfl, hbb, hd⟩ := hcell (by simp)
    obtain ⟨c0, c1, c2, u, c3, hu⟩ := hd 0 (by simp)
    simp only [Nat.zero_mul, Nat.add_zero, List.getD_cons_zero] at c0 c1 c2 c3 hu
    obtain ⟨A', cc, rfl, -⟩ := hu.at_
    have K := Lib.hid (ftFair_iff wi f)
    have ef : fsFair wi [f] = ftFair wi f := by simp [fsFair]
    have ei : ftIs [f] = f.may := by simp [ftIs]
    have em := Lib.hid (ftMay_iff f.k f.n f.a f.d.length)
    rw [ef]
    rw [ei] at hI
    change Hid (f.may = true ↔ _) at em
    change Hid (Calls _ _ #[.slice (some ⟨b, off, none⟩) 1 c] _ _) at hI
    generalize ftFair wi f = q at *
    cases hm : f.may
    · rw [hm] at hI K
      go_enter Tryz.func68, Tryz.ntmps68
      go_wp2_with fail
      refine hI.out.mono ?_
      rintro e w1 ⟨rfl, hb⟩
      go_wp2
      go_ret
      refine ⟨?_, hb0.trans (hb.mono hb0.size)⟩
      have K := K.out
      cases q <;> simp at K ⊢
    · rw [hm] at hI K em
      have ha : -1000 ≤ f.a ∧ f.a ≤ 1000 := by have := em.out.1 rfl; omega
      have z1 : IntKind.i64.wrap (2 * wi) = 2 * wi := IntWalk.i64_in _ (by omega)
      have z2 : IntKind.i64.wrap (-f.a) = -f.a := IntWalk.i64_in _ (by omega)
      go_enter Tryz.func68, Tryz.ntmps68
      go_wp2_with fail
      refine hI.out.mono ?_
      rintro e w1 ⟨rfl, hb⟩
      have hB := hb0.trans (hb.mono hb0.size)
      have hl0 : w.heap.size < w1.heap.size := by have := hb.size; simp at this; omega
      have t2 := (hT.below hb (by simp)).cell 2 rfl
      have c0 := (hB.cell (p := ⟨b, off, none⟩) hbb).trans c0
      have c1 := (hB.cell (p := ⟨b, off + 1, none⟩) hbb).trans c1
      have c2 := (hB.cell (p := ⟨b, off + 2, none⟩) hbb).trans c2
      have c3 := (hB.cell (p := ⟨b, off + 3, none⟩) hbb).trans c3
      have hB2 := Lib.hid (hB.alloc hB.size (.cells #[.int .i64 f.k, .int .i64 f.n, .int .i64 f.a, .slice A' f.d.length cc] 81))
      clear hb0 hs0 hs hI em hd hcell hu hT hb
      generalize f.a = a at *
      generalize f.k = k at *
      by_cases h5 : k = 5
      · subst h5
        go_wp2
        go_ret
        refine ⟨?_, hB2.out⟩
        have K := K.out
        by_cases h0 : a = 0
        · subst h0; cases q <;> simp at K ⊢
        · cases q <;> simp [h0] at K ⊢
      · by_cases h6 : k = 6
        · subst h6
          by_cases hp : a < -a
          · have r1 : decide (a < -a) = true := decide_eq_true hp
            go_wp2
            go_ret
            refine ⟨?_, hB2.out⟩
            have K := K.out
            cases q <;> simp at K ⊢ <;> omega
          · have r1 : decide (a < -a) = false := decide_eq_false hp
            go_wp2
            go_ret
            refine ⟨?_, hB2.out⟩
            have K := K.out
            cases q <;> simp at K ⊢ <;> omega
        · have r5 : (k == 5) = false := by rw [beq_eq_false_iff_ne]; exact h5
          have r6 : (k == 6) = false := by rw [beq_eq_false_iff_ne]; exact h6
          go_wp2
          go_ret
          refine ⟨?_, hB2.out⟩
          have K := K.out
          cases q <;> simp [h5, h6] at K ⊢
  · have q1 : ((l.length : Int) == 1) = false := by rw [beq_eq_false_iff_ne]; omega
    have ef : fsFair wi l = false := by simp [fsFair, h1]
    rw [ef]
    generalize l.length = n at *
    go_enter Tryz.func68, Tryz.ntmps68
    go_wp2
    go_ret
    exact ⟨rfl, hb0⟩
end Go.Proofs.YtjoioojckekfhaaGreat

namespace Go.Proofs.YtjoioojckekfhaaGreat
open Go.RowKit
open Tb (D T)

end Go.Proofs.YtjoioojckekfhaaGreat

namespace Go.Proofs.YtjoioojckekfhaaGreat
open Go.RowKit
open Tb (D T)

theorem is_win {t : T} (h : t.is = true) : (0 ≤ t.wi ∧ t.wi ≤ 1000) ∧ t.ns.length ≤ 8 := by
  simp only [T.is, Tb.are, Tb.rest, Bool.and_eq_true, Tb.wi_iff] at h
  omega
set_option maxRecDepth 100000 in
set_option maxHeartbeats 4000000 in
theorem Fair_au (t : T) (tv v : Value) (l : List Ac) (w : World) (htv : SeesT w w.heap.size tv t.ns) (hs : SeesAc w w.heap.size v l) (hl : l.length < 1000000) :
    Calls Tryz.prog 50 #[tabV t tv, v] w fun e w' => e = .returned (.bool (auFair t l)) ∧ Below w.heap.size w w' := by
  obtain ⟨TA, tc, rfl, htc, -⟩ := htv.at_
  have hIs := fun W (h : SeesT W W.heap.size (.slice TA t.ns.length tc) t.ns) => Lib.hid (is_tb t _ W _ (Nat.le_refl _) h)
  have hwin := @is_win t
  obtain ⟨ns, dr, wi, lm⟩ := t
  simp only at htv hs hIs hwin
  unfold tabV at hIs ⊢
  simp only at hIs ⊢
  have hb0 := (Below.refl w.heap.size w).alloc (Nat.le_refl _) (.cells #[.slice TA ns.length tc, .int .i64 dr, .int .i64 wi, .int .i64 lm] 29)
  have hT := Blk.new w _ rfl #[.slice TA ns.length tc, .int .i64 dr, .int .i64 wi, .int .i64 lm] 29
  have hI := hIs _ ((htv.below hb0).more (by simp))
  have hs0 := (hs.below hb0).more (B' := (w.alloc (.cells #[.slice TA ns.length tc, .int .i64 dr, .int .i64 wi, .int .i64 lm] 29)).heap.size) (by simp)
  have hz0 := hT.lt
  cases his : T.is ⟨ns, dr, wi, lm⟩
  · have er : auFair ⟨ns, dr, wi, lm⟩ l = false := by simp [auFair, his]
    rw [er]
    rw [his] at hI
    clear hIs
    obtain ⟨A, c, rfl, -⟩ := hs.at_
    go_enter Tryz.func50, Tryz.ntmps50
    go_wp2_with fail
    refine hI.out.mono ?_
    rintro e w1 ⟨rfl, hb⟩
    go_wp2
    go_ret
    exact ⟨rfl, hb0.trans (hb.mono hb0.size)⟩
  · obtain ⟨hw, hn8⟩ := hwin his
    have er : auFair ⟨ns, dr, wi, lm⟩ l = (auAt (3 * ns.length) wi l l.length).isSome := by simp [auFair, his]
    rw [er]
    rw [his] at hI
    have hF := fun u f W (h : SeesF W W.heap.size u f) => Lib.hid (fair_au dr wi lm TA ns.length tc u f W hw h)
    have hZ := Lib.hid (auAt_zero (3 * ns.length) wi l)
    have hS := fun k h => Lib.hid (auAt_succ (3 * ns.length) wi l k h)
    have hN := fun k h1 h2 => Lib.hid (auAt_none (3 * ns.length) wi l k h1 h2)
    have hQ := fun k q h1 h2 => auAt_le (3 * ns.length) wi l k q h1 h2
    have z3 : IntKind.i64.wrap (3 * (ns.length : Int)) = 3 * ns.length := IntWalk.i64_in _ (by omega)
    clear hIs er his hwin htv htc
    generalize ns.length = n at *
    obtain ⟨A, c, rfl, hlen, hc, hcell⟩ := hs.at_
    unfold maxLen at hc
    clear hs0 hs
    go_enter Tryz.func50, Tryz.ntmps50
    go_wp2_with fail
    refine hI.out.mono ?_
    rintro e w1 ⟨rfl, hb⟩
    have hB1 := hb0.trans (hb.mono hb0.size)
    have hT1 := hT.below hb hz0
    have t0 := hT1.cell 0 rfl
    clear hT hb hI hb0 hz0
    go_wp2_with fail
    clear t0
    go_loopw [6, 19] (fun q i wr => ∃ k Q : Nat, k ≤ l.length ∧ i = .int .i64 k ∧ q = .int .i64 Q ∧ Hid (auAt (3 * n) wi l k = some Q) ∧ Blk wr w.heap.size #[.slice TA n tc, .int .i64 dr, .int .i64 wi, .int .i64 lm] 29 ∧ Below w.heap.size w wr) (fun _ i _ => l.length - (intOf i).toNat)
    case atStart => exact ⟨0, 3 * n, by omega, rfl, by push_cast; rfl, hZ, hT1, hB1⟩
    case round =>
      clear hT1 hB1
      obtain ⟨k, Q, hk, rfl, rfl, hq, hT, hB⟩ := hrel
      by_cases hlt : k < l.length
      · have q1 : decide ((k : Int) < (l.length : Nat)) = true := by simp; omega
        obtain ⟨b, off, rfl, hbb, hd⟩ := hcell (by omega)
        obtain ⟨c0, c1, c2, ⟨vd, c3, sd⟩, vf, c4, sf⟩ := (hd k hlt).below hB hbb
        have hQle := hQ k Q hk hq.out
        have hS := hS k hlt
        have hN := fun h => hN (k + 1) (by omega) h
        have hS : Hid (auAt (3 * n) wi l (k + 1) = auStep (3 * n) wi (some Q) (l.getD k default)) := Lib.hid (by rw [hS.out, hq.out])
        clear hd hcell hq hQ
        generalize l.getD k default = x at *
        obtain ⟨Ad, cd, rfl, -⟩ := sd.at_
        obtain ⟨Af, cf, rfl, -⟩ := sf.at_
        have z1 : IntKind.i64.wrap ((Q : Int) + 1) = (Q : Int) + 1 := IntWalk.i64_in _ (by omega)
        have hBx := Lib.hid (hB.alloc hB.size (.cells #[.int .i64 x.k, .int .i64 x.i, .int .i64 x.n, .slice Ad x.d.length cd, .slice Af x.f.length cf] 39))
        have hTx := hT.alloc (.cells #[.int .i64 x.k, .int .i64 x.i, .int .i64 x.n, .slice Ad x.d.length cd, .slice Af x.f.length cf] 39)
        have t0 := hTx.cell 0 rfl
        have t1 := hTx.cell 1 rfl
        have t2 := hTx.cell 2 rfl
        have t3 := hTx.cell 3 rfl
        have sfx := hF _ _ _ ((sf.below ((Below.refl w.heap.size wr).alloc hB.size (.cells #[.int .i64 x.k, .int .i64 x.i, .int .i64 x.n, .slice Ad x.d.length cd, .slice Af x.f.length cf] 39))).more hBx.out.size)
        have hTx := Lib.hid hTx
        clear hF hT hB sf sd
        have hlt2 : wr.heap.size < (wr.alloc (.cells #[.int .i64 x.k, .int .i64 x.i, .int .i64 x.n, .slice Ad x.d.length cd, .slice Af x.f.length cf] 39)).heap.size := by simp
        generalize x.d.length = nd at *
        generalize hnf : x.f.length = nf at *
        have hnf := Lib.hid hnf
        generalize hxk : x.k = xk at *
        have hxk := Lib.hid hxk
        have eS : auStep (3 * n) wi (some Q) x = if xk = 3 ∨ xk = 4 then some Q else if xk ≠ 5 then none else if nf = 0 then some (Q + 1) else if Q < 3 * n ∨ fsFair wi x.f = false then none else some 0 := by
          rw [← hxk.out, ← hnf.out]; rfl
        rw [eS] at hS
        clear eS hxk hnf
        generalize fsFair wi x.f = m at *
        by_cases h34 : xk = 3 ∨ xk = 4
        · rw [if_pos h34] at hS
          rcases h34 with rfl | rfl
          all_goals
            go_wp2
            go_roundw
            case rel => exact ⟨k + 1, Q, by omega, by go_num, rfl, hS, hTx.out, hBx.out⟩
            case measure => simp [intOf]; omega
        · rw [if_neg h34] at hS
          have r3 : (xk == 3) = false := by rw [beq_eq_false_iff_ne]; omega
          have r4 : (xk == 4) = false := by rw [beq_eq_false_iff_ne]; omega
          by_cases h5 : xk = 5
          · subst h5
            rw [if_neg (by omega)] at hS
            by_cases h0 : nf = 0
            · rw [if_pos h0] at hS
              subst h0
              go_wp2
              go_roundw
              case rel => exact ⟨k + 1, Q + 1, by omega, by go_num, by push_cast; rfl, hS, hTx.out, hBx.out⟩
              case measure => simp [intOf]; omega
            · rw [if_neg h0] at hS
              have r0 : ((nf : Int) == 0) = false := by rw [beq_eq_false_iff_ne]; omega
              by_cases hQ3 : Q < 3 * n
              · have r6 : decide ((Q : Int) < 3 * (n : Int)) = true := decide_eq_true (by omega)
                rw [if_pos (.inl hQ3)] at hS
                go_wp2
                go_ret
                exact ⟨by rw [hN hS.out]; rfl, hBx.out⟩
              · have r6 : decide ((Q : Int) < 3 * (n : Int)) = false := decide_eq_false (by omega)
                cases m
                all_goals
                  go_wp2_with fail
                  refine sfx.out.mono ?_
                  rintro e w3 ⟨rfl, hb3⟩
                  have hB3 := hBx.out.trans (hb3.mono hBx.out.size)
                  have hT3 := hTx.out.below hb3 (Nat.lt_of_lt_of_le hTx.out.lt (Nat.le_refl _))
                  clear sfx hTx hBx t0 t1 t2 t3
                  go_wp2
                · go_ret
                  exact ⟨by rw [hN (by rw [hS.out]; simp)]; rfl, hB3⟩
                · go_roundw
                  case rel => exact ⟨k + 1, 0, by omega, by go_num, rfl, Lib.hid (by rw [hS.out]; simp [hQ3]), hT3, hB3⟩
                  case measure => simp [intOf]; omega
          · have r5 : (xk == 5) = false := by rw [beq_eq_false_iff_ne]; exact h5
            rw [if_pos h5] at hS
            go_wp2
            go_ret
            exact ⟨by rw [hN hS.out]; rfl, hBx.out⟩
      · obtain rfl : k = l.length := by omega
        have q1 : decide ((l.length : Int) < (l.length : Nat)) = false := by simp
        go_wp2
        go_ret
        exact ⟨by rw [hq.out]; rfl, hB⟩
end Go.Proofs.YtjoioojckekfhaaGreat

namespace Go.Proofs.YtjoioojckekfhaaGreat
open Go.RowKit
open Tb (D T)

end Go.Proofs.YtjoioojckekfhaaGreat

namespace Go.Proofs.YtjoioojckekfhaaGreat
open Go.RowKit

set_option maxRecDepth 100000 in
set_option maxHeartbeats 4000000 in
theorem Hit_au (v : Value) (l : List Ac) (w : World) (hs : SeesAc w w.heap.size v l) :
    Calls Tryz.prog 49 #[v] w fun e w' => e = .returned (.int .i64 (auHit l : Nat)) ∧ Below w.heap.size w w' := by
  unfold auHit
  obtain ⟨A, c, rfl, hlen, hc, hcell⟩ := hs.at_
  unfold maxLen at hc
  have hZ := Lib.hid (hitAs_zero l)
  have hS := fun k h => Lib.hid (hitAs_succ l k h)
  have hL := fun k => hitAs_lt l k
  clear hs
  go_enter Tryz.func49, Tryz.ntmps49
  go_wp2
  go_loopw [3, 10] (fun m i wr => ∃ k : Nat, k ≤ l.length ∧ i = .int .i64 k ∧ m = .int .i64 (hitAs l k : Nat) ∧ Below w.heap.size w wr) (fun _ i _ => l.length - (intOf i).toNat)
  case atStart => exact ⟨0, by omega, rfl, rfl, Below.refl _ _⟩
  case round =>
    obtain ⟨k, hk, rfl, rfl, hB⟩ := hrel
    rename World => w1
    by_cases hlt : k < l.length
    · have q1 : decide ((k : Int) < (l.length : Nat)) = true := by simp; omega
      obtain ⟨b, off, rfl, hbb, hd⟩ := hcell (by omega)
      obtain ⟨c0, c1, c2, ⟨vd, c3, sd⟩, vf, c4, sf⟩ := (hd k hlt).below hB hbb
      have hS := hS k hlt
      have hM := hL k
      generalize hitAs l k = M at *
      generalize l.getD k default = x at *
      clear hcell hL hZ
      obtain ⟨Ad, cd, rfl, -⟩ := sd.at_
      obtain ⟨Af, cf, rfl, hl0, hcf, hff⟩ := sf.at_
      unfold maxLen at hcf
      have hBx := Lib.hid (hB.alloc hB.size (.cells #[.int .i64 x.k, .int .i64 x.i, .int .i64 x.n, .slice Ad x.d.length cd, .slice Af x.f.length cf] 39))
      have hA : Hid (hitA M x = if x.k = 5 then hitFs M x.f x.f.length else M) := Lib.hid rfl
      by_cases h5 : x.k = 5
      · rw [if_pos h5] at hA
        rw [h5] at c0
        have cc4 : (w1.alloc (.cells #[.int .i64 5, .int .i64 x.i, .int .i64 x.n, .slice Ad x.d.length cd, .slice Af x.f.length cf] 39)).cell? ⟨b, off + k * 5 + 4, none⟩ = some (.slice Af x.f.length cf) := (World.cell?_alloc_lt _ _ _ (Nat.lt_of_lt_of_le hbb hB.size)).trans c4
        have hFz := Lib.hid (hitFs_zero M x.f)
        have hFs := fun j h => Lib.hid (hitFs_succ M x.f j h)
        have hFl := fun j => hitFs_lt hM x.f j
        have hBy := hBx
        rw [h5] at hBy
        clear hBx
        go_wp2
        go_loopw [3, 20] (fun m i wr => ∃ j : Nat, j ≤ x.f.length ∧ i = .int .i64 j ∧ m = .int .i64 (hitFs M x.f j : Nat) ∧ Below w1.heap.size w1 wr) (fun _ i _ => x.f.length - (intOf i).toNat)
        case atStart => exact ⟨0, by omega, rfl, rfl, (Below.refl _ _).alloc (Nat.le_refl _) _⟩
        case round =>
          obtain ⟨j, hj, rfl, rfl, hBj⟩ := hrel
          have cz4 := (hBj.cell (p := ⟨b, off + k * 5 + 4, none⟩) (Nat.lt_of_lt_of_le hbb hB.size)).trans c4
          by_cases hlj : j < x.f.length
          · have q2 : decide ((j : Int) < (x.f.length : Nat)) = true := by simp; omega
            obtain ⟨g, go, rfl, hgb, hg⟩ := hff (by omega)
            obtain ⟨g0, g1, g2, u, g3, hu⟩ := hg j hlj
            obtain ⟨A', cc, rfl, -⟩ := hu.at_
            have hgw : g < w1.heap.size := Nat.lt_of_lt_of_le hgb hB.size
            have g0 := (hBj.cell (p := ⟨g, go + j * 4, none⟩) hgw).trans g0
            have g1 := (hBj.cell (p := ⟨g, go + j * 4 + 1, none⟩) hgw).trans g1
            have g2 := (hBj.cell (p := ⟨g, go + j * 4 + 2, none⟩) hgw).trans g2
            have g3 := (hBj.cell (p := ⟨g, go + j * 4 + 3, none⟩) hgw).trans g3
            have hFs := hFs j hlj
            have hm := hFl j
            generalize hitFs M x.f j = m at *
            have hBz := Lib.hid (hBj.alloc hBj.size (.cells #[.int .i64 (x.f.getD j default).k, .int .i64 (x.f.getD j default).n, .int .i64 (x.f.getD j default).a, .slice A' (x.f.getD j default).d.length cc] 81))
            generalize x.f.getD j default = f at *
            have hH : Hid (hitF m f = if f.k ≠ 4 ∧ f.k ≠ 7 ∧ 0 ≤ f.n ∧ f.n < 8 then ins m f.n.toNat else m) := Lib.hid rfl
            clear hff hg hu hFz hFl
            generalize f.d.length = dl at *
            generalize f.a = fa at *
            by_cases hc8 : f.k ≠ 4 ∧ f.k ≠ 7 ∧ 0 ≤ f.n ∧ f.n < 8
            · rw [if_pos hc8] at hH
              obtain ⟨h4, h7, hn0, hn8⟩ := hc8
              obtain ⟨fn, efn⟩ : ∃ fn : Nat, f.n = fn := ⟨f.n.toNat, by omega⟩
              rw [efn] at g1 hBz hH hn0 hn8
              simp only [Int.toNat_natCast] at hH
              have r4 : (f.k == 4) = false := by rw [beq_eq_false_iff_ne]; exact h4
              have r7 : (f.k == 7) = false := by rw [beq_eq_false_iff_ne]; exact h7
              have n4 : (f.k != 4) = true := by rw [bne, r4]; rfl
              have n7 : (f.k != 7) = true := by rw [bne, r7]; rfl
              have r0 : decide ((0 : Int) ≤ (fn : Int)) = true := decide_eq_true (by omega)
              have r8 : decide ((fn : Int) < 8) = true := decide_eq_true (by omega)
              have r9 : decide ((fn : Int) ≤ 7) = true := decide_eq_true (by omega)
              have r8n : decide (fn < 8) = true := decide_eq_true (by omega)
              have r9n : decide (fn ≤ 7) = true := decide_eq_true (by omega)
              have o1 := or_w hm (show fn < 8 by omega)
              have wu : IntKind.u64.wrap (fn : Int) = fn := by rw [IntKind.wrap_u64]; omega
              generalize f.k = fk at *
              go_wp2
              go_roundw
              case rel => exact ⟨j + 1, by omega, by go_num, by rw [hFs.out, hH.out], hBz.out⟩
              case measure => simp [intOf]; omega
            · rw [if_neg hc8] at hH
              generalize f.n = fn at *
              by_cases h4 : f.k = 4
              · rw [h4] at g0 hBz
                go_wp2
                go_roundw
                case rel => exact ⟨j + 1, by omega, by go_num, by rw [hFs.out, hH.out], hBz.out⟩
                case measure => simp [intOf]; omega
              · have r4 : (f.k == 4) = false := by rw [beq_eq_false_iff_ne]; exact h4
                by_cases h7 : f.k = 7
                · rw [h7] at g0 hBz
                  go_wp2
                  go_roundw
                  case rel => exact ⟨j + 1, by omega, by go_num, by rw [hFs.out, hH.out], hBz.out⟩
                  case measure => simp [intOf]; omega
                · have r7 : (f.k == 7) = false := by rw [beq_eq_false_iff_ne]; exact h7
                  generalize f.k = fk at *
                  by_cases h0 : 0 ≤ fn
                  · have r0 : decide ((0 : Int) ≤ fn) = true := decide_eq_true (by omega)
                    have r8 : decide (fn < (8 : Int)) = false := decide_eq_false (by omega)
                    have r9 : decide (fn ≤ (7 : Int)) = false := decide_eq_false (by omega)
                    go_wp2
                    go_roundw
                    case rel => exact ⟨j + 1, by omega, by go_num, by rw [hFs.out, hH.out], hBz.out⟩
                    case measure => simp [intOf]; omega
                  · have r0 : decide ((0 : Int) ≤ fn) = false := decide_eq_false (by omega)
                    go_wp2
                    go_roundw
                    case rel => exact ⟨j + 1, by omega, by go_num, by rw [hFs.out, hH.out], hBz.out⟩
                    case measure => simp [intOf]; omega
          · obtain rfl : j = x.f.length := by omega
            have q2 : decide ((x.f.length : Int) < (x.f.length : Nat)) = false := by simp
            have hBk := hB.trans (hBj.mono hB.size)
            go_wp2
            go_roundw
            case rel => exact ⟨k + 1, by omega, by go_num, by rw [hS.out, hA.out], hBk⟩
            case measure => simp [intOf]; omega
      · rw [if_neg h5] at hA
        have r5 : (x.k == 5) = false := by rw [beq_eq_false_iff_ne]; exact h5
        generalize x.k = xk at *
        go_wp2
        go_roundw
        case rel => exact ⟨k + 1, by omega, by go_num, by rw [hS.out, hA.out], hBx.out⟩
        case measure => simp [intOf]; omega
    · obtain rfl : k = l.length := by omega
      have q1 : decide ((l.length : Int) < (l.length : Nat)) = false := by simp
      go_wp2
      go_ret
      exact ⟨rfl, hB⟩
end Go.Proofs.YtjoioojckekfhaaGreat

namespace Go.Proofs.YtjoioojckekfhaaGreat
open Go.RowKit
open Tb (D T)

/-- The least that listens, of the first k. -/
def leastL (l : List D) (k : Nat) : Int := (l.take k).foldl (fun m d => min m d.li) 200
theorem leastL_zero (l : List D) : leastL l 0 = 200 := rfl
theorem leastL_succ (l : List D) (k : Nat) (hk : k < l.length) : leastL l (k + 1) = if (l.getD k default).li < leastL l k then (l.getD k default).li else leastL l k := by
  unfold leastL
  rw [List.take_add_one, List.foldl_append, List.getD_eq_getElem?_getD, List.getElem?_eq_getElem hk]
  show min _ _ = _
  simp only [Option.getD_some, Int.min_def]
  split <;> split <;> omega
theorem is_few {t : T} (h : t.is = true) : 4 ≤ t.ns.length ∧ t.ns.length ≤ 8 := by
  simp only [T.is, Tb.are, Bool.and_eq_true, Tb.wi_iff] at h
  omega
theorem is_li {t : T} (h : t.is = true) (k : Nat) (hk : k < t.ns.length) : 0 ≤ (t.ns.getD k default).li ∧ (t.ns.getD k default).li ≤ 200 := by
  simp only [T.is, Tb.are, Bool.and_eq_true, Tb.wi_iff, Tb.oks_iff] at h
  have := h.1.2.1 k hk
  simp only [Tb.ok, Bool.and_eq_true, Tb.wi_iff] at this
  omega
theorem leastL_bd {t : T} (h : t.is = true) : ∀ k, k ≤ t.ns.length → 0 ≤ leastL t.ns k ∧ leastL t.ns k ≤ 200
  | 0, _ => by rw [leastL_zero]; omega
  | k + 1, hk => by
    have h1 := leastL_bd h k (by omega)
    have h2 := is_li h k (by omega)
    rw [leastL_succ _ _ (by omega)]
    split <;> omega
def leadV (t : T) : Int := if t.is then leastL t.ns t.ns.length + t.ns.length else 0
set_option maxRecDepth 100000 in
set_option maxHeartbeats 4000000 in
theorem Lead_au (t : T) (tv : Value) (w : World) (htv : SeesT w w.heap.size tv t.ns) :
    Calls Tryz.prog 32 #[tabV t tv] w fun e w' => e = .returned (.int .i64 (leadV t)) ∧ Below w.heap.size w w' := by
  obtain ⟨TA, tc, rfl, htc, htc2, hsee, -⟩ := htv.at_
  have hIs := fun W (h : SeesT W W.heap.size (.slice TA t.ns.length tc) t.ns) => Lib.hid (is_tb t _ W _ (Nat.le_refl _) h)
  have hfew := @is_few t
  have hbd := @leastL_bd t
  have her : leadV t = if t.is then leastL t.ns t.ns.length + t.ns.length else 0 := rfl
  rw [her]
  clear her
  obtain ⟨ns, dr, wi, lm⟩ := t
  simp only at htv hIs hfew hbd hsee htc
  unfold tabV at hIs ⊢
  simp only at hIs ⊢
  have hb0 := (Below.refl w.heap.size w).alloc (Nat.le_refl _) (.cells #[.slice TA ns.length tc, .int .i64 dr, .int .i64 wi, .int .i64 lm] 29)
  have hT := Blk.new w _ rfl #[.slice TA ns.length tc, .int .i64 dr, .int .i64 wi, .int .i64 lm] 29
  have hI := hIs _ ((htv.below hb0).more (by simp))
  cases his : T.is ⟨ns, dr, wi, lm⟩
  · rw [his] at hI
    rw [if_neg (by simp)]
    clear hIs hfew hbd hsee
    go_enter Tryz.func32, Tryz.ntmps32
    go_wp2_with fail
    refine hI.out.mono ?_
    rintro e w1 ⟨rfl, hb⟩
    go_wp2
    go_ret
    exact ⟨rfl, hb0.trans (hb.mono hb0.size)⟩
  · rw [his] at hI
    rw [if_pos rfl]
    have hn := hfew his
    have hbd := hbd his
    have hS := fun k h => Lib.hid (leastL_succ ns k h)
    have hZ := Lib.hid (leastL_zero ns)
    clear hIs hfew his
    go_enter Tryz.func32, Tryz.ntmps32
    go_wp2_with fail
    refine hI.out.mono ?_
    rintro e w1 ⟨rfl, hb⟩
    have hT1 := hT.below hb hT.lt
    have hB1 := hb0.trans (hb.mono hb0.size)
    have t0 := hT1.cell 0 rfl
    clear hT hb hb0 hI
    go_wp2_with fail
    clear t0
    go_loopw [3, 12] (fun m i wr => ∃ k : Nat, k ≤ ns.length ∧ i = .int .i64 k ∧ m = .int .i64 (leastL ns k) ∧ Blk wr w.heap.size #[.slice TA ns.length tc, .int .i64 dr, .int .i64 wi, .int .i64 lm] 29 ∧ Below w.heap.size w wr) (fun _ i _ => ns.length - (intOf i).toNat)
    case atStart => exact ⟨0, by omega, rfl, by rw [hZ.out], hT1, hB1⟩
    case round =>
      clear hT1 hB1
      obtain ⟨k, hk, rfl, rfl, hT, hB⟩ := hrel
      by_cases hlt : k < ns.length
      · have q1 : decide ((k : Int) < (ns.length : Nat)) = true := by simp; omega
        obtain ⟨b, off, rfl, hbb, hd⟩ := hsee.below hB (by omega)
        obtain ⟨e0, e1, e2, e3⟩ := hd k hlt
        have hS := hS k hlt
        generalize leastL ns k = M at *
        generalize ns.getD k default = d at *
        have hBx := Lib.hid (hB.alloc hB.size (.cells #[.bool d.sy, .bool d.inf, .int .i64 d.li, .int .i64 d.sz] 34))
        have hTx := Lib.hid (hT.alloc (.cells #[.bool d.sy, .bool d.inf, .int .i64 d.li, .int .i64 d.sz] 34))
        clear hd hsee hT hB hbd
        by_cases hm : d.li < M
        · rw [if_pos hm] at hS
          have r1 : decide (d.li < M) = true := decide_eq_true hm
          go_wp2
          go_roundw
          case rel => exact ⟨k + 1, by omega, by go_num, by rw [hS.out], hTx.out, hBx.out⟩
          case measure => simp [intOf]; omega
        · rw [if_neg hm] at hS
          have r1 : decide (d.li < M) = false := decide_eq_false hm
          go_wp2
          go_roundw
          case rel => exact ⟨k + 1, by omega, by go_num, by rw [hS.out], hTx.out, hBx.out⟩
          case measure => simp [intOf]; omega
      · obtain rfl : k = ns.length := by omega
        have q1 : decide ((ns.length : Int) < (ns.length : Nat)) = false := by simp
        have t0 := hT.cell 0 rfl
        have hb' := hbd ns.length (by omega)
        have z1 : IntKind.i64.wrap (leastL ns ns.length + (ns.length : Int)) = leastL ns ns.length + (ns.length : Int) := IntWalk.i64_in _ (by omega)
        go_wp2
        go_ret
        exact ⟨rfl, hB⟩
end Go.Proofs.YtjoioojckekfhaaGreat

namespace Go.Proofs.YtjoioojckekfhaaGreat
open Go.RowKit
open Tb (D T)

set_option maxRecDepth 100000 in
set_option maxHeartbeats 4000000 in
theorem some_au (n : Nat) (dr : Int) (hn : n ≤ 8) (hd : 0 ≤ dr ∧ dr ≤ 1000) (w : World) :
    Calls Tryz.prog 29 #[.int .i64 (n : Nat), .int .i64 dr] w fun e w' => ∃ v, e = .returned (tabV (gsmT n dr) v) ∧ OwnsD w' w.heap.size v (gsmL n) ∧ Below w.heap.size w w' := by
  have hsu := Lib.hid gsmL_succ
  have hsl := Lib.hid gsmL_length
  have z1 : IntKind.i64.wrap (4 * dr) = 4 * dr := IntWalk.i64_in _ (by omega)
  have z2 : IntKind.i64.wrap (4 * dr + 6) = 4 * dr + 6 := IntWalk.i64_in _ (by omega)
  have z3 : IntKind.i64.wrap (4 * dr + 9) = 4 * dr + 9 := IntWalk.i64_in _ (by omega)
  unfold gsmT tabV
  simp only
  go_enter Tryz.func29, Tryz.ntmps29
  have hb0 := ((Below.refl w.heap.size w).alloc (Nat.le_refl _) (.cells #[.slice none 0 0, .int .i64 0, .int .i64 0, .int .i64 0] 29)).alloc (by simp) (.cells #[.slice none 0 0, .int .i64 dr, .int .i64 (4 * dr + 6), .int .i64 (4 * dr + 9)] 29)
  have hR := (Blk.new w _ rfl #[.slice none 0 0, .int .i64 0, .int .i64 0, .int .i64 0] 29).alloc (.cells #[.slice none 0 0, .int .i64 dr, .int .i64 (4 * dr + 6), .int .i64 (4 * dr + 9)] 29)
  have hT := Blk.new (w.alloc (.cells #[.slice none 0 0, .int .i64 0, .int .i64 0, .int .i64 0] 29)) (w.heap.size + 1) (by simp) #[.slice none 0 0, .int .i64 dr, .int .i64 (4 * dr + 6), .int .i64 (4 * dr + 9)] 29
  go_wp2
  generalize (w.alloc (.cells #[.slice none 0 0, .int .i64 0, .int .i64 0, .int .i64 0] 29)).alloc (.cells #[.slice none 0 0, .int .i64 dr, .int .i64 (4 * dr + 6), .int .i64 (4 * dr + 9)] 29) = w0 at *
  have hz0 : w.heap.size + 1 < w0.heap.size := hT.lt
  go_loopw [6] (fun i wr => ∃ k : Nat, ∃ v : Value, k ≤ n ∧ i = .int .i64 k ∧ OwnsD wr w0.heap.size v (gsmL k) ∧ Blk wr (w.heap.size + 1) #[v, .int .i64 dr, .int .i64 (4 * dr + 6), .int .i64 (4 * dr + 9)] 29 ∧ w0.heap.size ≤ wr.heap.size ∧ Below (w.heap.size + 1) w0 wr) (fun i _ => n - (intOf i).toNat)
  case atStart => exact ⟨0, _, by omega, rfl, OwnsD.nil, hT, Nat.le_refl _, Below.refl _ _⟩
  case round =>
    obtain ⟨k, v, hk, rfl, hown, hblk, hz, hb⟩ := hrel
    by_cases hlt : k < n
    · have q1 : decide ((k : Int) < (n : Nat)) = true := by simp; omega
      have q2 : decide ((k : Int) < 8) = true := by simp; omega
      have t0 := hblk.cell 0 rfl
      have tf := hblk.frozen 0
      have hlk : (gsmL k).length ≤ 100000 := by rw [gsmL_length]; omega
      have hgv : v.ownBlock ≠ some (w.heap.size + 1) := fun e => by have := (hown.lt _ e).1; omega
      have key : ∀ b : Bool, gsmD k = ⟨b, ((k : Int) % 3 == 0), 20 + 3 * ((k : Int) * 5 % 8), 4⟩ → ∀ (v2 : Value) (w2 : World), w2.ownsRow w0.heap.size 34 4 v2 ((gsmL k).length + 1) ((gsmL k).flatMap dc ++ dc ⟨b, ((k : Int) % 3 == 0), 20 + 3 * ((k : Int) * 5 % 8), 4⟩) →
          Ext (wr.alloc (.cells #[.bool b, .bool ((k : Int) % 3 == 0), .int .i64 (20 + 3 * ((k : Int) * 5 % 8)), .int .i64 4] 34)) w2 v v2 → ∃ g2 c2, v2 = .slice (some ⟨g2, 0, none⟩) (k + 1) c2 ∧ Blk w2 (w.heap.size + 1) #[v, .int .i64 dr, .int .i64 (4 * dr + 6), .int .i64 (4 * dr + 9)] 29 ∧
          OwnsD (w2.setCell ⟨w.heap.size + 1, 0, none⟩ (.slice (some ⟨g2, 0, none⟩) (k + 1) c2)) w0.heap.size v2 (gsmL (k + 1)) ∧ Blk (w2.setCell ⟨w.heap.size + 1, 0, none⟩ (.slice (some ⟨g2, 0, none⟩) (k + 1) c2)) (w.heap.size + 1) #[.slice (some ⟨g2, 0, none⟩) (k + 1) c2, .int .i64 dr, .int .i64 (4 * dr + 6), .int .i64 (4 * dr + 9)] 29 ∧
          w0.heap.size ≤ (w2.setCell ⟨w.heap.size + 1, 0, none⟩ (.slice (some ⟨g2, 0, none⟩) (k + 1) c2)).heap.size ∧ Below (w.heap.size + 1) w0 (w2.setCell ⟨w.heap.size + 1, 0, none⟩ (.slice (some ⟨g2, 0, none⟩) (k + 1) c2)) := fun b hsd v2 w2 ho2 hx2 => by
        rw [← hsd] at ho2
        have ho3 : OwnsD w2 w0.heap.size v2 (gsmL (k + 1)) := by
          rw [hsu.out]
          exact OwnsD.snoc ho2
        have hxx := ((Ext.refl wr v).alloc (.cells #[.bool b, .bool ((k : Int) % 3 == 0), .int .i64 (20 + 3 * ((k : Int) * 5 % 8)), .int .i64 4] 34)).trans hx2
        have hb2 := hb.trans (hxx.toBelow (B := w.heap.size + 1) (by omega) (fun j hj => by have := (hown.lt j hj).1; omega))
        have hblk5 := hblk.ext hxx hgv
        have hl1 := hsl.out (k + 1)
        obtain ⟨g2, c2, rfl, hg2⟩ : ∃ g2 c2, v2 = .slice (some ⟨g2, 0, none⟩) (k + 1) c2 ∧ w0.heap.size ≤ g2 := by
          rcases ho3.form with ⟨-, h0⟩ | ⟨g2, c2, h, h1, -⟩
          · omega
          · exact ⟨g2, c2, by rw [h, hl1], h1⟩
        refine ⟨g2, c2, rfl, hblk5, ho3.setOther ⟨w.heap.size + 1, 0, none⟩ _ (by simp [Value.ownBlock]; omega), by simpa using hblk5.set 0 (.slice (some ⟨g2, 0, none⟩) (k + 1) c2), by have := hxx.size; simp only [World.setCell, Array.size_modify]; omega, Below.setCell (p := ⟨w.heap.size + 1, 0, none⟩) hb2 (Nat.le_refl _) _⟩
      have key := fun b h => Lib.hid (key b h)
      have hSD : Hid (∀ b, ((b = true ∧ (k : Int) < 4) ∨ (b = ((k : Int) % 2 == 0) ∧ ¬ (k : Int) < 4)) → gsmD k = ⟨b, ((k : Int) % 3 == 0), 20 + 3 * ((k : Int) * 5 % 8), 4⟩) := Lib.hid fun b hb => by
        unfold gsmD
        rcases hb with ⟨rfl, h⟩ | ⟨rfl, h⟩ <;> simp [h]
      by_cases q4 : (k : Int) < 4
      · have K := key true (hSD.out true (.inl ⟨rfl, q4⟩))
        have hAt := atD_new wr ⟨true, ((k : Int) % 3 == 0), 20 + 3 * ((k : Int) * 5 % 8), 4⟩ 34 wr.heap.size rfl
        go_wp2_with (at_builtin; go_loud (refine wpList_pushC _ rfl (.tmp 25) (.tmp 42) 27 rfl w0.heap.size 34 _ 4 24 info_def rfl (by omega) Tryz.underlying27 v (gsmL k).length _ (hown.alloc _) rfl _ 1 _ rfl (src_def _ ⟨true, ((k : Int) % 3 == 0), 20 + 3 * ((k : Int) * 5 % 8), 4⟩ _ _ _ rfl hAt) (by simp; omega) (defs_room hlk).1 (defs_room hlk).2 ?_))
        intro v2 w2 ho2 hx2
        obtain ⟨g2, c2, rfl, B1, O1, B2, Z1, W1⟩ := K.out v2 w2 ho2 hx2
        have u0 := B1.cell 0 rfl
        have uf := B1.frozen 0
        clear t0 tf ho2 hx2 hAt B1 K key
        go_wp2
        go_roundw
        case rel => exact ⟨k + 1, _, by omega, by go_num, O1, B2, Z1, W1⟩
        case measure => simp [intOf]; omega
      · have K := key _ (hSD.out _ (.inr ⟨rfl, q4⟩))
        have hAt := atD_new wr ⟨((k : Int) % 2 == 0), ((k : Int) % 3 == 0), 20 + 3 * ((k : Int) * 5 % 8), 4⟩ 34 wr.heap.size rfl
        go_wp2_with (at_builtin; go_loud (refine wpList_pushC _ rfl (.tmp 25) (.tmp 42) 27 rfl w0.heap.size 34 _ 4 24 info_def rfl (by omega) Tryz.underlying27 v (gsmL k).length _ (hown.alloc _) rfl _ 1 _ rfl (src_def _ ⟨((k : Int) % 2 == 0), ((k : Int) % 3 == 0), 20 + 3 * ((k : Int) * 5 % 8), 4⟩ _ _ _ rfl hAt) (by simp; omega) (defs_room hlk).1 (defs_room hlk).2 ?_))
        intro v2 w2 ho2 hx2
        obtain ⟨g2, c2, rfl, B1, O1, B2, Z1, W1⟩ := K.out v2 w2 ho2 hx2
        have u0 := B1.cell 0 rfl
        have uf := B1.frozen 0
        clear t0 tf ho2 hx2 hAt B1 K key
        go_wp2
        go_roundw
        case rel => exact ⟨k + 1, _, by omega, by go_num, O1, B2, Z1, W1⟩
        case measure => simp [intOf]; omega
    · obtain rfl : k = n := by omega
      have q1 : decide ((k : Int) < (k : Nat)) = false := by simp
      obtain ⟨A', c2, rfl, -⟩ := hown.sees.at_
      have hR2 := hR.below hb (by omega)
      have t0 := hblk.cell 0 rfl
      have t1 := hblk.cell 1 rfl
      have t2 := hblk.cell 2 rfl
      have t3 := hblk.cell 3 rfl
      have r0 := hR2.cell 0 rfl
      have r1 := hR2.cell 1 rfl
      have r2 := hR2.cell 2 rfl
      have r3 := hR2.cell 3 rfl
      have f0 := hR2.frozen 0
      have f1 := hR2.frozen 1
      have f2 := hR2.frozen 2
      have f3 := hR2.frozen 3
      have hvR : (Value.slice A' (gsmL k).length c2).ownBlock ≠ some w.heap.size := fun e => by have := (hown.lt _ e).1; omega
      have hbr := hb0.trans (hb.mono (by omega))
      clear hR hT
      go_wp2_with fail
      refine bodyPost_ret (v := .agg #[.slice A' (gsmL k).length c2, .int .i64 dr, .int .i64 (4 * dr + 6), .int .i64 (4 * dr + 9)]) ?_ rfl ⟨_, rfl, ?_, ?_⟩
      · rw [results_cell rfl]
        go_simp
      · refine OwnsD.base (Bs := w0.heap.size) ?_ (by omega)
        (repeat' (first | exact hown | exact hvR | (with_reducible refine OwnsD.setOther ?_ _ _ ?_)))
      · (repeat' (first | exact hbr | (with_reducible refine Below.setCell ?_ ?_ _) | exact Nat.le_refl _))
end Go.Proofs.YtjoioojckekfhaaGreat

namespace Go.Proofs.YtjoioojckekfhaaGreat
open Go.RowKit
open Tb (D T)

/-- Acts in a block from its beginning. -/
theorem SeesAc.of {W : World} (b m c : Nat) (l : List Ac) (hl : l.length = m) (hb : b < W.heap.size) (hc : m ≤ c ∧ c ≤ maxLen) (h : ∀ i, i < m → AcAt W W.heap.size b (i * 5) (l.getD i default)) (hby : ∀ x ∈ l, bytesL x.d) : SeesAc W W.heap.size (.slice (some ⟨b, 0, none⟩) m c) l := by
  subst hl
  exact ⟨⟨_, c, rfl, hc.1, hc.2, fun _ => ⟨b, 0, rfl, hb, fun i hi => by rw [Nat.zero_add]; exact h i hi⟩⟩, hby⟩
theorem Blk.ac {W : World} {b : Nat} {cs : Array Value} {t : TypeId} (h : Blk W b cs t) (off : Nat) (x : Ac) (vd vf : Value) (h0 : cs[off]? = some (.int .i64 x.k)) (h1 : cs[off + 1]? = some (.int .i64 x.i)) (h2 : cs[off + 2]? = some (.int .i64 x.n)) (h3 : cs[off + 3]? = some vd) (h4 : cs[off + 4]? = some vf) (hd : SeesL W W.heap.size vd x.d) (hf : SeesF W W.heap.size vf x.f) : AcAt W W.heap.size b off x :=
  ⟨h.cell _ h0, h.cell _ h1, h.cell _ h2, ⟨vd, h.cell _ h3, hd⟩, vf, h.cell _ h4, hf⟩
/-- An act in a block of its own. -/
theorem SeesAc.one (W : World) (b : Nat) (hb : b = W.heap.size) (t : TypeId) (x : Ac) (vd vf : Value) (hd : SeesL W W.heap.size vd x.d) (hf : SeesF W W.heap.size vf x.f) (hby : bytesL x.d) :
    SeesAc (W.alloc (.cells #[.int .i64 x.k, .int .i64 x.i, .int .i64 x.n, vd, vf] t)) (W.alloc (.cells #[.int .i64 x.k, .int .i64 x.i, .int .i64 x.n, vd, vf] t)).heap.size (.slice (some ⟨b, 0, none⟩) 1 1) [x] := by
  have hB := (Below.refl W.heap.size W).alloc (Nat.le_refl _) (.cells #[.int .i64 x.k, .int .i64 x.i, .int .i64 x.n, vd, vf] t)
  have hX := Blk.new W b hb #[.int .i64 x.k, .int .i64 x.i, .int .i64 x.n, vd, vf] t
  refine SeesAc.of b 1 1 [x] rfl hX.lt ⟨Nat.le_refl _, by unfold maxLen; omega⟩ (fun i hi => ?_) (fun y hy => by simp at hy; subst hy; exact hby)
  obtain rfl : i = 0 := by omega
  exact hX.ac 0 x vd vf rfl rfl rfl rfl rfl ((hd.below hB).more hB.size) ((hf.below hB).more hB.size)
theorem bytesL_nil : bytesL [] := fun x hx => by cases hx
set_option maxRecDepth 100000 in
set_option maxHeartbeats 4000000 in
theorem known_au (w : World) : Calls Tryz.prog 33 #[] w fun e w' => e = .returned (.bool true) ∧ Below w.heap.size w w' := by
  have hs := Lib.hid (show Calls Tryz.prog 29 #[.int .i64 4, .int .i64 1] w fun e w' => ∃ v, e = .returned (.agg #[v, .int .i64 1, .int .i64 10, .int .i64 13]) ∧ OwnsD w' w.heap.size v (gsmL 4) ∧ Below w.heap.size w w' from some_au 4 1 (by omega) (by omega) w)
  have e1 : auFair (gsmT 4 1) [] = true := by decide +kernel
  have e2 : auFair (gsmT 4 1) [⟨1, 0, 0, [], []⟩] = false := by decide +kernel
  have e3 : leadV (gsmT 4 1) = 24 := by decide +kernel
  have e4 : auHit [] = 0 := by decide +kernel
  have hF1 := fun W v (h : SeesT W W.heap.size v (gsmL 4)) => Lib.hid (show Calls Tryz.prog 50 #[.agg #[v, .int .i64 1, .int .i64 10, .int .i64 13], .slice none 0 0] W fun e w' => e = .returned (.bool true) ∧ Below W.heap.size W w' by
    have := Fair_au (gsmT 4 1) v _ [] W h SeesAc.nil (by simp)
    rw [e1] at this
    exact this)
  have hF2 := fun W v u (h : SeesT W W.heap.size v (gsmL 4)) (hu : SeesAc W W.heap.size u [⟨1, 0, 0, [], []⟩]) => Lib.hid (show Calls Tryz.prog 50 #[.agg #[v, .int .i64 1, .int .i64 10, .int .i64 13], u] W fun e w' => e = .returned (.bool false) ∧ Below W.heap.size W w' by
    have := Fair_au (gsmT 4 1) v u [⟨1, 0, 0, [], []⟩] W h hu (by simp)
    rw [e2] at this
    exact this)
  have hL := fun W v (h : SeesT W W.heap.size v (gsmL 4)) => Lib.hid (show Calls Tryz.prog 32 #[.agg #[v, .int .i64 1, .int .i64 10, .int .i64 13]] W fun e w' => e = .returned (.int .i64 24) ∧ Below W.heap.size W w' by
    have := Lead_au (gsmT 4 1) v W h
    rw [e3] at this
    exact this)
  have hH := fun W => Lib.hid (show Calls Tryz.prog 49 #[.slice none 0 0] W fun e w' => e = .returned (.int .i64 0) ∧ Below W.heap.size W w' by
    have := Hit_au _ [] W SeesAc.nil
    rw [e4] at this
    exact this)
  clear e1 e2 e3 e4
  go_enter Tryz.func33, Tryz.ntmps33
  go_wp2_with fail
  refine hs.out.mono ?_
  rintro e w1 ⟨v, rfl, ho, hb1⟩
  have hv1 := Lib.hid ho.sees
  obtain ⟨VA, vc, rfl, -⟩ := ho.sees.at_
  have hlen : (gsmL 4).length = 4 := rfl
  rw [hlen] at *
  clear ho hs
  have hT := Blk.new w1 w1.heap.size rfl #[.slice VA 4 vc, .int .i64 1, .int .i64 10, .int .i64 13] 29
  have hb2 := Lib.hid (hb1.alloc hb1.size (.cells #[.slice VA 4 vc, .int .i64 1, .int .i64 10, .int .i64 13] 29))
  have hv2 := Lib.hid ((hv1.out.below ((Below.refl _ w1).alloc (Nat.le_refl _) (.cells #[.slice VA 4 vc, .int .i64 1, .int .i64 10, .int .i64 13] 29))).more (by simp : _ ≤ (w1.alloc (.cells #[.slice VA 4 vc, .int .i64 1, .int .i64 10, .int .i64 13] 29)).heap.size))
  go_wp2_with fail
  refine (hH _).out.mono ?_
  generalize w1.alloc (.cells #[.slice VA 4 vc, .int .i64 1, .int .i64 10, .int .i64 13] 29) = w2 at *
  rintro e w3 ⟨rfl, b3⟩
  have hT3 := hT.below b3 hT.lt
  have hv3 := Lib.hid ((hv2.out.below b3).more b3.size)
  have hB3 := Lib.hid (hb2.out.trans (b3.mono hb2.out.size))
  have t0 := hT3.cell 0 rfl
  have t1 := hT3.cell 1 rfl
  have t2 := hT3.cell 2 rfl
  have t3 := hT3.cell 3 rfl
  clear hT b3 hv1 hv2 hb2 hb1 hH
  go_wp2_with fail
  refine (hF1 _ _ hv3.out).out.mono ?_
  rintro e w4 ⟨rfl, b4⟩
  have hT4 := hT3.below b4 hT3.lt
  have hv4 := Lib.hid ((hv3.out.below b4).more b4.size)
  have hB4 := Lib.hid (hB3.out.trans (b4.mono hB3.out.size))
  clear t0 t1 t2 t3 hT3 hv3 hB3 b4 hF1
  have t0 := hT4.cell 0 rfl
  have t1 := hT4.cell 1 rfl
  have t2 := hT4.cell 2 rfl
  have t3 := hT4.cell 3 rfl
  go_wp2_with fail
  refine (hL _ _ hv4.out).out.mono ?_
  rintro e w5 ⟨rfl, b5⟩
  have hT5 := hT4.below b5 hT4.lt
  have hv5 := Lib.hid ((hv4.out.below b5).more b5.size)
  have hB5 := Lib.hid (hB4.out.trans (b5.mono hB4.out.size))
  clear t0 t1 t2 t3 hT4 hv4 hB4 b5 hL
  have t0 := hT5.cell 0 rfl
  have t1 := hT5.cell 1 rfl
  have t2 := hT5.cell 2 rfl
  have t3 := hT5.cell 3 rfl
  have hA := Lib.hid (SeesAc.one w5 _ rfl 39 ⟨1, 0, 0, [], []⟩ (.slice none 0 0) (.slice none 0 0) SeesL.nil SeesF.nil bytesL_nil)
  have hv6 := Lib.hid ((hv5.out.below ((Below.refl _ w5).alloc (Nat.le_refl _) (.cells #[.int .i64 1, .int .i64 0, .int .i64 0, .slice none 0 0, .slice none 0 0] 39))).more (by simp : _ ≤ (w5.alloc (.cells #[.int .i64 1, .int .i64 0, .int .i64 0, .slice none 0 0, .slice none 0 0] 39)).heap.size))
  have hB6 := Lib.hid (hB5.out.alloc hB5.out.size (.cells #[.int .i64 1, .int .i64 0, .int .i64 0, .slice none 0 0, .slice none 0 0] 39))
  clear hT5 hv5 hB5
  go_wp2_with fail
  refine (hF2 _ _ _ hv6.out hA.out).out.mono ?_
  rintro e w7 ⟨rfl, b7⟩
  have hB7 := Lib.hid (hB6.out.trans (b7.mono hB6.out.size))
  clear hv6 hB6 b7 hF2 hA
  go_wp2_with fail
  go_ret
  exact ⟨rfl, hB7.out⟩
end Go.Proofs.YtjoioojckekfhaaGreat

namespace Go.Proofs.YtjoioojckekfhaaGreat
open Go.ChangeShapes Go.WideShapes Go.ChangeAt Go.RowKit

theorem lead_some (n : Nat) (dr : Int) (h4 : 4 ≤ n) (h8 : n ≤ 8) (hd : 0 ≤ dr ∧ dr ≤ 200) : leadV (gsmT n dr) = 20 + n := by
  unfold leadV
  rw [if_pos (some_is n dr h4 h8 hd)]
  have e : (gsmT n dr).ns = gsmL n := rfl
  rw [e, gsmL_length]
  rcases (by omega : n = 4 ∨ n = 5 ∨ n = 6 ∨ n = 7 ∨ n = 8) with rfl | rfl | rfl | rfl | rfl <;> decide +kernel
set_option maxRecDepth 100000 in
set_option maxHeartbeats 8000000 in
theorem core_auditAlone (n but : Int) (w : World) :
    Calls Tryz.prog 11 #[.int .i64 n, .int .i64 but] w fun e w' => e = .returned (.bool true) ∧ Below w.heap.size w w' := by
  by_cases call : 4 ≤ n ∧ n ≤ 8
  case neg =>
    go_enter Tryz.func11, Tryz.ntmps11
    go_wp2
    all_goals first
      | (exfalso; omega)
      | (go_ret; exact ⟨rfl, Below.refl _ _⟩)
      | skip
  obtain ⟨n4, n8⟩ := call
  obtain ⟨N, rfl⟩ : ∃ t : Nat, n = t := ⟨n.toNat, by omega⟩
  have q1 : decide (((N : Nat) : Int) < 4) = false := decide_eq_false (by omega)
  have q2 : decide ((8 : Int) < ((N : Nat) : Int)) = false := decide_eq_false (by omega)
  have N4 : 4 ≤ N := by omega
  have N8 : N ≤ 8 := by omega
  have hs := fun W => Lib.hid (show Calls Tryz.prog 29 #[.int .i64 (N : Nat), .int .i64 1] W fun e w' => ∃ v, e = .returned (.agg #[v, .int .i64 1, .int .i64 10, .int .i64 13]) ∧ OwnsD w' W.heap.size v (gsmL N) ∧ Below W.heap.size W w' from some_au N 1 (by omega) (by omega) W)
  have hmk : ∀ W : World, (Instr.makeSlice 31 (.int .i64 (N : Nat)) (.int .i64 (N : Nat))).run Tryz.prog W = .ok (.slice (some ⟨W.heap.size, 0, none⟩) N N) (W.alloc (.cells (ics N) 3)) := fun W => run_makeI N (by omega) W
  have hN := fun v dv W (hv : SeesT W W.heap.size v (gsmL N)) (hdv : SeesI W W.heap.size dv (List.replicate N 0)) => Lib.hid (wnew_some N 1 (.slice none 0 0) [] (by omega) (by omega) (by omega) (by simp) (fun k hk => by simp at hk) v dv W hv hdv SeesRs.nil)
  have hI := fun W => Lib.hid (sees_ics N (by omega) W)
  have hKn := fun W => Lib.hid (known_au W)
  have hL := fun W v (h : SeesT W W.heap.size v (gsmL N)) => Lib.hid (show Calls Tryz.prog 32 #[.agg #[v, .int .i64 1, .int .i64 10, .int .i64 13]] W fun e w' => e = .returned (.int .i64 (20 + (N : Nat))) ∧ Below W.heap.size W w' by
    have := Lead_au (gsmT N 1) v W h
    rw [lead_some N 1 N4 N8 (by omega)] at this
    exact this)
  go_enter Tryz.func11, Tryz.ntmps11
  go_wp2_with fail
  go_region_with (first
    | (go_at_call 29; refine (hs _).out.mono ?_; rintro e w1 ⟨v, rfl, ho, hb1⟩)
    | (go_at_call 13; refine (hN _ _ _ ?_ ?_).out.mono ?_; (focus (first | exact ho.sees | exact (ho.sees.below ((Below.refl _ _).alloc (Nat.le_refl _) _)).more (by simp))); (focus (first | exact (hI w1).out.more (by simp) | exact (((hI w).out.below ((Below.refl _ _).drew)).below (hb1.mono (by simp))).more (by have := hb1.size; simpa using this))); rintro e w2 ⟨x, rfl, hw, hb2⟩; (have hB : Below w.heap.size w w2 := by (first | exact ((Below.refl _ _).drew.trans (hb1.alloc hb1.size _)).trans (hb2.mono (by have := hb1.size; simp; exact Nat.le_succ_of_le this)) | exact ((((Below.refl _ _).alloc (Nat.le_refl _) _).drew).trans (hb1.mono (by simp))).trans (hb2.mono (by have := hb1.size; simp at this; omega)))))
    | fail)
  all_goals
    have hw0 : WAt w.heap.size [] N w2 x (wO N 1 (List.replicate N 0) [] (fun i => 10 * (i : Int)) 0) := by
      rw [wO_zero]
      exact hw.lower (by first | (have := hb1.size; simp at this ⊢; omega) | (have := hb1.size; simp at this; omega))
    have hB := Lib.hid hB
    have hw0 := Lib.hid hw0
    clear hw hN hI ho hb1 hb2 hmk
    go_wp2_with fail
    go_loopw [7] (fun i wr => ∃ j : Nat, j ≤ N ∧ i = .int .i64 j ∧ WAt w.heap.size [] N wr x (wO N 1 (List.replicate N 0) [] (fun i => 10 * (i : Int)) j) ∧ Below w.heap.size w wr) (fun i _ => N - (intOf i).toNat)
    case atStart => exact ⟨0, by omega, rfl, hw0.out, hB.out⟩
    case round =>
      clear hw0 hB
      obtain ⟨j, hj, rfl, hW, hB⟩ := hrel
      by_cases hlt : j < N
      · have r1 : decide ((j : Int) < (N : Nat)) = true := by simp; omega
        obtain ⟨e1, e2⟩ := wO_succ N 1 (List.replicate N 0) [] (fun i => 10 * (i : Int)) j (by show -1000 ≤ 10 * (j : Int) ∧ 10 * (j : Int) ≤ 1000; omega)
        have z1 : IntKind.i64.wrap (10 * (j : Int)) = 10 * j := IntWalk.i64_in _ (by omega)
        have hst := wstep_on hW j hlt (10 * (j : Int))
        rw [e1, e2] at hst
        have hst := Lib.hid hst
        have hB := Lib.hid hB
        clear hW e1 e2
        go_wp2_with fail
        refine hst.out.mono ?_
        rintro _ w3 ⟨rfl, hw3, b3⟩
        have hB3 := Lib.hid (hB.out.trans b3.b)
        have hw3 := Lib.hid hw3
        clear hst hB b3
        go_wp2_with fail
        go_roundw
        case rel => exact ⟨j + 1, by omega, by go_num, hw3.out, hB3.out⟩
        case measure => simp [intOf]; omega
      · obtain rfl : j = N := by omega
        have r1 : decide ((j : Int) < (j : Nat)) = false := by simp
        have h4 : ∀ i, i < j → ((wO j 1 (List.replicate j 0) [] (fun i => 10 * (i : Int)) j).ms i).st ≠ 4 := fun i hi => by
          show (if i < j then _ else _ : NM).st ≠ 4
          rw [if_pos hi]
          show (1 : Nat) ≠ 4
          omega
        have ha := Lib.hid (agree_none hW N8 h4 but)
        have hsp := Lib.hid (fun W (b : Below wr.heap.size wr W) => spread_none (hW.below b) N8 h4 but)
        have z1 : IntKind.i64.wrap (20 + (j : Int)) = 20 + j := IntWalk.i64_in _ (by omega)
        have hB := Lib.hid hB
        clear hW h4
        go_wp2_with fail
        refine ha.out.mono ?_
        rintro _ w4 ⟨rfl, b4⟩
        have hB4 := Lib.hid (hB.out.trans (b4.mono hB.out.size))
        have hsp := Lib.hid (hsp.out _ b4)
        clear ha b4 hB
        go_wp2_with fail
        refine hsp.out.mono ?_
        rintro _ w5 ⟨rfl, b5⟩
        have hB5 := Lib.hid (hB4.out.trans (b5.mono hB4.out.size))
        clear hsp b5 hB4
        go_wp2_with fail
        refine (hs _).out.mono ?_
        rintro _ w6 ⟨v6, rfl, o6, b6⟩
        have hB6 := Lib.hid (hB5.out.trans (b6.mono hB5.out.size))
        have hl := hL _ _ o6.sees
        clear o6 b6 hB5
        go_wp2_with fail
        refine hl.out.mono ?_
        rintro _ w7 ⟨rfl, b7⟩
        have hB7 := Lib.hid (hB6.out.trans (b7.mono hB6.out.size))
        clear hl b7 hB6
        go_wp2_with fail
        refine (hKn _).out.mono ?_
        rintro _ w8 ⟨rfl, b8⟩
        have hB8 := Lib.hid (hB7.out.trans (b8.mono hB7.out.size))
        clear b8 hB7 hKn hL hs
        go_wp2_with fail
        go_ret
        exact ⟨rfl, hB8.out⟩
theorem walk_auditAlone (n but : Int) (w : World) (_h_n : -9223372036854775808 ≤ n ∧ n ≤ 9223372036854775807) (_h_b : -9223372036854775808 ≤ but ∧ but ≤ 9223372036854775807) :
    Calls Tryz.prog 11 #[.int .i64 n, .int .i64 but] w fun e w' => e = .returned (.bool true) ∧ Below w.heap.size w w' := core_auditAlone n but w

/-! ### THE ROW's STEP around the walk. -/
theorem own_auditAlone : ownKnob Tryz.prog.godebug = none := by kernel_rfl
theorem laidOut_auditAlone : laidOutB Tryz.prog = true := by kernel_rfl
set_option maxRecDepth 100000 in
theorem lifted_auditAlone (os : Os) (started : os.Started) (H : Type) (enc : TypeId × Value → H) :
    ReturnsInHanded {} Tryz.checked os 11 .any (Rows.auditAloneSpec.pre6 enc Tryz.prog Tryz.f11 Rows.auditAloneRow.domain false) (Rows.auditAloneSpec.post enc Tryz.prog Tryz.f11 false true false false) := by
  refine returnsInHanded_of_change (C := Tryz.checked) own_auditAlone started (by kernel_rfl) Tryz.func11
    (ChangeSpec.witness6 (enc := enc) (C := Tryz.checked) false ⟨#[], #[.int .i64 0, .int .i64 0], []⟩ 8 (by kernel_rfl) (by kernel_rfl) (by kernel_rfl) (by kernel_rfl)) ?_
  intro W base args ds gs before hval0 hW hcnd _
  have hval : ∀ (j : Nat) t v, Tryz.f11.params[j]? = some t → args[j]? = some v → Value.okWide Tryz.prog W .any base t v := hval0
  have hW' := hW
  obtain ⟨p, q, hA0, hV, rfl, hfz, hnd⟩ := hW
  have hA : DataW.TrodAll enc Tryz.prog W 0 (fun _ => true) true Tryz.f11.params.toList args.toList ds p := hA0
  rw [Tryz.params11] at hA hval
  obtain ⟨v0, vs0, d0, ds0, p0, q0, hargs, rfl, rfl, h0, r0⟩ := trodAll_cons hA
  obtain ⟨v1, vs1, d1, ds1, p1, q1, rfl, rfl, rfl, h1, r1⟩ := trodAll_cons r0
  obtain ⟨rfl, rfl, rfl⟩ := trodAll_nil r1
  obtain rfl : args = #[v0, v1] := by cases args; simp_all
  obtain ⟨rfl, rfl⟩ := trodVars_none hV
  obtain ⟨a0, rfl, rfl, rfl, w0⟩ := open_int Tryz.underlying3 (hval 0 3 v0 rfl rfl) h0
  obtain ⟨a1, rfl, rfl, rfl, w1⟩ := open_int Tryz.underlying3 (hval 1 3 v1 rfl rfl) h1
  clear hA0 hval0
  refine (walk_auditAlone a0 a1 W (bounds_i64 w0) (bounds_i64 w1)).mono fun e W' ⟨he, bel⟩ => ?_
  subst he
  exact ⟨_, rfl, _, _, _, [], _, [], hW', trodAll_mk1 (shut_bool Tryz.underlying4 _), (trodAll_cons_mk (shut_int Tryz.underlying3 w0) (trodAll_cons_mk (shut_int Tryz.underlying3 w1) trodAll_mk0)), rfl, bel.frame _, fun h => by cases h⟩

theorem over_auditAlone : Rows.auditAloneRow.holds Tryz.pinned (OpenSpec.ofChange Rows.auditAloneSpec) :=
  OpenClaim.holds_of_wide 11 Tryz.f11 rfl rfl rfl rfl rfl rfl rfl ⟨rfl, rfl, rfl, rfl, rfl⟩ rfl rfl rfl rfl rfl (by kernel_rfl) Tryz.func11 (by kernel_rfl)
    (of_decide_eq_true (by kernel_rfl)) (by unfold Func.isWrapper; first | (rw [if_pos (by decide +kernel)]; kernel_rfl) | (rw [if_neg (by decide +kernel)]; exact ⟨rfl, rfl⟩))
    (fun os started H enc _ => lifted_auditAlone os started H enc)

theorem proved_auditAlone : Rows.AuditAloneSaid := over_auditAlone
end Go.Proofs.YtjoioojckekfhaaGreat
