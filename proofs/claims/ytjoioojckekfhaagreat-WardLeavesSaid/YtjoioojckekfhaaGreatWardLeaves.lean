/- WardLeaves holds: one of a ward that is up leaves, and comes back. For all arguments. -/
import Derived.Test.YtjoioojckekfhaaGreatVB52
namespace Go.Proofs.YtjoioojckekfhaaGreat
open Fr (St F)
open Clk (avg)

/-- What is written is read by the state that it was written by. -/
theorem wm_read {f : F} (h : f.is = true) : Fr.err f.bytes f.st = 0 ∧ Fr.res f.bytes f.st = f := by
  obtain ⟨a, b, c⟩ := Fr.back h f.st ((F.is_iff f).1 h).2.1
  have hs : Fr.sumB f.bytes f.st = true := c.2 fun _ => rfl
  unfold Fr.err Fr.res
  rw [a, hs, b]
  refine ⟨rfl, ?_⟩
  obtain ⟨k, st, d⟩ := f
  simp
/-- What tells its state is read by any. -/
theorem wm_told {f : F} (h : f.is = true) (hk : f.k ≠ 1) (own : St) (ho : own.may = true) : Fr.err f.bytes own = 0 ∧ Fr.res f.bytes own = f := by
  obtain ⟨a, b, c⟩ := Fr.back h own ho
  have hs : Fr.sumB f.bytes own = true := c.2 fun e => absurd e hk
  unfold Fr.err Fr.res
  rw [a, hs, b, if_neg hk]
  exact ⟨rfl, rfl⟩
/-- A ward's nodes that go together. -/
structure SP where
  on : Nat → Bool
  r : Int
  k : Nat
  m : Nat
  st : Nat → Nat
  a : Nat → Nat
  tm : Nat → Int
  ck : Nat → List Int
  so : Nat → MS
  da : Nat → List Int
  now : Int
  gl : List Int
  si : Nat
/-- Does its clock count? -/
def wsy (k : Nat) : Bool := (gsmD k).sy
namespace SP
/-- The slot's node was heard, or not. -/
def mid (p : SP) : SP :=
  if p.on p.k = true then
    { p with m := ins p.m p.k, st := fun i => if i = p.k then 4 else p.st i, a := fun i => if i = p.k then 0 else p.a i + 1,
             ck := fun i => if wsy p.k = true then keep4 (p.ck i) (p.tm p.k - p.tm i) else p.ck i,
             so := fun i => if i = p.k then p.so i else ((p.so i).put p.k (p.da p.k)).member p.k (isB (ins p.m p.k) p.k),
             gl := if wsy p.k = true then keep4 p.gl (p.tm p.k - p.now) else p.gl, si := 0 }
  else { p with m := del p.m p.k, so := fun i => (p.so i).member p.k (isB (del p.m p.k) p.k), si := p.si + 1 }
/-- The slot goes on. -/
def fwd (N : Nat) (dr : Int) (d : Nat → Int) (p : SP) : SP :=
  if p.k + 1 < N then { p with k := p.k + 1 }
  else { p with k := 0, r := if p.r < 65535 then p.r + 1 else 0, tm := fun i => p.tm i + termV (4 * dr + 9) (p.ck i) + d i, ck := fun _ => [], so := fun i => (p.so i).age, now := p.now + termV (4 * dr + 9) p.gl, gl := [] }
def next (N : Nat) (dr : Int) (d : Nat → Int) (p : SP) : SP := p.mid.fwd N dr d
/-- What may be asked of it for a slot. -/
structure Ok (N : Nat) (dr : Int) (p : SP) : Prop where
  n : 4 ≤ N ∧ N ≤ 8
  drb : 0 ≤ dr ∧ dr ≤ 200
  r : 0 ≤ p.r ∧ p.r ≤ 65535
  k : p.k < N
  m : p.m < 256
  st : ∀ i, p.st i = 2 ∨ p.st i = 3 ∨ p.st i = 4
  a : ∀ i, i < N → p.a i < 900
  ak : p.on p.k = true → 0 < p.a p.k
  tm : ∀ i, i < N → -100000 ≤ p.tm i ∧ p.tm i ≤ 100000
  now : -100000 ≤ p.now ∧ p.now ≤ 100000
  near : p.on p.k = true → -(4 * dr + 6) ≤ p.tm p.k - p.now ∧ p.tm p.k - p.now ≤ 4 * dr + 6
  gl : small p.gl
  si : p.si + 1 ≠ 2 * N ∧ p.si ≤ 1000
  da : ∀ i, (p.da i).length ≤ 8 ∧ bytesL (p.da i)
  lim : p.k + 1 = N → ∀ i, i < N → p.on i = true → wiB (4 * dr + 9) (avg (p.mid.ck i)) = true
end SP
/-- A node that goes along. -/
structure NdS (N : Nat) (dr : Int) (d : Nat → Int) (p : SP) (i : Nat) (s : NM) : Prop where
  t : s.t = gsmT N dr
  ix : s.i = i
  dx : s.dr = d i
  st : s.st = p.st i
  rd : s.rd = p.r
  sl : s.sl = p.k
  ty : s.ty = ⟨p.m, p.a i, 0⟩
  tm : s.tm = p.tm i
  ck : s.ck = p.ck i
  so : s.so = p.so i
  da : s.da = p.da i
/-- The guardians. -/
structure GdS (N : Nat) (dr : Int) (p : SP) (s : G) : Prop where
  kn : s.kn = true
  slot : s.slot = p.k
  n : s.n = N
  wi : s.wi = 4 * dr + 6
  lm : s.lm = 4 * dr + 9
  now : s.now = p.now
  l : s.l = p.gl
  si : s.si = p.si
  sy : ∀ j, j < N → s.sy j = wsy j
structure Sy (N : Nat) (dr : Int) (d : Nat → Int) (p : SP) (u : WM) : Prop where
  nd : ∀ i, i < N → p.on i = true → NdS N dr d p i (u.ms i)
  off : ∀ i, i < N → p.on i = false → ((u.ms i).st = 0 ∧ (u.ms i).se = false) ∧ (-100000 ≤ (u.ms i).tm ∧ (u.ms i).tm ≤ 100000) ∧ (u.ms i).ty.a < 900 ∧ (u.ms i).ty.f < 900
  gd : GdS N dr p u.s
section
variable {N : Nat} {dr : Int} {d : Nat → Int} {p : SP} {u : WM}
theorem gsm_len (N : Nat) (dr : Int) : (gsmT N dr).ns.length = N := gsmL_length N
theorem gsm_at (N : Nat) (dr : Int) (k : Nat) (hk : k < N) : (gsmT N dr).ns.getD k default = gsmD k := gsmL_get N k hk
/-- The frame of the slot's node. -/
def wfr (p : SP) : F := ⟨if (gsmD p.k).inf = true ∨ p.st p.k ≠ 4 ∨ p.r % 2 = 0 then 2 else 1, ⟨p.r, p.k, (ins p.m p.k : Nat)⟩, p.da p.k⟩
theorem wfr_is (ok : p.Ok N dr) : (wfr p).is = true := by
  rw [F.is_iff]
  refine ⟨?_, ?_, (ok.da p.k).1⟩
  · show 1 ≤ (if _ then (2 : Int) else 1) ∧ (if _ then (2 : Int) else 1) ≤ 3
    split <;> omega
  · rw [Fr.St.may_iff]
    have h1 := ok.r
    have h2 := ok.k
    have h3 := ok.n
    have h4 := ins_lt ok.m (show p.k < 8 by omega)
    show (0 ≤ p.r ∧ p.r ≤ 65535) ∧ (0 ≤ (p.k : Int) ∧ (p.k : Int) < 8) ∧ 0 ≤ ((ins p.m p.k : Nat) : Int) ∧ ((ins p.m p.k : Nat) : Int) ≤ 255
    omega
/-- A node whose slot it is not sends nothing. -/
theorem NdS.quiet {i : Nat} {s : NM} (h : NdS N dr d p i s) (ok : p.Ok N dr) (hi : i ≠ p.k) : s.sendK = 0 ∧ s.sendS = { s with se := false } := by
  have hst := ok.st i
  rw [← h.st] at hst
  have hne : s.sl ≠ s.i := by rw [h.sl, h.ix]; exact fun e => hi e.symm
  unfold NM.sendK NM.sendS
  rw [if_neg (by omega), if_pos (.inr (.inr hne)), if_neg (by omega), if_pos (.inr (.inr hne))]
  exact ⟨rfl, rfl⟩
theorem off_quiet {s : NM} (h : s.st = 0 ∧ s.se = false) : s.sendK = 0 ∧ s.sendS = s := by
  obtain ⟨h1, h2⟩ := h
  unfold NM.sendK NM.sendS
  rw [if_neg (by omega), if_pos (.inl h1), if_neg (by omega), if_pos (.inl h1)]
  exact ⟨rfl, by rw [← h2]⟩
theorem sent_none {s : NM} (h : s.sendK = 0) : s.sent = [] := by unfold NM.sent; rw [if_pos h]
/-- The slot's node sends its frame. -/
theorem NdS.sends {s : NM} (h : NdS N dr d p p.k s) (ok : p.Ok N dr) (hon : p.on p.k = true) :
    s.sent = (wfr p).bytes ∧ s.sendS = { s with st := 4, ty := ⟨ins p.m p.k, 0, 0⟩, se := true } := by
  have hst := ok.st p.k
  rw [← h.st] at hst
  have hsl : s.sl = s.i := by rw [h.sl, h.ix]
  have hk8 : p.k < 8 := by have := ok.n; have := ok.k; omega
  have ha : s.ty.a ≠ 0 := by rw [h.ty]; have := ok.ak hon; show p.a p.k ≠ 0; omega
  have hf : s.ty.f = 0 := by rw [h.ty]
  have hal : ¬ s.alone := fun e => ha e
  have hcl : s.clique := by show s.ty.f ≤ s.ty.a; omega
  have en : s.enter = { s with st := 4 } := by
    unfold NM.enter
    by_cases h2 : s.st = 2
    · rw [if_pos h2, if_neg hal]
    · rw [if_neg h2]
      by_cases h3 : s.st = 3
      · rw [if_pos h3, if_pos ⟨hal, hcl⟩]
      · rw [if_neg h3, if_neg (fun e => e hcl), if_neg hal]
        have : s.st = 4 := by omega
        rw [← this]
  have ej : s.enter.joined = { s with st := 4, ty := ⟨ins p.m p.k, 0, 0⟩ } := by
    rw [en]
    unfold NM.joined
    have hi : ((s.i : Nat) : Int) = (p.k : Nat) := by rw [h.ix]
    show ({ s with st := 4, ty := (s.ty.join (s.i : Nat)).clear } : NM) = _
    unfold TS.join TS.clear
    rw [if_pos (by rw [hi]; omega), hi, Int.toNat_natCast, h.ty]
  have eK : s.sendK = (wfr p).k := by
    unfold NM.sendK
    rw [if_neg (by omega), if_neg (by rw [hsl]; omega), if_neg (by rw [en]; simp)]
    show (if s.me.inf = true ∨ s.st ≠ 4 ∨ s.rd % 2 = 0 then (2 : Int) else 1) = (if (gsmD p.k).inf = true ∨ p.st p.k ≠ 4 ∨ p.r % 2 = 0 then (2 : Int) else 1)
    have e : s.me = gsmD p.k := by
      unfold NM.me
      rw [h.t, h.ix]
      exact gsm_at N dr p.k ok.k
    rw [e, h.st, h.rd]
  have eS : s.sendS = { s with st := 4, ty := ⟨ins p.m p.k, 0, 0⟩, se := true } := by
    unfold NM.sendS
    rw [if_neg (by omega), if_neg (by rw [hsl]; omega), if_neg (by rw [en]; simp), ej]
  refine ⟨?_, eS⟩
  unfold NM.sent
  rw [if_neg (by rw [eK]; unfold wfr; simp only; split <;> omega), eK, eS]
  have : NM.frm { s with st := 4, ty := ⟨ins p.m p.k, 0, 0⟩, se := true } (wfr p).k = wfr p := by
    unfold NM.frm NM.view wfr
    simp only [h.rd, h.sl, h.da]
  rw [this]
end
end Go.Proofs.YtjoioojckekfhaaGreat

namespace Go.Proofs.YtjoioojckekfhaaGreat
open Fr (St F)
open Clk (avg)

section
variable {N : Nat} {dr : Int} {d : Nat → Int} {p : SP} {u : WM}
theorem nx_more {k : Nat} (h : k + 1 < N) (r : Int) : nxS N (k : Nat) = ((k + 1 : Nat) : Int) ∧ nxR N r (k : Nat) = r := by
  unfold nxS nxR
  rw [if_pos (by omega), if_pos (by omega)]
  exact ⟨by omega, rfl⟩
theorem nx_last {k : Nat} (h : k + 1 = N) (r : Int) : nxS N (k : Nat) = 0 ∧ nxR N r (k : Nat) = if r < 65535 then r + 1 else 0 := by
  unfold nxS nxR
  rw [if_neg (by omega), if_neg (by omega)]
  exact ⟨rfl, rfl⟩
theorem NdS.goOn {i : Nat} {s : NM} (h : NdS N dr d p i s) (hk : p.k < N) (hl : p.k + 1 = N → wiB (4 * dr + 9) (avg (p.ck i)) = true) : NdS N dr d (p.fwd N dr d) i s.goOn := by
  have e : s.goOn = if nxS (s.t.ns.length : Nat) (s.sl : Nat) ≠ 0 then { s with rd := nxR (s.t.ns.length : Nat) s.rd (s.sl : Nat), sl := (nxS (s.t.ns.length : Nat) (s.sl : Nat)).toNat, se := false } else
      if wiB s.t.lm (avg s.ck) then { s with rd := nxR (s.t.ns.length : Nat) s.rd (s.sl : Nat), sl := (nxS (s.t.ns.length : Nat) (s.sl : Nat)).toNat, se := false, tm := s.tm + termV s.t.lm s.ck + s.dr, ck := [], so := s.so.age, an := nowM s.al s.so.age, ar := fun i => s.ar i ||| nowM s.al s.so.age i }
      else { s with rd := nxR (s.t.ns.length : Nat) s.rd (s.sl : Nat), sl := (nxS (s.t.ns.length : Nat) (s.sl : Nat)).toNat, se := false, st := 5, ck := [], so := s.so.age, an := nowM s.al s.so.age, ar := fun i => s.ar i ||| nowM s.al s.so.age i } := by
    unfold NM.goOn
    simp only
    split
    · rfl
    · split <;> rfl
  rw [e, h.t, gsm_len, h.sl, h.rd]
  have elm : (gsmT N dr).lm = 4 * dr + 9 := rfl
  by_cases hlt : p.k + 1 < N
  · obtain ⟨e1, e2⟩ := nx_more hlt p.r
    rw [e1, e2, if_pos (by omega), Int.toNat_natCast]
    unfold SP.fwd
    rw [if_pos hlt]
    exact ⟨rfl, h.ix, h.dx, h.st, rfl, rfl, h.ty, h.tm, h.ck, h.so, h.da⟩
  · obtain ⟨e1, e2⟩ := nx_last (N := N) (k := p.k) (by omega) p.r
    rw [e1, e2, if_neg (fun h => h rfl), elm, h.ck, if_pos (hl (by omega))]
    unfold SP.fwd
    rw [if_neg hlt]
    exact ⟨rfl, h.ix, h.dx, h.st, rfl, rfl, h.ty, by show s.tm + termV (4 * dr + 9) (p.ck i) + s.dr = p.tm i + termV (4 * dr + 9) (p.ck i) + d i; rw [h.tm, h.dx], rfl, by show s.so.age = _; rw [h.so], h.da⟩
theorem meas_eq {i k : Nat} {s : NM} (ht : s.t = gsmT N dr) (hk : k < N) (o : Int) (hc : s.ck = p.ck i) : s.meas k o = if wsy k = true then keep4 (p.ck i) o else p.ck i := by
  unfold NM.meas NM.at_ wsy
  rw [ht, gsm_at N dr k hk, hc]
/-- The slot's own node. -/
theorem NdS.own {s : NM} (h : NdS N dr d p p.k s) (ok : p.Ok N dr) (hon : p.on p.k = true) (x : Hn) : NdS N dr d (p.next N dr d) p.k (s.sendS.take x) := by
  rw [(h.sends ok hon).2]
  have e : NM.take { s with st := 4, ty := ⟨ins p.m p.k, 0, 0⟩, se := true } x = NM.goOn { s with st := 4, ty := ⟨ins p.m p.k, 0, 0⟩, se := true, ck := s.meas s.i 0 } := by
    unfold NM.take
    rw [if_neg (by simp), if_neg (by simp), if_pos (show s.sl = s.i by rw [h.sl, h.ix])]
    rfl
  rw [e]
  have hm : p.mid = _ := show SP.mid p = _ from by unfold SP.mid; rw [if_pos hon]
  refine NdS.goOn (p := p.mid) ?_ (by rw [hm]; exact ok.k) (fun h1 => ok.lim (by rw [hm] at h1; exact h1) p.k ok.k hon)
  rw [hm]
  refine ⟨h.t, h.ix, h.dx, (if_pos rfl).symm, h.rd, h.sl, ?_, h.tm, ?_, ?_, h.da⟩
  · show (⟨ins p.m p.k, 0, 0⟩ : TS) = ⟨ins p.m p.k, if p.k = p.k then 0 else _, 0⟩
    rw [if_pos rfl]
  · show s.meas s.i 0 = if wsy p.k = true then keep4 (p.ck p.k) (p.tm p.k - p.tm p.k) else p.ck p.k
    rw [h.ix, meas_eq h.t ok.k 0 h.ck, Int.sub_self]
  · show s.so = if p.k = p.k then p.so p.k else _
    rw [if_pos rfl]; exact h.so
/-- Another node hears the slot's. -/
theorem NdS.hears {i : Nat} {s : NM} (h : NdS N dr d p i s) (ok : p.Ok N dr) (hon : p.on p.k = true) (hi : i < N) (hon2 : p.on i = true) (hik : i ≠ p.k) :
    NdS N dr d (p.next N dr d) i (s.sendS.take ⟨2, 2, (wfr p).bytes, (wfr p).bytes, p.tm p.k - p.tm i⟩) := by
  rw [(h.quiet ok hik).2]
  have hst := ok.st i
  rw [← h.st] at hst
  have hk8 : p.k < 8 := by have := ok.n; have := ok.k; omega
  have eo : NM.own { s with se := false } = (wfr p).st := by
    show (⟨s.rd, s.sl, (ins s.ty.m s.sl : Nat)⟩ : St) = ⟨p.r, p.k, (ins p.m p.k : Nat)⟩
    rw [h.rd, h.sl, h.ty]
  obtain ⟨r1, r2⟩ := wm_read (wfr_is ok)
  have hR : NM.isRight { s with se := false } (wfr p).bytes := by
    unfold NM.isRight
    rw [eo, r1, r2]
    refine ⟨rfl, ?_, rfl⟩
    show (if _ then (2 : Int) else 1) ≠ 3
    split <;> omega
  have hl : NM.rightL { s with se := false } ⟨2, 2, (wfr p).bytes, (wfr p).bytes, p.tm p.k - p.tm i⟩ = some (wfr p).bytes := by
    unfold NM.rightL NM.rows
    show List.find? _ ([(wfr p).bytes] ++ [(wfr p).bytes]) = _
    rw [List.singleton_append]
    exact List.find?_cons_of_pos (by show decide (NM.isRight _ _) = true; exact decide_eq_true hR)
  have e : NM.take { s with se := false } ⟨2, 2, (wfr p).bytes, (wfr p).bytes, p.tm p.k - p.tm i⟩ = (NM.took { s with se := false } (s.ty.right s.sl) (s.so.put s.sl (p.da p.k)) (NM.meas { s with se := false } s.sl (p.tm p.k - p.tm i))).goOn := by
    unfold NM.take
    rw [if_neg (by show ¬ (s.st = 0 ∨ s.st = 5); omega), if_neg (by show ¬ s.st = 1; omega), if_neg (by show ¬ s.sl = s.i; rw [h.sl, h.ix]; exact fun e => hik e.symm), hl]
    simp only
    rw [eo, r2]
    rfl
  rw [e]
  have hm : p.mid = _ := show SP.mid p = _ from by unfold SP.mid; rw [if_pos hon]
  refine NdS.goOn (p := p.mid) ?_ (by rw [hm]; exact ok.k) (fun h1 => ok.lim (by rw [hm] at h1; exact h1) i hi hon2)
  rw [hm]
  have et : s.ty.right (s.sl : Nat) = ⟨ins p.m p.k, p.a i + 1, 0⟩ := by
    unfold TS.right
    rw [h.sl, if_pos (by omega), Int.toNat_natCast, h.ty]
  unfold NM.took
  rw [et]
  refine ⟨h.t, h.ix, h.dx, ?_, h.rd, h.sl, ?_, h.tm, ?_, ?_, h.da⟩
  · show s.st = if i = p.k then 4 else p.st i
    rw [if_neg hik]; exact h.st
  · show (⟨ins p.m p.k, p.a i + 1, 0⟩ : TS) = ⟨ins p.m p.k, if i = p.k then 0 else p.a i + 1, 0⟩
    rw [if_neg hik]
  · show NM.meas { s with se := false } s.sl _ = if wsy p.k = true then keep4 (p.ck i) (p.tm p.k - p.tm i) else p.ck i
    rw [h.sl]
    exact meas_eq (s := { s with se := false }) h.t ok.k _ h.ck
  · show (s.so.put (s.sl : Nat) (p.da p.k)).member (s.sl : Nat) (isB (ins p.m p.k) (s.sl : Nat)) = if i = p.k then p.so i else ((p.so i).put p.k (p.da p.k)).member p.k (isB (ins p.m p.k) p.k)
    rw [if_neg hik, h.so, h.sl]
/-- Nobody is heard. -/
theorem NdS.misses {i : Nat} {s : NM} (h : NdS N dr d p i s) (ok : p.Ok N dr) (hoff : p.on p.k = false) (hi : i < N) (hon2 : p.on i = true) :
    NdS N dr d (p.next N dr d) i (s.sendS.take ⟨0, 0, [], [], 0⟩) := by
  have hik : i ≠ p.k := fun e => by rw [e, hoff] at hon2; cases hon2
  rw [(h.quiet ok hik).2]
  have hst := ok.st i
  rw [← h.st] at hst
  have hk8 : p.k < 8 := by have := ok.n; have := ok.k; omega
  have e : NM.take { s with se := false } ⟨0, 0, [], [], 0⟩ = (NM.took { s with se := false } (s.ty.miss s.sl) s.so s.ck).goOn := by
    unfold NM.take
    rw [if_neg (by show ¬ (s.st = 0 ∨ s.st = 5); omega), if_neg (by show ¬ s.st = 1; omega), if_neg (by show ¬ s.sl = s.i; rw [h.sl, h.ix]; exact fun e => hik e.symm)]
    have : NM.rightL { s with se := false } ⟨0, 0, [], [], 0⟩ = none := rfl
    rw [this]
    simp only
    rw [if_pos ⟨trivial, trivial⟩]
  rw [e]
  have hm : p.mid = _ := show SP.mid p = _ from by unfold SP.mid; rw [if_neg (by rw [hoff]; simp)]
  refine NdS.goOn (p := p.mid) ?_ (by rw [hm]; exact ok.k) (fun h1 => ok.lim (by rw [hm] at h1; exact h1) i hi hon2)
  rw [hm]
  have et : s.ty.miss (s.sl : Nat) = ⟨del p.m p.k, p.a i, 0⟩ := by
    unfold TS.miss
    rw [h.sl, if_pos (by omega), Int.toNat_natCast, h.ty]
  unfold NM.took
  rw [et]
  refine ⟨h.t, h.ix, h.dx, h.st, h.rd, h.sl, rfl, h.tm, h.ck, ?_, h.da⟩
  show s.so.member (s.sl : Nat) (isB (del p.m p.k) (s.sl : Nat)) = (p.so i).member p.k (isB (del p.m p.k) p.k)
  rw [h.so, h.sl]
end
end Go.Proofs.YtjoioojckekfhaaGreat

namespace Go.Proofs.YtjoioojckekfhaaGreat
open Fr (St F)
open Clk (avg)

section
variable {N : Nat} {dr : Int} {d : Nat → Int} {p : SP} {u : WM}
theorem Sy.bs (h : Sy N dr d p u) (ok : p.Ok N dr) (i : Nat) (hi : i < N) : u.bs N i = if i = p.k ∧ p.on p.k = true then (wfr p).bytes else [] := by
  unfold WM.bs
  rw [if_pos hi]
  cases ho : p.on i
  · rw [sent_none (off_quiet (h.off i hi ho).1).1, if_neg]
    rintro ⟨rfl, e⟩
    rw [ho] at e; cases e
  · by_cases e : i = p.k
    · subst e
      rw [((h.nd _ hi ho).sends ok ho).1, if_pos ⟨rfl, ho⟩]
    · rw [sent_none ((h.nd i hi ho).quiet ok e).1, if_neg (fun x => e x.1)]
theorem Sy.at_ (h : Sy N dr d p u) (ok : p.Ok N dr) (i : Nat) (hi : i < N) (ho : p.on i = true) : u.at_ N i = p.tm i := by
  unfold WM.at_
  rw [if_pos hi]
  by_cases e : i = p.k
  · subst e
    rw [((h.nd _ hi ho).sends ok ho).2]
    exact (h.nd _ hi ho).tm
  · rw [((h.nd i hi ho).quiet ok e).2]
    exact (h.nd i hi ho).tm
theorem wfr_len (p : SP) : 0 < (wfr p).bytes.length := by rw [F.bytes_length]; omega
theorem Sy.who (h : Sy N dr d p u) (ok : p.Ok N dr) : u.who N = if p.on p.k = true then (p.k : Int) else -1 := by
  have hk := ok.k
  unfold WM.who G.pass
  rw [if_pos h.gd.kn, h.gd.slot, h.gd.now, h.gd.wi]
  unfold WM.sd
  rw [sF_m0 N _ _ p.k hk, sA_m0 N _ _ p.k hk, h.bs ok p.k hk]
  by_cases ho : p.on p.k = true
  · rw [show (if p.k = p.k ∧ p.on p.k = true then (wfr p).bytes else []) = (wfr p).bytes from if_pos ⟨rfl, ho⟩, h.at_ ok p.k hk ho, decide_eq_true (wfr_len p), if_pos (c := p.on p.k = true) ho]
    have hn : nearB (p.tm p.k) p.now (4 * dr + 6) = true := by unfold nearB; exact decide_eq_true (ok.near ho)
    rw [hn]
    rfl
  · rw [show (if p.k = p.k ∧ p.on p.k = true then (wfr p).bytes else []) = [] from if_neg (fun x => ho x.2), if_neg (c := p.on p.k = true) ho]
    rfl
theorem Sy.hear (h : Sy N dr d p u) (ok : p.Ok N dr) (i : Nat) (hi : i < N) (hon : p.on i = true) : u.hear N i = if p.on p.k = true then ⟨2, 2, (wfr p).bytes, (wfr p).bytes, p.tm p.k - p.tm i⟩ else ⟨0, 0, [], [], 0⟩ := by
  have hk := ok.k
  unfold WM.hear WM.heard WM.when_
  rw [h.who ok]
  by_cases ho : p.on p.k = true
  · simp only [if_pos ho]
    rw [if_neg (by omega), if_neg (by omega), if_neg (by omega), Int.toNat_natCast, h.bs ok p.k hk, if_pos ⟨rfl, ho⟩, h.at_ ok p.k hk ho, h.at_ ok i hi hon]
  · simp only [if_neg ho]
    rw [if_pos (by omega)]
theorem Sy.heard (h : Sy N dr d p u) (ok : p.Ok N dr) : u.heard N = (if p.on p.k = true then (wfr p).bytes else []) ∧ (p.on p.k = true → u.when_ N = p.tm p.k) := by
  have hk := ok.k
  unfold WM.heard WM.when_
  rw [h.who ok]
  by_cases ho : p.on p.k = true
  · simp only [if_pos ho]
    rw [if_neg (by omega), if_neg (by omega), Int.toNat_natCast, h.bs ok p.k hk, if_pos ⟨rfl, ho⟩, h.at_ ok p.k hk ho]
    exact ⟨rfl, fun _ => rfl⟩
  · simp only [if_neg ho]
    rw [if_pos (by omega)]
    exact ⟨rfl, fun e => absurd e ho⟩
theorem Sy.wok (h : Sy N dr d p u) (ok : p.Ok N dr) : WOk N u := by
  have hd := ok.drb
  refine ⟨ok.n, h.gd.n, fun i hi => ?_, fun i hi => ?_, by rw [h.gd.now]; exact ok.now, by rw [h.gd.slot]; exact ok.k, by rw [h.gd.l]; exact ok.gl, by rw [h.gd.lm]; omega, by rw [h.gd.wi]; omega, by rw [h.gd.si]; exact ok.si.2⟩
  · cases ho : p.on i
    · rw [(off_quiet (h.off i hi ho).1).2]; exact (h.off i hi ho).2.1
    · by_cases e : i = p.k
      · subst e
        rw [((h.nd _ hi ho).sends ok ho).2]
        show _ ≤ (u.ms p.k).tm ∧ (u.ms p.k).tm ≤ _
        rw [(h.nd _ hi ho).tm]; exact ok.tm _ hi
      · rw [((h.nd i hi ho).quiet ok e).2]
        show _ ≤ (u.ms i).tm ∧ (u.ms i).tm ≤ _
        rw [(h.nd i hi ho).tm]; exact ok.tm i hi
  · cases ho : p.on i
    · rw [(off_quiet (h.off i hi ho).1).2]; exact (h.off i hi ho).2.2
    · by_cases e : i = p.k
      · subst e
        rw [((h.nd _ hi ho).sends ok ho).2]
        show (0 : Nat) < 900 ∧ (0 : Nat) < 900
        omega
      · rw [((h.nd i hi ho).quiet ok e).2]
        show (u.ms i).ty.a < 900 ∧ (u.ms i).ty.f < 900
        rw [(h.nd i hi ho).ty]
        exact ⟨ok.a i hi, by show 0 < 900; omega⟩
theorem G_on_eq (s : G) (N k : Nat) (dr now : Int) (l : List Int) (hs : s.slot = k) (hn : s.n = N) (hl : s.lm = 4 * dr + 9) (hnow : s.now = now) (hll : s.l = l) :
    s.on = if k + 1 = N then { s with slot := 0, now := now + termV (4 * dr + 9) l, l := [] } else { s with slot := k + 1 } := by
  unfold G.on
  rw [hs, hn, hl, hnow, hll]
theorem GdS.fwd {s : G} (h : GdS N dr p s) (hk : p.k < N) : GdS N dr (p.fwd N dr d) s.on := by
  rw [G_on_eq s N p.k dr p.now p.gl h.slot h.n h.lm h.now h.l]
  unfold SP.fwd
  by_cases e : p.k + 1 = N
  · rw [if_pos e, if_neg (by omega)]
    exact ⟨h.kn, rfl, h.n, h.wi, h.lm, rfl, rfl, h.si, h.sy⟩
  · rw [if_neg e, if_pos (by omega)]
    exact ⟨h.kn, rfl, h.n, h.wi, h.lm, h.now, h.l, h.si, h.sy⟩
theorem SP.mid_on (p : SP) : p.mid.on = p.on ∧ p.mid.k = p.k ∧ p.mid.r = p.r ∧ p.mid.tm = p.tm ∧ p.mid.now = p.now ∧ p.mid.da = p.da := by
  unfold SP.mid
  by_cases h : p.on p.k = true
  · rw [if_pos h]; exact ⟨rfl, rfl, rfl, rfl, rfl, rfl⟩
  · rw [if_neg h]; exact ⟨rfl, rfl, rfl, rfl, rfl, rfl⟩
theorem SP.fwd_on (p : SP) (N : Nat) (dr : Int) (d : Nat → Int) : (p.fwd N dr d).on = p.on ∧ (p.fwd N dr d).m = p.m ∧ (p.fwd N dr d).st = p.st ∧ (p.fwd N dr d).a = p.a ∧ (p.fwd N dr d).si = p.si ∧ (p.fwd N dr d).da = p.da := by
  unfold SP.fwd
  by_cases h : p.k + 1 < N
  · rw [if_pos h]; exact ⟨rfl, rfl, rfl, rfl, rfl, rfl⟩
  · rw [if_neg h]; exact ⟨rfl, rfl, rfl, rfl, rfl, rfl⟩
theorem Sy.step (h : Sy N dr d p u) (ok : p.Ok N dr) : Sy N dr d (p.next N dr d) (u.slot N) := by
  have hon : ∀ i, (p.next N dr d).on i = p.on i := fun i => by
    unfold SP.next
    rw [(SP.fwd_on p.mid N dr d).1, (SP.mid_on p).1]
  refine ⟨fun i hi ho => ?_, fun i hi ho => ?_, ?_⟩
  · rw [hon] at ho
    show NdS N dr d _ i (if i < N then (u.ms i).sendS.take (u.hear N i) else u.ms i)
    rw [if_pos hi, h.hear ok i hi ho]
    by_cases hk : p.on p.k = true
    · rw [if_pos hk]
      by_cases e : i = p.k
      · subst e
        exact (h.nd _ hi ho).own ok ho _
      · exact (h.nd i hi ho).hears ok hk hi ho e
    · rw [if_neg hk]
      exact (h.nd i hi ho).misses ok (by simpa using hk) hi ho
  · rw [hon] at ho
    have := h.off i hi ho
    have e : (u.slot N).ms i = u.ms i := by
      show (if i < N then (u.ms i).sendS.take (u.hear N i) else u.ms i) = u.ms i
      rw [if_pos hi, (off_quiet this.1).2]
      unfold NM.take
      rw [if_pos (.inl this.1.1)]
    rw [e]
    exact this
  · show GdS N dr _ (u.s.ended (u.heard N) (u.when_ N))
    obtain ⟨e1, e2⟩ := h.heard ok
    unfold G.ended
    rw [if_pos h.gd.kn, e1]
    by_cases hk : p.on p.k = true
    · rw [if_pos hk, if_pos (wfr_len p), e2 hk]
      have hm : p.mid = _ := show SP.mid p = _ from by unfold SP.mid; rw [if_pos hk]
      unfold G.heard
      refine GdS.fwd (p := p.mid) ?_ (by rw [hm]; exact ok.k)
      rw [hm, h.gd.slot, h.gd.sy p.k ok.k, h.gd.l, h.gd.now]
      cases hs : wsy p.k
      · rw [if_neg (by simp)]
        exact ⟨h.gd.kn, rfl, h.gd.n, h.gd.wi, h.gd.lm, rfl, rfl, rfl, h.gd.sy⟩
      · rw [if_pos rfl]
        exact ⟨h.gd.kn, rfl, h.gd.n, h.gd.wi, h.gd.lm, rfl, rfl, rfl, h.gd.sy⟩
    · rw [if_neg hk, if_neg (by simp)]
      have hm : p.mid = _ := show SP.mid p = _ from by unfold SP.mid; rw [if_neg hk]
      unfold G.missed
      rw [h.gd.si, h.gd.n, if_neg ok.si.1]
      refine GdS.fwd (p := p.mid) ?_ (by rw [hm]; exact ok.k)
      rw [hm]
      exact ⟨h.gd.kn, h.gd.slot, rfl, h.gd.wi, h.gd.lm, h.gd.now, h.gd.l, rfl, h.gd.sy⟩
end
end Go.Proofs.YtjoioojckekfhaaGreat

namespace Go.Proofs.YtjoioojckekfhaaGreat
open Fr (St F)
open Clk (avg)

/-- A node that listens for so many slots. -/
def lsN (N : Nat) (dr : Int) (d : Nat → Int) (al : List R4) (tm : Nat → Int) (da : Nat → List Int) (j i : Nat) : NM := { NM.new (gsmT N dr) i (d i) al with st := 1, tm := tm i, wt := j, da := da i }
/-- All listen. -/
structure Ls (N : Nat) (dr : Int) (d : Nat → Int) (al : List R4) (tm : Nat → Int) (da : Nat → List Int) (j : Nat) (u : WM) : Prop where
  nd : ∀ i, i < N → u.ms i = lsN N dr d al tm da j i
  gd : u.s = newG (gsmT N dr)
section
variable {N : Nat} {dr : Int} {d : Nat → Int} {al : List R4} {tm : Nat → Int} {da : Nat → List Int} {j : Nat} {u : WM}
theorem gsm_li (i : Nat) (hi : i < 8) : (gsmD i).li = 20 + 3 * ((i : Int) * 5 % 8) ∧ 20 ≤ (gsmD i).li ∧ (i ≠ 0 → 23 ≤ (gsmD i).li) := by
  have e : (gsmD i).li = 20 + 3 * ((i : Int) * 5 % 8) := rfl
  rw [e]
  omega
theorem lsN_me {i : Nat} (hi : i < N) : (lsN N dr d al tm da j i).me = gsmD i := gsm_at N dr i hi
theorem lsN_quiet {i : Nat} (hi : i < N) (h : (j : Int) + 1 < (gsmD i).li) : (lsN N dr d al tm da j i).sendK = 0 ∧ (lsN N dr d al tm da j i).sendS = lsN N dr d al tm da (j + 1) i := by
  unfold NM.sendK NM.sendS
  rw [lsN_me hi]
  rw [if_pos (show (lsN N dr d al tm da j i).st = 1 from rfl), if_pos (show ((lsN N dr d al tm da j i).wt : Int) + 1 < (gsmD i).li from h), if_pos (show (lsN N dr d al tm da j i).st = 1 from rfl), if_pos (show ((lsN N dr d al tm da j i).wt : Int) + 1 < (gsmD i).li from h)]
  exact ⟨rfl, rfl⟩
/-- A slot in which nobody begins. -/
theorem Ls.silent (h : Ls N dr d al tm da j u) (hN : 4 ≤ N ∧ N ≤ 8) (hd : 0 ≤ dr ∧ dr ≤ 200) (htm : ∀ i, i < N → -100000 ≤ tm i ∧ tm i ≤ 100000) (hj : j < 19) : WOk N u ∧ Ls N dr d al tm da (j + 1) (u.slot N) := by
  have hli : ∀ i, i < N → (j : Int) + 1 < (gsmD i).li := fun i hi => by have := (gsm_li i (by omega)).2.1; omega
  have hbs : ∀ i, u.bs N i = [] := fun i => by
    unfold WM.bs
    split
    · rename_i hi
      rw [h.nd i hi, sent_none (lsN_quiet hi (hli i hi)).1]
    · rfl
  have hwho : u.who N = -1 := by
    unfold WM.who G.pass WM.sd
    rw [h.gd, if_neg (by simp [newG])]
    refine fst_none fun k hk => ?_
    have hk : k < N := by have : (newG (gsmT N dr)).n = N := gsm_len N dr; omega
    rw [sF_m0 N _ _ k hk, hbs k]
    rfl
  refine ⟨⟨hN, by rw [h.gd]; exact gsm_len N dr, fun i hi => ?_, fun i hi => ?_, by rw [h.gd]; show _ ≤ (0 : Int) ∧ (0 : Int) ≤ _; omega, by rw [h.gd]; show 0 < N; omega, by rw [h.gd]; exact fun x hx => (by cases hx), by rw [h.gd]; show 0 ≤ 4 * dr + 9 ∧ 4 * dr + 9 ≤ 1000; omega, by rw [h.gd]; show 0 ≤ 4 * dr + 6 ∧ 4 * dr + 6 ≤ 1000; omega, by rw [h.gd]; show 0 ≤ 1000; omega⟩, ⟨fun i hi => ?_, ?_⟩⟩
  · rw [h.nd i hi, (lsN_quiet hi (hli i hi)).2]; exact htm i hi
  · rw [h.nd i hi, (lsN_quiet hi (hli i hi)).2]; show (0 : Nat) < 900 ∧ (0 : Nat) < 900; omega
  · show (if i < N then (u.ms i).sendS.take (u.hear N i) else u.ms i) = _
    have eh : u.hear N i = ⟨0, 0, [], [], 0⟩ := by
      unfold WM.hear
      rw [hwho, if_pos (by omega)]
    rw [if_pos hi, eh, h.nd i hi, (lsN_quiet hi (hli i hi)).2]
    unfold NM.take
    rw [if_neg (by show ¬ ((1 : Nat) = 0 ∨ (1 : Nat) = 5); omega), if_pos (show (lsN N dr d al tm da (j + 1) i).st = 1 from rfl)]
    have : NM.firstL (lsN N dr d al tm da (j + 1) i) ⟨0, 0, [], [], 0⟩ = none := rfl
    rw [this]
    simp only
    rw [if_neg (by simp)]
  · show u.s.ended (u.heard N) (u.when_ N) = _
    rw [show u.heard N = [] by unfold WM.heard; rw [hwho]; rfl, h.gd]
    exact ended_not _ rfl (tells_short (by simp) _) _
/-- The ward behind the first that begins: node 0, a slot on. -/
def p1 (da : Nat → List Int) (T : Int) : SP where
  on := fun _ => true
  r := 0
  k := 1
  m := 1
  st := fun i => if i = 0 then 2 else 3
  a := fun i => if i = 0 then 0 else 1
  tm := fun _ => T
  ck := fun i => if i = 0 then [0] else []
  so := fun i => if i = 0 then MS.new else NM.goods (MS.new.put 0 (da 0)) 1
  da := da
  now := T
  gl := []
  si := 0
/-- The frame by which node 0 begins. -/
def f0 (da : Nat → List Int) : F := ⟨3, ⟨0, 0, 1⟩, da 0⟩
theorem f0_is (hda : (da 0).length ≤ 8) : (f0 da).is = true := by
  rw [F.is_iff]
  exact ⟨by show (1 : Int) ≤ 3 ∧ (3 : Int) ≤ 3; omega, by show Fr.St.may ⟨0, 0, 1⟩ = true; decide, hda⟩
theorem tells0 (hda : (da 0).length ≤ 8) : Fr.err (f0 da).bytes NM.z3 = 0 ∧ Fr.res (f0 da).bytes NM.z3 = f0 da := wm_told (f0_is hda) (by show (3 : Int) ≠ 1; omega) NM.z3 (by decide)
/-- Node 0, as it begins. -/
def bgN (N : Nat) (dr : Int) (d : Nat → Int) (al : List R4) (tm : Nat → Int) (da : Nat → List Int) : NM := { NM.new (gsmT N dr) 0 (d 0) al with st := 2, tm := tm 0, wt := 0, da := da 0, ty := ⟨1, 0, 0⟩, se := true }
theorem lsN_begins (hN : 0 < N) : (lsN N dr d al tm da 19 0).sendK = 3 ∧ (lsN N dr d al tm da 19 0).sendS = bgN N dr d al tm da := by
  have e : ¬ ((lsN N dr d al tm da 19 0).wt : Int) + 1 < (gsmD 0).li := by show ¬ ((19 : Nat) : Int) + 1 < 20 + 3 * (((0 : Nat) : Int) * 5 % 8); omega
  unfold NM.sendK NM.sendS
  rw [lsN_me hN, if_pos (show (lsN N dr d al tm da 19 0).st = 1 from rfl), if_neg e, if_pos (show (lsN N dr d al tm da 19 0).st = 1 from rfl), if_neg e]
  refine ⟨rfl, ?_⟩
  unfold NM.begun
  have ej : (⟨0, 0, 0⟩ : TS).join ((lsN N dr d al tm da 19 0).i : Nat) = ⟨1, 0, 0⟩ := show (⟨0, 0, 0⟩ : TS).join ((0 : Nat) : Int) = ⟨1, 0, 0⟩ from by decide
  rw [ej]
  rfl
/-- The slot in which node 0 begins: all the others know it. -/
theorem Ls.begins (h : Ls N dr d al tm da 19 u) (hN : 4 ≤ N ∧ N ≤ 8) (hd : 0 ≤ dr ∧ dr ≤ 200) (htm : ∀ i, i < N → -100000 ≤ tm i ∧ tm i ≤ 100000) (hda : (da 0).length ≤ 8) : WOk N u ∧ Sy N dr d (p1 da (tm 0)) (u.slot N) := by
  have h0N : 0 < N := by omega
  obtain ⟨k0, s0⟩ := lsN_begins (dr := dr) (d := d) (al := al) (tm := tm) (da := da) h0N
  have hli : ∀ i, i < N → i ≠ 0 → ((19 : Nat) : Int) + 1 < (gsmD i).li := fun i hi h0 => by have := (gsm_li i (by omega)).2.2 h0; omega
  have hq := fun i hi h0 => lsN_quiet (N := N) (dr := dr) (d := d) (al := al) (tm := tm) (da := da) (j := 19) (i := i) hi (hli i hi h0)
  have hb0 : (lsN N dr d al tm da 19 0).sent = (f0 da).bytes := by
    unfold NM.sent
    rw [k0, if_neg (by omega), s0]
    rfl
  have hbs : ∀ i, i < N → u.bs N i = if i = 0 then (f0 da).bytes else [] := fun i hi => by
    unfold WM.bs
    rw [if_pos hi, h.nd i hi]
    by_cases e : i = 0
    · subst e; rw [if_pos rfl, hb0]
    · rw [if_neg e, sent_none (hq i hi e).1]
  have hat : ∀ i, i < N → u.at_ N i = tm i := fun i hi => by
    unfold WM.at_
    rw [if_pos hi, h.nd i hi]
    by_cases e : i = 0
    · subst e; rw [s0]; rfl
    · rw [(hq i hi e).2]; rfl
  have hlen : 0 < (f0 da).bytes.length := by rw [F.bytes_length]; omega
  have hwho : u.who N = 0 := by
    have hn : (newG (gsmT N dr)).n = N := gsm_len N dr
    unfold WM.who G.pass WM.sd
    rw [h.gd, if_neg (by simp [newG])]
    exact fst_hit (k := 0) (by omega) (by rw [sF_m0 N _ _ 0 h0N, hbs 0 h0N, if_pos rfl]; exact decide_eq_true hlen) (fun j hj => by omega)
  have hheard : u.heard N = (f0 da).bytes := by
    unfold WM.heard
    rw [hwho, if_neg (by omega)]
    show u.bs N 0 = _
    rw [hbs 0 h0N, if_pos rfl]
  have hwhen : u.when_ N = tm 0 := by
    unfold WM.when_
    rw [hwho, if_neg (by omega)]
    exact hat 0 h0N
  have hhear : ∀ i, i < N → u.hear N i = ⟨2, 2, (f0 da).bytes, (f0 da).bytes, tm 0 - tm i⟩ := fun i hi => by
    unfold WM.hear
    rw [hwho, if_neg (by omega), hheard, hwhen, hat i hi]
  obtain ⟨r1, r2⟩ := tells0 (da := da) hda
  refine ⟨⟨hN, by rw [h.gd]; exact gsm_len N dr, fun i hi => ?_, fun i hi => ?_, by rw [h.gd]; show _ ≤ (0 : Int) ∧ (0 : Int) ≤ _; omega, by rw [h.gd]; show 0 < N; omega, by rw [h.gd]; exact fun x hx => (by cases hx), by rw [h.gd]; show 0 ≤ 4 * dr + 9 ∧ 4 * dr + 9 ≤ 1000; omega, by rw [h.gd]; show 0 ≤ 4 * dr + 6 ∧ 4 * dr + 6 ≤ 1000; omega, by rw [h.gd]; show 0 ≤ 1000; omega⟩, ⟨fun i hi _ => ?_, fun i _ ho => (by cases ho), ?_⟩⟩
  · rw [h.nd i hi]
    by_cases e : i = 0
    · subst e; rw [s0]; exact htm 0 hi
    · rw [(hq i hi e).2]; exact htm i hi
  · rw [h.nd i hi]
    by_cases e : i = 0
    · subst e; rw [s0]; show (0 : Nat) < 900 ∧ (0 : Nat) < 900; omega
    · rw [(hq i hi e).2]; show (0 : Nat) < 900 ∧ (0 : Nat) < 900; omega
  · show NdS N dr d _ i (if i < N then (u.ms i).sendS.take (u.hear N i) else u.ms i)
    rw [if_pos hi, hhear i hi, h.nd i hi]
    have en : nxS ((gsmT N dr).ns.length : Nat) ((0 : Nat) : Int) = 1 ∧ nxR ((gsmT N dr).ns.length : Nat) (0 : Int) ((0 : Nat) : Int) = 0 := by
      rw [gsm_len]
      unfold nxS nxR
      rw [if_pos (by omega), if_pos (by omega)]
      exact ⟨rfl, rfl⟩
    have hgo : ∀ s : NM, s.t = gsmT N dr → s.sl = 0 → s.rd = 0 → s.goOn = { s with rd := 0, sl := 1, se := false } := fun s ht hsl hrd => by
      unfold NM.goOn
      simp only
      rw [ht, hsl, hrd, en.1, en.2, if_pos (by omega)]
      rfl
    by_cases e : i = 0
    · subst e
      rw [s0]
      have et : NM.take (bgN N dr d al tm da) ⟨2, 2, (f0 da).bytes, (f0 da).bytes, tm 0 - tm 0⟩ = NM.goOn { bgN N dr d al tm da with ck := [0] } := by
        unfold NM.take
        rw [if_neg (by show ¬ ((2 : Nat) = 0 ∨ (2 : Nat) = 5); omega), if_neg (by show ¬ (2 : Nat) = 1; omega), if_pos (show (bgN N dr d al tm da).sl = (bgN N dr d al tm da).i from rfl)]
        have : NM.meas (bgN N dr d al tm da) 0 0 = [0] := by
          unfold NM.meas NM.at_
          rw [if_pos]
          · rfl
          · show ((gsmT N dr).ns.getD 0 default).sy = true
            rw [gsm_at N dr 0 hi]
            rfl
        rw [if_pos (show (bgN N dr d al tm da).se = true from rfl)]
        show NM.goOn { lsN N dr d al tm da 19 0 with st := 2, wt := 0, sl := 0, ty := ⟨1, 0, 0⟩, se := true, ck := NM.meas _ 0 0 } = _
        rw [this]
        rfl
      rw [et, hgo _ rfl rfl rfl]
      exact ⟨rfl, rfl, rfl, rfl, rfl, rfl, rfl, rfl, rfl, rfl, rfl⟩
    · rw [(hq i hi e).2]
      have hT : NM.tells (lsN N dr d al tm da 20 i) (f0 da).bytes := by
        unfold NM.tells
        rw [r1, r2]
        refine ⟨rfl, by show (3 : Int) ≠ 1; omega, ?_, ?_⟩
        · show (0 : Int) < ((gsmT N dr).ns.length : Nat)
          rw [gsm_len]; omega
        · show (0 : Int) ≠ (i : Nat)
          omega
      have hF : NM.firstL (lsN N dr d al tm da 20 i) ⟨2, 2, (f0 da).bytes, (f0 da).bytes, tm 0 - tm i⟩ = some (f0 da).bytes := by
        unfold NM.firstL NM.rows
        show List.find? _ ([(f0 da).bytes] ++ [(f0 da).bytes]) = _
        rw [List.singleton_append]
        exact List.find?_cons_of_pos (by show decide (NM.tells _ _) = true; exact decide_eq_true hT)
      have et : NM.take (lsN N dr d al tm da (19 + 1) i) ⟨2, 2, (f0 da).bytes, (f0 da).bytes, tm 0 - tm i⟩ = (NM.knows (lsN N dr d al tm da 20 i) (f0 da) (tm 0 - tm i)).goOn := by
        unfold NM.take
        rw [if_neg (by show ¬ ((1 : Nat) = 0 ∨ (1 : Nat) = 5); omega), if_pos (show (lsN N dr d al tm da (19 + 1) i).st = 1 from rfl)]
        show (match NM.firstL (lsN N dr d al tm da 20 i) _ with | some l => _ | none => _) = _
        rw [hF]
        simp only
        rw [r2]
      rw [et, hgo _ rfl rfl rfl]
      have e1 : (p1 da (tm 0)).st i = 3 := if_neg e
      have e2 : (p1 da (tm 0)).a i = 1 := if_neg e
      have e3 : (p1 da (tm 0)).ck i = [] := if_neg e
      have e4 : (p1 da (tm 0)).so i = NM.goods (MS.new.put 0 (da 0)) 1 := if_neg e
      refine ⟨rfl, rfl, rfl, e1.symm, rfl, rfl, ?_, ?_, e3.symm, ?_, rfl⟩
      · rw [e2]
        show (⟨((1 : Int) % 256).toNat, 0, 0⟩ : TS).right (0 : Int) = ⟨1, 1, 0⟩
        decide
      · show tm i + (tm 0 - tm i) = tm 0
        omega
      · rw [e4]
        show NM.goods (MS.new.put (0 : Int) (da 0)) ((⟨((1 : Int) % 256).toNat, 0, 0⟩ : TS).right (0 : Int)).m = _
        rw [show (⟨((1 : Int) % 256).toNat, 0, 0⟩ : TS).right (0 : Int) = ⟨1, 1, 0⟩ from by decide]
  · show GdS N dr _ (u.s.ended (u.heard N) (u.when_ N))
    rw [hheard, hwhen, h.gd]
    have hn : (newG (gsmT N dr)).n = N := gsm_len N dr
    unfold G.ended
    rw [if_neg (by simp [newG])]
    unfold G.learnt
    have ht : Go.Proofs.YtjoioojckekfhaaGreat.tells (f0 da).bytes (newG (gsmT N dr)).n = true := by
      unfold Go.Proofs.YtjoioojckekfhaaGreat.tells
      rw [show (z0 : St) = NM.z3 from rfl, r1, r2, hn]
      simp [f0]
      omega
    rw [if_pos ht, show (z0 : St) = NM.z3 from rfl, r2]
    unfold G.on
    rw [if_neg (by show ¬ ((0 : Int).toNat + 1 = (newG (gsmT N dr)).n); rw [hn]; show ¬ (0 + 1 = N); omega)]
    refine ⟨rfl, rfl, hn, rfl, rfl, rfl, rfl, rfl, fun j hj => ?_⟩
    show ((gsmT N dr).ns.getD j default).sy = wsy j
    rw [gsm_at N dr j hj]
    rfl
end
end Go.Proofs.YtjoioojckekfhaaGreat

namespace Go.Proofs.YtjoioojckekfhaaGreat
open Fr (St F)
open Clk (avg)

section
variable {N : Nat} {dr : Int} {d : Nat → Int} {p : SP} {u : WM}
theorem avg_zeros {l : List Int} (h : ∀ x ∈ l, x = 0) (h4 : l.length ≤ 4) : avg l = 0 := by
  have := Clk.avg_bound (l := l) (B := 0) (by omega) (fun x hx => by rw [h x hx]; omega) h4
  omega
theorem termV_zeros {m : Int} {l : List Int} (h : ∀ x ∈ l, x = 0) (h4 : l.length ≤ 4) : termV m l = 0 := by
  unfold termV
  rw [avg_zeros h h4]
  split <;> rfl
theorem keep4_mem {l : List Int} {n x : Int} (h : x ∈ keep4 l n) : x ∈ l ∨ x = n := by
  unfold keep4 at h
  split at h
  · rcases List.mem_append.1 h with h | h
    · exact .inl (List.mem_of_mem_drop h)
    · exact .inr (by simpa using h)
  · rcases List.mem_append.1 h with h | h
    · exact .inl h
    · exact .inr (by simpa using h)
theorem keep4_len {l : List Int} {n : Int} (h : l.length ≤ 4) : 0 < (keep4 l n).length ∧ (keep4 l n).length ≤ 4 := by
  unfold keep4
  split <;> simp <;> omega
theorem keep4_map (l : List Int) (n c : Int) : (keep4 l n).map (· - c) = keep4 (l.map (· - c)) (n - c) := by
  unfold keep4
  rw [List.length_map]
  split <;> simp
theorem full_ins {k : Nat} (hk : k < 8) : ins (2 ^ k - 1) k = 2 ^ (k + 1) - 1 := by
  have : ∀ a : Fin 8, ins (2 ^ a.val - 1) a.val = 2 ^ (a.val + 1) - 1 := by decide +kernel
  exact this ⟨k, hk⟩
theorem full_has {N k : Nat} (hN : N ≤ 8) (hk : k < N) : ins (2 ^ N - 1) k = 2 ^ N - 1 := by
  have : ∀ (n : Fin 9) (a : Fin 8), a.val < n.val → ins (2 ^ n.val - 1) a.val = 2 ^ n.val - 1 := by decide +kernel
  exact this ⟨N, by omega⟩ ⟨k, by omega⟩ hk
theorem full_lt {N : Nat} (hN : N ≤ 8) : 2 ^ N - 1 < 256 := by
  have : ∀ n : Fin 9, 2 ^ n.val - 1 < 256 := by decide +kernel
  exact this ⟨N, by omega⟩
/-- How often a node was agreed with, at most. -/
def aB (N k i : Nat) : Nat := if i < k then k - i - 1 else k + N - i - 1
/-- The first round, from its second slot on. -/
structure FR (N : Nat) (T : Int) (p : SP) : Prop where
  on : ∀ i, p.on i = true
  r : p.r = 0
  k : 1 ≤ p.k ∧ p.k < N
  m : p.m = 2 ^ p.k - 1
  st : ∀ i, p.st i = if i = 0 then 2 else if i < p.k then 4 else 3
  a : ∀ i, i < N → p.a i ≤ aB N p.k i
  a1 : ∀ i, i < N → i + 1 ≠ p.k → 0 < p.a i
  tm : ∀ i, p.tm i = T
  ck : ∀ i, (p.ck i).length ≤ 4 ∧ ∀ x ∈ p.ck i, x = 0
  now : p.now = T
  gl : p.gl.length ≤ 4 ∧ ∀ x ∈ p.gl, x = 0
  si : p.si = 0
  da : ∀ i, (p.da i).length ≤ 8 ∧ bytesL (p.da i)
theorem aB_le (N k i : Nat) (h : 4 ≤ N ∧ N ≤ 8) (hk : k < N) : aB N k i ≤ 16 := by
  unfold aB; split <;> omega
theorem small_of {l : List Int} {B : Int} (hB : B ≤ 1000) (h : ∀ x ∈ l, -B ≤ x ∧ x ≤ B) : small l := fun x hx => by have := h x hx; omega
theorem fr1 (da : Nat → List Int) (T : Int) (hN : 4 ≤ N ∧ N ≤ 8) (hda : ∀ i, (da i).length ≤ 8 ∧ bytesL (da i)) : FR N T (p1 da T) := by
  refine ⟨fun _ => rfl, rfl, ⟨Nat.le_refl _, by show 1 < N; omega⟩, rfl, fun i => ?_, fun i hi => ?_, fun i _ h1 => ?_, fun _ => rfl, fun i => ?_, rfl, ⟨by show 0 ≤ 4; omega, fun x hx => (by cases hx)⟩, rfl, hda⟩
  · show (if i = 0 then 2 else 3) = if i = 0 then 2 else if i < 1 then 4 else 3
    by_cases h : i = 0
    · rw [if_pos h, if_pos h]
    · rw [if_neg h, if_neg h, if_neg (by omega)]
  · show (if i = 0 then 0 else 1) ≤ aB N 1 i
    unfold aB
    split <;> split <;> omega
  · show 0 < if i = 0 then 0 else 1
    have : i ≠ 0 := fun e => h1 (by rw [e]; rfl)
    rw [if_neg this]; omega
  · show (if i = 0 then [0] else []).length ≤ 4 ∧ ∀ x ∈ (if i = 0 then [0] else []), x = 0
    split <;> simp
theorem FR.ok {T : Int} (h : FR N T p) (hN : 4 ≤ N ∧ N ≤ 8) (hd : 0 ≤ dr ∧ dr ≤ 200) (hT : -1000 ≤ T ∧ T ≤ 1000) : p.Ok N dr := by
  have hk := h.k
  refine ⟨hN, hd, by rw [h.r]; omega, hk.2, by rw [h.m]; exact Nat.lt_of_le_of_lt (Nat.sub_le_sub_right (Nat.pow_le_pow_right (by omega) (show p.k ≤ 8 by omega)) 1) (by omega), fun i => ?_, fun i hi => by have := h.a i hi; have := aB_le N p.k i hN hk.2; omega, fun _ => h.a1 p.k hk.2 (by omega), fun i _ => by rw [h.tm]; omega, by rw [h.now]; omega, fun _ => by rw [h.tm, h.now]; omega, small_of (B := 0) (by omega) (fun x hx => by rw [h.gl.2 x hx]; omega), by rw [h.si]; omega, h.da, fun _ i _ _ => ?_⟩
  · rw [h.st]
    split
    · exact .inl rfl
    · split
      · exact .inr (.inr rfl)
      · exact .inr (.inl rfl)
  · have hz : ∀ x ∈ p.mid.ck i, x = 0 := fun x hx => by
      unfold SP.mid at hx
      rw [if_pos (h.on _)] at hx
      simp only at hx
      split at hx
      · rcases keep4_mem hx with e | e
        · exact (h.ck i).2 x e
        · rw [e, h.tm, h.tm]; omega
      · exact (h.ck i).2 x hx
    have hl : (p.mid.ck i).length ≤ 4 := by
      unfold SP.mid
      rw [if_pos (h.on _)]
      simp only
      split
      · exact (keep4_len (h.ck i).1).2
      · exact (h.ck i).1
    rw [avg_zeros hz hl]
    unfold wiB
    exact decide_eq_true (by omega)
/-- What the slot's node leaves, if it is on. -/
theorem mid_eq (h : p.on p.k = true) : p.mid = { p with m := ins p.m p.k, st := (fun i => if i = p.k then 4 else p.st i), a := (fun i => if i = p.k then 0 else p.a i + 1), ck := (fun i => if wsy p.k = true then keep4 (p.ck i) (p.tm p.k - p.tm i) else p.ck i), so := (fun i => if i = p.k then p.so i else ((p.so i).put p.k (p.da p.k)).member p.k (isB (ins p.m p.k) p.k)), gl := (if wsy p.k = true then keep4 p.gl (p.tm p.k - p.now) else p.gl), si := 0 } := by
  unfold SP.mid; rw [if_pos h]
theorem FR.next {T : Int} (h : FR N T p) (hN : 4 ≤ N ∧ N ≤ 8) (hlt : p.k + 1 < N) : FR N T (p.next N dr d) ∧ (p.next N dr d).k = p.k + 1 := by
  have hk := h.k
  unfold SP.next
  rw [mid_eq (h.on _)]
  unfold SP.fwd
  rw [if_pos (show p.k + 1 < N from hlt)]
  refine ⟨⟨h.on, h.r, ⟨by show 1 ≤ p.k + 1; omega, hlt⟩, ?_, fun i => ?_, fun i hi => ?_, fun i hi h1 => ?_, h.tm, fun i => ⟨?_, fun x hx => ?_⟩, h.now, ⟨?_, fun x hx => ?_⟩, rfl, h.da⟩, rfl⟩
  · show ins p.m p.k = 2 ^ (p.k + 1) - 1
    rw [h.m]
    exact full_ins (by omega)
  · show (if i = p.k then 4 else p.st i) = if i = 0 then 2 else if i < p.k + 1 then 4 else 3
    rw [h.st]
    by_cases e : i = p.k
    · rw [if_pos e, if_neg (by omega), if_pos (by omega)]
    · rw [if_neg e]
      by_cases e0 : i = 0
      · rw [if_pos e0, if_pos e0]
      · rw [if_neg e0, if_neg e0]
        by_cases e1 : i < p.k
        · rw [if_pos e1, if_pos (by omega)]
        · rw [if_neg e1, if_neg (by omega)]
  · show (if i = p.k then 0 else p.a i + 1) ≤ aB N (p.k + 1) i
    have := h.a i hi
    unfold aB at this ⊢
    split at this <;> split <;> split <;> omega
  · show 0 < if i = p.k then 0 else p.a i + 1
    have h1' : i + 1 ≠ p.k + 1 := h1
    rw [if_neg (by omega)]; omega
  · show (if wsy p.k = true then keep4 (p.ck i) (p.tm p.k - p.tm i) else p.ck i).length ≤ 4
    split
    · exact (keep4_len (h.ck i).1).2
    · exact (h.ck i).1
  · have hx : x ∈ (if wsy p.k = true then keep4 (p.ck i) (p.tm p.k - p.tm i) else p.ck i) := hx
    split at hx
    · rcases keep4_mem hx with e | e
      · exact (h.ck i).2 x e
      · rw [e, h.tm, h.tm]; omega
    · exact (h.ck i).2 x hx
  · show (if wsy p.k = true then keep4 p.gl (p.tm p.k - p.now) else p.gl).length ≤ 4
    split
    · exact (keep4_len h.gl.1).2
    · exact h.gl.1
  · have hx : x ∈ (if wsy p.k = true then keep4 p.gl (p.tm p.k - p.now) else p.gl) := hx
    split at hx
    · rcases keep4_mem hx with e | e
      · exact h.gl.2 x e
      · rw [e, h.tm, h.now]; omega
    · exact h.gl.2 x hx
/-- All go together: clocks that stand apart by their drifts alone. -/
structure ST (N : Nat) (dr : Int) (d : Nat → Int) (T : Int) (L : List Int) (p : SP) : Prop where
  on : ∀ i, p.on i = true
  r : 1 ≤ p.r ∧ p.r ≤ 1000
  k : p.k < N
  m : p.m = 2 ^ N - 1
  st : ∀ i, i < N → p.st i = if i = 0 ∧ p.k = 0 ∧ p.r = 1 then 2 else 4
  st3 : ∀ i, p.st i = 2 ∨ p.st i = 3 ∨ p.st i = 4
  a : ∀ i, i < N → p.a i ≤ aB N p.k i
  a1 : ∀ i, i < N → (i + 1) % N ≠ p.k → 0 < p.a i
  tm : ∀ i, p.tm i = T + d i
  ck : ∀ i, p.ck i = L.map (· - d i)
  now : p.now = T
  gl : p.gl = L
  len : L.length ≤ 4 ∧ (0 < p.k → 0 < L.length)
  lb : ∀ x ∈ L, -dr ≤ x ∧ x ≤ dr
  tb : -(1000 + dr * p.r) ≤ T ∧ T ≤ 1000 + dr * p.r
  si : p.si = 0
  da : ∀ i, (p.da i).length ≤ 8 ∧ bytesL (p.da i)
theorem FR.last {T : Int} (h : FR N T p) (hN : 4 ≤ N ∧ N ≤ 8) (hd : 0 ≤ dr) (hlt : p.k + 1 = N) (hT : -1000 ≤ T ∧ T ≤ 1000) : ST N dr d T [] (p.next N dr d) ∧ (p.next N dr d).k = 0 ∧ (p.next N dr d).r = 1 := by
  have hk := h.k
  have hz : ∀ i, termV (4 * dr + 9) (if wsy p.k = true then keep4 (p.ck i) (p.tm p.k - p.tm i) else p.ck i) = 0 := fun i => termV_zeros (fun x hx => by
    split at hx
    · rcases keep4_mem hx with e | e
      · exact (h.ck i).2 x e
      · rw [e, h.tm, h.tm]; omega
    · exact (h.ck i).2 x hx) (by
    split
    · exact (keep4_len (h.ck i).1).2
    · exact (h.ck i).1)
  have hg : termV (4 * dr + 9) (if wsy p.k = true then keep4 p.gl (p.tm p.k - p.now) else p.gl) = 0 := termV_zeros (fun x hx => by
    split at hx
    · rcases keep4_mem hx with e | e
      · exact h.gl.2 x e
      · rw [e, h.tm, h.now]; omega
    · exact h.gl.2 x hx) (by
    split
    · exact (keep4_len h.gl.1).2
    · exact h.gl.1)
  unfold SP.next
  rw [mid_eq (h.on _)]
  unfold SP.fwd
  rw [if_neg (show ¬ p.k + 1 < N by omega)]
  have er : (if p.r < 65535 then p.r + 1 else 0) = 1 := by rw [h.r]; rfl
  refine ⟨⟨h.on, ?_, by show 0 < N; omega, ?_, fun i hi => ?_, fun i => ?_, fun i hi => ?_, fun i hi h1 => ?_, fun i => ?_, fun i => rfl, ?_, rfl, ⟨by show 0 ≤ 4; omega, fun x => absurd x (Nat.lt_irrefl 0)⟩, fun x hx => (by cases hx), ?_, rfl, h.da⟩, rfl, er⟩
  · show 1 ≤ (if p.r < 65535 then p.r + 1 else 0) ∧ (if p.r < 65535 then p.r + 1 else 0) ≤ 1000
    rw [er]; omega
  · show ins p.m p.k = 2 ^ N - 1
    rw [h.m, full_ins (by omega), hlt]
  · show (if i = p.k then 4 else p.st i) = if i = 0 ∧ 0 = 0 ∧ (if p.r < 65535 then p.r + 1 else 0) = 1 then 2 else 4
    rw [h.st, er]
    by_cases e : i = p.k
    · rw [if_pos e, if_neg (by omega)]
    · rw [if_neg e]
      by_cases e0 : i = 0
      · rw [if_pos e0, if_pos (by omega)]
      · rw [if_neg e0, if_pos (by omega), if_neg (by omega)]
  · show (if i = p.k then 4 else p.st i) = 2 ∨ (if i = p.k then 4 else p.st i) = 3 ∨ (if i = p.k then 4 else p.st i) = 4
    rw [h.st]
    split
    · omega
    · split
      · omega
      · split <;> omega
  · show (if i = p.k then 0 else p.a i + 1) ≤ aB N 0 i
    have := h.a i hi
    unfold aB at this ⊢
    split at this <;> split <;> split <;> omega
  · show 0 < if i = p.k then 0 else p.a i + 1
    have h1' : (i + 1) % N ≠ 0 := h1
    rw [if_neg (fun e => h1' (by rw [e, hlt]; exact Nat.mod_self N))]
    omega
  · show p.tm i + termV (4 * dr + 9) (if wsy p.k = true then keep4 (p.ck i) (p.tm p.k - p.tm i) else p.ck i) + d i = T + d i
    rw [hz, h.tm]; omega
  · show p.now + termV (4 * dr + 9) (if wsy p.k = true then keep4 p.gl (p.tm p.k - p.now) else p.gl) = T
    rw [hg, h.now]; omega
  · show -(1000 + dr * (if p.r < 65535 then p.r + 1 else 0)) ≤ T ∧ T ≤ 1000 + dr * (if p.r < 65535 then p.r + 1 else 0)
    rw [er]; omega
/-- What was measured, behind this slot. -/
def l4 (d : Nat → Int) (k : Nat) (L : List Int) : List Int := if wsy k = true then keep4 L (d k) else L
theorem l4_len {d : Nat → Int} {k : Nat} {L : List Int} (h : L.length ≤ 4) (h0 : 0 < k → 0 < L.length) : (l4 d k L).length ≤ 4 ∧ 0 < (l4 d k L).length := by
  unfold l4
  split
  · exact ⟨(keep4_len h).2, (keep4_len h).1⟩
  · rename_i hs
    refine ⟨h, h0 ?_⟩
    rcases Nat.eq_zero_or_pos k with rfl | h
    · exact absurd rfl hs
    · exact h
theorem l4_bd {d : Nat → Int} {k : Nat} {L : List Int} {B : Int} (h : ∀ x ∈ L, -B ≤ x ∧ x ≤ B) (hd : -B ≤ d k ∧ d k ≤ B) : ∀ x ∈ l4 d k L, -B ≤ x ∧ x ≤ B := fun x hx => by
  unfold l4 at hx
  split at hx
  · rcases keep4_mem hx with e | e
    · exact h x e
    · rw [e]; exact hd
  · exact h x hx
theorem ST.mid {T : Int} {L : List Int} (h : ST N dr d T L p) : (∀ i, p.mid.ck i = (l4 d p.k L).map (· - d i)) ∧ p.mid.gl = l4 d p.k L := by
  rw [mid_eq (h.on _)]
  refine ⟨fun i => ?_, ?_⟩
  · show (if wsy p.k = true then keep4 (p.ck i) (p.tm p.k - p.tm i) else p.ck i) = _
    unfold l4
    rw [h.ck, h.tm, h.tm, show T + d p.k - (T + d i) = d p.k - d i by omega]
    split
    · rw [keep4_map]
    · rfl
  · show (if wsy p.k = true then keep4 p.gl (p.tm p.k - p.now) else p.gl) = _
    unfold l4
    rw [h.gl, h.tm, h.now, show T + d p.k - T = d p.k by omega]
theorem ST.avg_bd {T : Int} {L : List Int} (h : ST N dr d T L p) (hd0 : 0 ≤ dr) (hd : ∀ i, -dr ≤ d i ∧ d i ≤ dr) : -dr ≤ avg (l4 d p.k L) ∧ avg (l4 d p.k L) ≤ dr :=
  Clk.avg_bound hd0 (l4_bd h.lb (hd _)) (l4_len h.len.1 h.len.2).1
theorem ST.turn {T : Int} {L : List Int} (h : ST N dr d T L p) (hd0 : 0 ≤ dr) (hd : ∀ i, -dr ≤ d i ∧ d i ≤ dr) (i : Nat) : avg (p.mid.ck i) = avg (l4 d p.k L) - d i ∧ wiB (4 * dr + 9) (avg (p.mid.ck i)) = true := by
  have hb := h.avg_bd hd0 hd
  have hi := hd i
  obtain ⟨l1, l2⟩ := l4_len (d := d) h.len.1 h.len.2
  rw [h.mid.1 i, Clk.avg_map_sub _ _ l2 l1]
  refine ⟨rfl, ?_⟩
  unfold wiB
  exact decide_eq_true (by omega)
theorem dr_mul {dr r : Int} (h : 0 ≤ dr ∧ dr ≤ 2) (hr : 1 ≤ r ∧ r ≤ 1000) : 0 ≤ dr * r ∧ dr * r ≤ 2000 ∧ dr * (r + 1) = dr * r + dr := by
  refine ⟨Int.mul_nonneg h.1 (by omega), ?_, by rw [Int.mul_add, Int.mul_one]⟩
  rcases (by omega : dr = 0 ∨ dr = 1 ∨ dr = 2) with rfl | rfl | rfl <;> omega
theorem ST.ok {T : Int} {L : List Int} (h : ST N dr d T L p) (hN : 4 ≤ N ∧ N ≤ 8) (hd0 : 0 ≤ dr ∧ dr ≤ 2) (hd : ∀ i, -dr ≤ d i ∧ d i ≤ dr) : p.Ok N dr := by
  have hr := h.r
  have hk := h.k
  have htb := h.tb
  have hm := dr_mul hd0 h.r
  refine ⟨hN, by omega, by omega, h.k, by rw [h.m]; exact full_lt hN.2, h.st3, fun i hi => by have := h.a i hi; have := aB_le N p.k i hN h.k; omega, fun _ => h.a1 p.k h.k (fun e => ?_), fun i _ => by rw [h.tm]; have := hd i; omega, by rw [h.now]; omega, fun _ => by rw [h.tm, h.now]; have := hd p.k; omega, by rw [h.gl]; exact small_of (B := dr) (by omega) h.lb, by rw [h.si]; omega, h.da, fun _ i _ _ => (h.turn hd0.1 hd i).2⟩
  by_cases e1 : p.k + 1 = N
  · rw [e1, Nat.mod_self] at e; omega
  · rw [Nat.mod_eq_of_lt (by omega)] at e; omega
theorem ST.next {T : Int} {L : List Int} (h : ST N dr d T L p) (hN : 4 ≤ N ∧ N ≤ 8) (hd0 : 0 ≤ dr ∧ dr ≤ 2) (hd : ∀ i, -dr ≤ d i ∧ d i ≤ dr) (hr : p.r < 1000) : ∃ T' L', ST N dr d T' L' (p.next N dr d) ∧ (p.next N dr d).k = (p.k + 1) % N ∧ (p.next N dr d).r ≤ p.r + 1 ∧ (∀ i, i < N → (p.next N dr d).st i = 4) ∧ (L' = [] ∨ L' = l4 d p.k L) := by
  have hk := h.k
  have hr1 := h.r
  have htb := h.tb
  have hm := dr_mul hd0 h.r
  have hst : ∀ i, i < N → (if i = p.k then 4 else p.st i) = 4 := fun i hi => by
    split
    · rfl
    · rw [h.st i hi, if_neg (by omega)]
  have hst3 : ∀ i, (if i = p.k then 4 else p.st i) = 2 ∨ (if i = p.k then 4 else p.st i) = 3 ∨ (if i = p.k then 4 else p.st i) = 4 := fun i => by
    split
    · exact .inr (.inr rfl)
    · exact h.st3 i
  have hmid := mid_eq (h.on p.k)
  by_cases hlt : p.k + 1 < N
  · have en : p.next N dr d = { p.mid with k := p.k + 1 } := by
      unfold SP.next SP.fwd
      have : p.mid.k = p.k := (SP.mid_on p).2.1
      rw [this, if_pos hlt]
    refine ⟨T, l4 d p.k L, ?_, by rw [en, Nat.mod_eq_of_lt hlt], by rw [en]; show p.mid.r ≤ _; rw [(SP.mid_on p).2.2.1]; omega, fun i hi => by rw [en, hmid]; exact hst i hi, .inr rfl⟩
    obtain ⟨c1, c2⟩ := h.mid
    rw [en]
    rw [hmid] at c1 c2 ⊢
    refine ⟨h.on, hr1, hlt, ?_, fun i hi => ?_, hst3, fun i hi => ?_, fun i hi h1 => ?_, h.tm, c1, h.now, c2, ⟨(l4_len h.len.1 h.len.2).1, fun _ => (l4_len h.len.1 h.len.2).2⟩, l4_bd h.lb (hd _), htb, rfl, h.da⟩
    · show ins p.m p.k = 2 ^ N - 1
      rw [h.m, full_has hN.2 hk]
    · show (if i = p.k then 4 else p.st i) = if i = 0 ∧ p.k + 1 = 0 ∧ p.r = 1 then 2 else 4
      rw [hst i hi, if_neg (by omega)]
    · show (if i = p.k then 0 else p.a i + 1) ≤ aB N (p.k + 1) i
      have := h.a i hi
      unfold aB at this ⊢
      split at this <;> split <;> split <;> omega
    · show 0 < if i = p.k then 0 else p.a i + 1
      have h1' : (i + 1) % N ≠ p.k + 1 := h1
      rw [if_neg (fun e => h1' (by rw [e, Nat.mod_eq_of_lt hlt]))]
      omega
  · have en : p.next N dr d = { p.mid with k := 0, r := if p.r < 65535 then p.r + 1 else 0, tm := (fun i => p.tm i + termV (4 * dr + 9) (p.mid.ck i) + d i), ck := (fun _ => []), so := (fun i => (p.mid.so i).age), now := p.now + termV (4 * dr + 9) p.mid.gl, gl := [] } := by
      obtain ⟨m1, m2, m3, m4, m5, m6⟩ := SP.mid_on p
      unfold SP.next SP.fwd
      rw [m2, m3, m4, m5, if_neg hlt]
    have er : (if p.r < 65535 then p.r + 1 else 0) = p.r + 1 := if_pos (by omega)
    have hb := h.avg_bd hd0.1 hd
    have tg : termV (4 * dr + 9) p.mid.gl = avg (l4 d p.k L) := by
      rw [h.mid.2]
      unfold termV
      rw [if_pos]
      unfold wiB
      exact decide_eq_true (by omega)
    have tt : ∀ i, termV (4 * dr + 9) (p.mid.ck i) = avg (l4 d p.k L) - d i := fun i => by
      obtain ⟨e1, e2⟩ := h.turn hd0.1 hd i
      unfold termV
      rw [if_pos e2, e1]
    have hkN : (p.k + 1) % N = 0 := by rw [show p.k + 1 = N by omega]; exact Nat.mod_self N
    refine ⟨T + avg (l4 d p.k L), [], ?_, by rw [en, hkN], by rw [en]; show (if p.r < 65535 then p.r + 1 else 0) ≤ _; rw [er]; omega, fun i hi => by rw [en, hmid]; exact hst i hi, .inl rfl⟩
    rw [en]
    refine ⟨?_, ?_, by show 0 < N; omega, ?_, fun i hi => ?_, fun i => ?_, fun i hi => ?_, fun i hi h1 => ?_, fun i => ?_, fun i => rfl, ?_, rfl, ⟨by show 0 ≤ 4; omega, fun x => absurd x (Nat.lt_irrefl 0)⟩, fun x hx => (by cases hx), ?_, ?_, ?_⟩
    · rw [hmid]; exact h.on
    · show 1 ≤ (if p.r < 65535 then p.r + 1 else 0) ∧ (if p.r < 65535 then p.r + 1 else 0) ≤ 1000
      rw [er]; omega
    · show p.mid.m = _
      rw [hmid]
      show ins p.m p.k = 2 ^ N - 1
      rw [h.m, full_has hN.2 hk]
    · show p.mid.st i = if i = 0 ∧ 0 = 0 ∧ (if p.r < 65535 then p.r + 1 else 0) = 1 then 2 else 4
      rw [hmid, er]
      show (if i = p.k then 4 else p.st i) = _
      rw [hst i hi, if_neg (by omega)]
    · show p.mid.st i = 2 ∨ p.mid.st i = 3 ∨ p.mid.st i = 4
      rw [hmid]; exact hst3 i
    · show p.mid.a i ≤ aB N 0 i
      rw [hmid]
      show (if i = p.k then 0 else p.a i + 1) ≤ aB N 0 i
      have := h.a i hi
      unfold aB at this ⊢
      split at this <;> split <;> split <;> omega
    · show 0 < p.mid.a i
      rw [hmid]
      show 0 < if i = p.k then 0 else p.a i + 1
      have h1' : (i + 1) % N ≠ 0 := h1
      rw [if_neg (fun e => h1' (by rw [e]; exact hkN))]
      omega
    · show p.tm i + termV (4 * dr + 9) (p.mid.ck i) + d i = T + avg (l4 d p.k L) + d i
      rw [tt, h.tm]; omega
    · show p.now + termV (4 * dr + 9) p.mid.gl = T + avg (l4 d p.k L)
      rw [tg, h.now]
    · show -(1000 + dr * (if p.r < 65535 then p.r + 1 else 0)) ≤ T + avg (l4 d p.k L) ∧ T + avg (l4 d p.k L) ≤ 1000 + dr * (if p.r < 65535 then p.r + 1 else 0)
      rw [er, hm.2.2]; omega
    · show p.mid.si = 0
      rw [hmid]
    · show ∀ i, (p.mid.da i).length ≤ 8 ∧ bytesL (p.mid.da i)
      rw [hmid]; exact h.da
end
end Go.Proofs.YtjoioojckekfhaaGreat

namespace Go.Proofs.YtjoioojckekfhaaGreat
open Fr (St F)
open Clk (avg)

/-- So many slots behind their beginning. -/
def Wj (N : Nat) (dr : Int) (d : Nat → Int) (al : List R4) (tm : Nat → Int) (da : Nat → List Int) (j : Nat) (u : WM) : Prop :=
  u.sl = j ∧ ((j ≤ 19 ∧ Ls N dr d al tm da j u) ∨ (20 ≤ j ∧ ∃ p, Sy N dr d p u ∧ p.da = da ∧ ((FR N (tm 0) p ∧ p.k = j - 19) ∨ (19 + N ≤ j ∧ ∃ T L, ST N dr d T L p ∧ p.k = (j - 19) % N ∧ p.r ≤ j ∧ (20 + N ≤ j → ∀ i, i < N → p.st i = 4) ∧ ((∀ i, d i = 0) → ∀ x ∈ L, x = 0)))))
section
variable {N : Nat} {dr : Int} {d : Nat → Int} {al : List R4} {tm : Nat → Int} {da : Nat → List Int} {j : Nat} {u : WM}
theorem next_da (p : SP) : (p.next N dr d).da = p.da := by
  unfold SP.next
  rw [(SP.fwd_on p.mid N dr d).2.2.2.2.2, (SP.mid_on p).2.2.2.2.2]
theorem Wj.step (h : Wj N dr d al tm da j u) (hN : 4 ≤ N ∧ N ≤ 8) (hd0 : 0 ≤ dr ∧ dr ≤ 2) (hd : ∀ i, -dr ≤ d i ∧ d i ≤ dr) (htm : ∀ i, -1000 ≤ tm i ∧ tm i ≤ 1000) (hda : ∀ i, (da i).length ≤ 8 ∧ bytesL (da i)) (hj : j < 900) : WOk N u ∧ Wj N dr d al tm da (j + 1) (u.slot N) := by
  obtain ⟨hsl, h⟩ := h
  have hsl' : (u.slot N).sl = j + 1 := by show u.sl + 1 = _; rw [hsl]
  rcases h with ⟨hj19, h⟩ | ⟨hj20, p, hS, hpd, h⟩
  · by_cases e : j < 19
    · obtain ⟨w, l⟩ := h.silent hN (by omega) (fun i _ => by have := htm i; omega) e
      exact ⟨w, hsl', .inl ⟨by omega, l⟩⟩
    · obtain rfl : j = 19 := by omega
      obtain ⟨w, s⟩ := h.begins hN (by omega) (fun i _ => by have := htm i; omega) (hda 0).1
      exact ⟨w, hsl', .inr ⟨by omega, p1 da (tm 0), s, rfl, .inl ⟨fr1 da (tm 0) hN hda, rfl⟩⟩⟩
  · have hnd : (p.next N dr d).da = da := by rw [next_da, hpd]
    rcases h with ⟨h, hk⟩ | ⟨hjN, T, L, h, hk, hr, -, hz⟩
    · have ok := h.ok (dr := dr) hN (by omega) (htm 0)
      refine ⟨hS.wok ok, hsl', .inr ⟨by omega, p.next N dr d, hS.step ok, hnd, ?_⟩⟩
      by_cases hlt : p.k + 1 < N
      · obtain ⟨f, fk⟩ := h.next (dr := dr) (d := d) hN hlt
        exact .inl ⟨f, by rw [fk]; omega⟩
      · have hk2 := h.k
        obtain ⟨f, fk, fr⟩ := h.last (dr := dr) (d := d) hN hd0.1 (by omega) (htm 0)
        refine .inr ⟨by omega, tm 0, [], f, ?_, by rw [fr]; omega, fun h => by omega, fun _ x hx => by cases hx⟩
        rw [fk, show j + 1 - 19 = N by omega, Nat.mod_self]
    · have ok := h.ok hN hd0 hd
      obtain ⟨T', L', f, fk, fr, fs, fl⟩ := h.next hN hd0 hd (by omega)
      refine ⟨hS.wok ok, hsl', .inr ⟨by omega, p.next N dr d, hS.step ok, hnd, .inr ⟨by omega, T', L', f, ?_, by omega, fun _ => fs, fun h0 x hx => ?_⟩⟩⟩
      · rw [fk, hk, Nat.mod_add_mod, show j - 19 + 1 = j + 1 - 19 by omega]
      · rcases fl with rfl | rfl
        · cases hx
        · unfold l4 at hx
          split at hx
          · rcases keep4_mem hx with e | e
            · exact hz h0 x e
            · rw [e]; exact h0 _
          · exact hz h0 x hx
/-- All are Active, with one view; their clocks stand apart by their drifts. -/
theorem Wj.up (h : Wj N dr d al tm da j u) (hj : 20 + N ≤ j) : ∃ (r : Int) (k : Nat) (T : Int), ∀ i, i < N → (u.ms i).st = 4 ∧ (u.ms i).rd = r ∧ (u.ms i).sl = k ∧ (u.ms i).ty.m = 2 ^ N - 1 ∧ (u.ms i).tm = T + d i := by
  obtain ⟨-, h⟩ := h
  rcases h with ⟨h1, -⟩ | ⟨-, p, hS, -, h⟩
  · omega
  · rcases h with ⟨h, hk⟩ | ⟨-, T, L, h, -, -, hst, -⟩
    · have := h.k; omega
    · refine ⟨p.r, p.k, T, fun i hi => ?_⟩
      have hn := hS.nd i hi (h.on i)
      exact ⟨by rw [hn.st]; exact hst hj i hi, hn.rd, hn.sl, by rw [hn.ty]; exact h.m, by rw [hn.tm, h.tm]⟩
/-- A ward of which the first m are on. -/
def wO (N : Nat) (dr : Int) (dl : List Int) (al : List R4) (tm : Nat → Int) (m : Nat) : WM :=
  ⟨fun i => if i < m then lsN N dr (fun i => dl.getD i 0) al tm (fun _ => []) 0 i else NM.new (gsmT N dr) i (dl.getD i 0) al, newG (gsmT N dr), 0⟩
theorem wO_zero (N : Nat) (dr : Int) (dl : List Int) (al : List R4) (tm : Nat → Int) : wO N dr dl al tm 0 = WM.new (gsmT N dr) dl al := by
  unfold wO WM.new
  simp only [Nat.not_lt_zero, if_false]
theorem wO_ms (N : Nat) (dr : Int) (dl : List Int) (al : List R4) (tm : Nat → Int) (m : Nat) : (wO N dr dl al tm m).ms m = NM.new (gsmT N dr) m (dl.getD m 0) al := if_neg (Nat.lt_irrefl m)
theorem new_on (t : Tb.T) (i : Nat) (x : Int) (al : List R4) (a : Int) (ha : -1000 ≤ a ∧ a ≤ 1000) : (NM.new t i x al).onE a = 0 ∧ (NM.new t i x al).on a = { NM.new t i x al with st := 1, tm := a } := by
  have e : (NM.new t i x al).onE a = 0 := by
    unfold NM.onE
    rw [if_neg (by omega), if_neg (fun h => h.1 rfl)]
  refine ⟨e, ?_⟩
  unfold NM.on
  rw [if_pos e]
  rfl
theorem wO_succ (N : Nat) (dr : Int) (dl : List Int) (al : List R4) (tm : Nat → Int) (m : Nat) (h : -1000 ≤ tm m ∧ tm m ≤ 1000) :
    ((wO N dr dl al tm m).ms m).onE (tm m) = 0 ∧ ({ wO N dr dl al tm m with ms := upd' (wO N dr dl al tm m).ms m (((wO N dr dl al tm m).ms m).on (tm m)) } : WM) = wO N dr dl al tm (m + 1) := by
  rw [wO_ms]
  obtain ⟨e1, e2⟩ := new_on (gsmT N dr) m (dl.getD m 0) al (tm m) h
  refine ⟨e1, ?_⟩
  rw [e2]
  refine WM.alike (fun i => ?_) rfl rfl
  show upd' _ m _ i = if i < m + 1 then _ else _
  by_cases e : i = m
  · subst e
    rw [upd'_same, if_pos (Nat.lt_succ_self _)]
    rfl
  · rw [upd'_other _ _ _ e]
    show (if i < m then _ else _) = _
    by_cases h : i < m
    · rw [if_pos h, if_pos (by omega)]
    · rw [if_neg h, if_neg (by omega)]
theorem wO_all (N : Nat) (dr : Int) (dl : List Int) (al : List R4) (tm : Nat → Int) : Wj N dr (fun i => dl.getD i 0) al tm (fun _ => []) 0 (wO N dr dl al tm N) :=
  ⟨rfl, .inl ⟨by omega, fun i hi => if_pos hi, rfl⟩⟩
end
end Go.Proofs.YtjoioojckekfhaaGreat

namespace Go.Proofs.YtjoioojckekfhaaGreat
open Go.RowKit
open Tb (D T)

end Go.Proofs.YtjoioojckekfhaaGreat

namespace Go.Proofs.YtjoioojckekfhaaGreat
open Go.RowKit
open Tb (D T)

theorem WAt.state_ {B : Nat} {P : List Nat} {N x : Nat} {u : WM} {W : World} (h : WAt B P N W x u) (i : Nat) (hi : i < N) : Calls Tryz.prog 17 #[.pointer (some ⟨x, 0, none⟩), .int .i64 (i : Nat)] W fun e w' => e = .returned (.int .i64 ((u.ms i).st : Nat)) ∧ Below W.heap.size W w' := by
  obtain ⟨q, h⟩ := h
  exact wstate_in h i hi
theorem WAt.view_ {B : Nat} {P : List Nat} {N x : Nat} {u : WM} {W : World} (h : WAt B P N W x u) (i : Nat) (hi : i < N) : Calls Tryz.prog 18 #[.pointer (some ⟨x, 0, none⟩), .int .i64 (i : Nat)] W fun e w' => e = .returned (csV (u.ms i).rd (u.ms i).sl (u.ms i).ty.m) ∧ Below W.heap.size W w' := by
  obtain ⟨q, h⟩ := h
  exact wview_in h i hi
theorem wrap_pow8 {k : Nat} (hk : k ≤ 8) : wrap64 ((2 : Int) ^ k) = ((2 ^ k - 1 : Nat) : Int) + 1 := by
  have : ∀ (b : Fin 9), wrap64 ((2 : Int) ^ b.val) = ((2 ^ b.val - 1 : Nat) : Int) + 1 := by decide +kernel
  exact this ⟨k, by omega⟩
end Go.Proofs.YtjoioojckekfhaaGreat

namespace Go.Proofs.YtjoioojckekfhaaGreat
open Go.ChangeShapes Go.WideShapes Go.ChangeAt Go.RowKit

def rlW : List R4 := [⟨1, 10, 90, 1⟩, ⟨2, 0, 200, 0⟩]
set_option maxRecDepth 100000 in
set_option maxHeartbeats 2000000 in
theorem rules_wd (w : World) :
    Calls Tryz.prog 28 #[] w fun e w' => ∃ v, e = .returned v ∧ SeesRs w' w'.heap.size v rlW ∧ Below w.heap.size w w' := by
  go_enter Tryz.func28, Tryz.ntmps28
  go_wp2
  go_ret
  refine ⟨_, rfl, ⟨_, 2, rfl, by decide, by unfold maxLen; omega, fun _ => ⟨w.heap.size, 0, rfl, by simp, fun k hk => ?_⟩, fun h => by cases h⟩, (Below.refl w.heap.size w).alloc (Nat.le_refl _) _⟩
  have hk : k < 2 := hk
  rcases (by omega : k = 0 ∨ k = 1) with rfl | rfl <;> exact ⟨by rw [World.cell?_alloc_at _ _ _ _ rfl]; rfl, by rw [World.cell?_alloc_at _ _ _ _ rfl]; rfl, by rw [World.cell?_alloc_at _ _ _ _ rfl]; rfl, by rw [World.cell?_alloc_at _ _ _ _ rfl]; rfl⟩

theorem rlW_may : rlW.length ≤ 8 ∧ ∀ k, k < rlW.length → (rlW.getD k default).may := ⟨by decide, fun k hk => by
    have hk : k < 2 := hk
    rcases (by omega : k = 0 ∨ k = 1) with rfl | rfl <;> decide⟩
/-- Nobody's clock drifts. -/
def d0 (N : Nat) : Nat → Int := fun i => (List.replicate N (0 : Int)).getD i 0
theorem d0_eq (N i : Nat) : d0 N i = 0 := by
  unfold d0
  rw [List.getD_eq_getElem?_getD]
  by_cases h : i < N
  · rw [List.getElem?_replicate_of_lt h]; rfl
  · rw [List.getElem?_eq_none (by simpa using h)]; rfl
/-- A ward that is up, so many slots behind its beginning. -/
def Up (N j : Nat) (u : WM) : Prop := Wj N 2 (d0 N) rlW (fun _ => 0) (fun _ => []) j u
set_option maxRecDepth 100000 in
set_option maxHeartbeats 8000000 in
theorem up_wd (N : Nat) (N4 : 4 ≤ N) (N8 : N ≤ 8) (w : World) :
    Calls Tryz.prog 20 #[.int .i64 (N : Nat)] w fun e w' => ∃ x u, e = .returned (.pointer (some ⟨x, 0, none⟩)) ∧ Up N 60 u ∧ WAt w.heap.size [] N w' x u ∧ Below w.heap.size w w' := by
  have hs := fun W => Lib.hid (show Calls Tryz.prog 14 #[.int .i64 (N : Nat), .int .i64 2] W fun e w' => ∃ v, e = .returned (.agg #[v, .int .i64 2, .int .i64 14, .int .i64 17]) ∧ OwnsD w' W.heap.size v (gsmL N) ∧ Below W.heap.size W w' from some_wd N 2 (by omega) (by omega) W)
  have hr := fun W => Lib.hid (rules_wd W)
  have hmk : ∀ W : World, (Instr.makeSlice 31 (.int .i64 (N : Nat)) (.int .i64 (N : Nat))).run Tryz.prog W = .ok (.slice (some ⟨W.heap.size, 0, none⟩) N N) (W.alloc (.cells (ics N) 3)) := fun W => run_makeI N (by omega) W
  have hN := fun v dv rv W (hv : SeesT W W.heap.size v (gsmL N)) (hdv : SeesI W W.heap.size dv (List.replicate N 0)) (hr : SeesRs W W.heap.size rv rlW) => Lib.hid (wnew_some N 2 rv rlW N4 N8 (by omega) rlW_may.1 rlW_may.2 v dv W hv hdv hr)
  have hI := fun W => Lib.hid (sees_ics N (by omega) W)
  go_enter Tryz.func20, Tryz.ntmps20
  go_wp2_with fail
  go_cut [3, 4] from 8 (fun s3 s4 W => ∃ x, s3 = .pointer (some ⟨x, 0, none⟩) ∧ s4 = .int .i64 0 ∧ WAt w.heap.size [] N W x (wO N 2 (List.replicate N 0) rlW (fun _ => 0) 0) ∧ Below w.heap.size w W)
  case first =>
    go_region_with (first
      | (go_at_call 14; with_reducible refine (hs _).out.mono ?_; rintro e w1 ⟨v, rfl, ho, hb1⟩)
      | (go_at_call 28; with_reducible refine (hr _).out.mono ?_; rintro e w3 ⟨rv, rfl, hrv, hb3⟩)
      | (go_at_call 13; refine (hN _ _ _ _ ?_ ?_ ?_).out.mono ?_; (focus (refine (ho.sees.below ?_).more ?_ <;> (repeat' (first | with_reducible exact Below.refl _ _ | with_reducible assumption | with_reducible refine Below.alloc ?_ ?_ _ | with_reducible refine Below.drew ?_ | with_reducible refine Below.trans ?_ (Below.mono hb1 ?_) | with_reducible refine Below.trans ?_ (Below.mono hb3 ?_) | with_reducible refine Below.trans ?_ (Below.mono hb4 ?_) | (simp; done) | (simp; omega) | (have z1 := hb1.size; have z3 := hb3.size; simp at z1 z3 ⊢; omega) | (have z1 := hb1.size; have z3 := hb3.size; omega) | (have z1 := hb1.size; have z3 := hb3.size; simp at z1 z3; omega))))); (focus (first | (refine ((hI w1).out.below ?_).more ?_ <;> (repeat' (first | with_reducible exact Below.refl _ _ | with_reducible assumption | with_reducible refine Below.alloc ?_ ?_ _ | with_reducible refine Below.drew ?_ | with_reducible refine Below.trans ?_ (Below.mono hb1 ?_) | with_reducible refine Below.trans ?_ (Below.mono hb3 ?_) | with_reducible refine Below.trans ?_ (Below.mono hb4 ?_) | (simp; done) | (simp; omega) | (have z1 := hb1.size; have z3 := hb3.size; simp at z1 z3 ⊢; omega) | (have z1 := hb1.size; have z3 := hb3.size; omega) | (have z1 := hb1.size; have z3 := hb3.size; simp at z1 z3; omega))); done) | (refine ((hI w3).out.below ?_).more ?_ <;> (repeat' (first | with_reducible exact Below.refl _ _ | with_reducible assumption | with_reducible refine Below.alloc ?_ ?_ _ | with_reducible refine Below.drew ?_ | with_reducible refine Below.trans ?_ (Below.mono hb1 ?_) | with_reducible refine Below.trans ?_ (Below.mono hb3 ?_) | with_reducible refine Below.trans ?_ (Below.mono hb4 ?_) | (simp; done) | (simp; omega) | (have z1 := hb1.size; have z3 := hb3.size; simp at z1 z3 ⊢; omega) | (have z1 := hb1.size; have z3 := hb3.size; omega) | (have z1 := hb1.size; have z3 := hb3.size; simp at z1 z3; omega))); done) | (refine ((hI w).out.below ?_).more ?_ <;> (repeat' (first | with_reducible exact Below.refl _ _ | with_reducible assumption | with_reducible refine Below.alloc ?_ ?_ _ | with_reducible refine Below.drew ?_ | with_reducible refine Below.trans ?_ (Below.mono hb1 ?_) | with_reducible refine Below.trans ?_ (Below.mono hb3 ?_) | with_reducible refine Below.trans ?_ (Below.mono hb4 ?_) | (simp; done) | (simp; omega) | (have z1 := hb1.size; have z3 := hb3.size; simp at z1 z3 ⊢; omega) | (have z1 := hb1.size; have z3 := hb3.size; omega) | (have z1 := hb1.size; have z3 := hb3.size; simp at z1 z3; omega))); done) | (refine ((hI w1.drew).out.below ?_).more ?_ <;> (repeat' (first | with_reducible exact Below.refl _ _ | with_reducible assumption | with_reducible refine Below.alloc ?_ ?_ _ | with_reducible refine Below.drew ?_ | with_reducible refine Below.trans ?_ (Below.mono hb1 ?_) | with_reducible refine Below.trans ?_ (Below.mono hb3 ?_) | with_reducible refine Below.trans ?_ (Below.mono hb4 ?_) | (simp; done) | (simp; omega) | (have z1 := hb1.size; have z3 := hb3.size; simp at z1 z3 ⊢; omega) | (have z1 := hb1.size; have z3 := hb3.size; omega) | (have z1 := hb1.size; have z3 := hb3.size; simp at z1 z3; omega))); done) | (refine ((hI w3.drew).out.below ?_).more ?_ <;> (repeat' (first | with_reducible exact Below.refl _ _ | with_reducible assumption | with_reducible refine Below.alloc ?_ ?_ _ | with_reducible refine Below.drew ?_ | with_reducible refine Below.trans ?_ (Below.mono hb1 ?_) | with_reducible refine Below.trans ?_ (Below.mono hb3 ?_) | with_reducible refine Below.trans ?_ (Below.mono hb4 ?_) | (simp; done) | (simp; omega) | (have z1 := hb1.size; have z3 := hb3.size; simp at z1 z3 ⊢; omega) | (have z1 := hb1.size; have z3 := hb3.size; omega) | (have z1 := hb1.size; have z3 := hb3.size; simp at z1 z3; omega))); done) | (refine ((hI w.drew).out.below ?_).more ?_ <;> (repeat' (first | with_reducible exact Below.refl _ _ | with_reducible assumption | with_reducible refine Below.alloc ?_ ?_ _ | with_reducible refine Below.drew ?_ | with_reducible refine Below.trans ?_ (Below.mono hb1 ?_) | with_reducible refine Below.trans ?_ (Below.mono hb3 ?_) | with_reducible refine Below.trans ?_ (Below.mono hb4 ?_) | (simp; done) | (simp; omega) | (have z1 := hb1.size; have z3 := hb3.size; simp at z1 z3 ⊢; omega) | (have z1 := hb1.size; have z3 := hb3.size; omega) | (have z1 := hb1.size; have z3 := hb3.size; simp at z1 z3; omega))); done))); (focus (refine (hrv.below ?_).more ?_ <;> (repeat' (first | with_reducible exact Below.refl _ _ | with_reducible assumption | with_reducible refine Below.alloc ?_ ?_ _ | with_reducible refine Below.drew ?_ | with_reducible refine Below.trans ?_ (Below.mono hb1 ?_) | with_reducible refine Below.trans ?_ (Below.mono hb3 ?_) | with_reducible refine Below.trans ?_ (Below.mono hb4 ?_) | (simp; done) | (simp; omega) | (have z1 := hb1.size; have z3 := hb3.size; simp at z1 z3 ⊢; omega) | (have z1 := hb1.size; have z3 := hb3.size; omega) | (have z1 := hb1.size; have z3 := hb3.size; simp at z1 z3; omega))))); rintro e w4 ⟨x, rfl, hw, hb4⟩; (have hB : Below w.heap.size w w4 := by (repeat' (first | with_reducible exact Below.refl _ _ | with_reducible assumption | with_reducible refine Below.alloc ?_ ?_ _ | with_reducible refine Below.drew ?_ | with_reducible refine Below.trans ?_ (Below.mono hb1 ?_) | with_reducible refine Below.trans ?_ (Below.mono hb3 ?_) | with_reducible refine Below.trans ?_ (Below.mono hb4 ?_) | (simp; done) | (simp; omega) | (have z1 := hb1.size; have z3 := hb3.size; simp at z1 z3 ⊢; omega) | (have z1 := hb1.size; have z3 := hb3.size; omega) | (have z1 := hb1.size; have z3 := hb3.size; simp at z1 z3; omega)))))
      | fail)
    all_goals
      have hw0 : WAt w.heap.size [] N w4 x (wO N 2 (List.replicate N 0) rlW (fun _ => 0) 0) := by
        rw [wO_zero]
        exact hw.lower (by (repeat' (first | with_reducible exact Below.refl _ _ | with_reducible assumption | with_reducible refine Below.alloc ?_ ?_ _ | with_reducible refine Below.drew ?_ | with_reducible refine Below.trans ?_ (Below.mono hb1 ?_) | with_reducible refine Below.trans ?_ (Below.mono hb3 ?_) | with_reducible refine Below.trans ?_ (Below.mono hb4 ?_) | (simp; done) | (simp; omega) | (have z1 := hb1.size; have z3 := hb3.size; simp at z1 z3 ⊢; omega) | (have z1 := hb1.size; have z3 := hb3.size; omega) | (have z1 := hb1.size; have z3 := hb3.size; simp at z1 z3; omega))))
      go_wp2_with fail
      go_meet
      exact ⟨_, rfl, rfl, hw0, hB⟩
  case rest =>
    obtain ⟨x, rfl, rfl, hw0, hB⟩ := hcut
    have hB := Lib.hid hB
    have hw0 := Lib.hid hw0
    have hstep := Lib.hid (fun t u (h : Up N t u) (ht : t < 900) => (show WOk N u ∧ Up N (t + 1) (u.slot N) from h.step ⟨N4, N8⟩ (by omega) (fun i => by rw [d0_eq]; omega) (fun _ => by omega) (fun _ => ⟨by simp, fun x hx => by cases hx⟩) ht))
    have hJ0 := Lib.hid (show Up N 0 (wO N 2 (List.replicate N 0) rlW (fun _ => 0) N) from wO_all N 2 (List.replicate N 0) rlW (fun _ => 0))
    clear hN hI hr hs hmk
    go_wp2_with fail
    go_loopw [5] (fun i wr => ∃ j : Nat, j ≤ N ∧ i = .int .i64 j ∧ WAt w.heap.size [] N wr x (wO N 2 (List.replicate N 0) rlW (fun _ => 0) j) ∧ Below w.heap.size w wr) (fun i _ => N - (intOf i).toNat)
    case atStart => exact ⟨0, by omega, rfl, hw0.out, hB.out⟩
    case round =>
      clear hw0 hB
      obtain ⟨j, hj, rfl, hW, hB⟩ := hrel
      by_cases hlj : j < N
      · have r2 : decide ((j : Int) < (N : Nat)) = true := by simp; omega
        obtain ⟨e1, e2⟩ := wO_succ N 2 (List.replicate N 0) rlW (fun _ => 0) j (by show -1000 ≤ (0 : Int) ∧ (0 : Int) ≤ 1000; omega)
        have hst := wstep_on hW j hlj 0
        rw [e1, e2] at hst
        have hst := Lib.hid hst
        have hB := Lib.hid hB
        clear hW e1 e2 hstep hJ0
        go_wp2_with fail
        refine hst.out.mono ?_
        rintro _ w7 ⟨rfl, hw7, b7⟩
        have hB7 := Lib.hid (hB.out.trans b7.b)
        have hw7 := Lib.hid hw7
        clear hst hB b7
        go_wp2_with fail
        go_roundw
        case rel => exact ⟨j + 1, by omega, by go_num, hw7.out, hB7.out⟩
        case measure => simp [intOf]; omega
      · obtain rfl : j = N := by omega
        have r2 : decide ((j : Int) < (j : Nat)) = false := by simp
        have hW := Lib.hid hW
        have hB := Lib.hid hB
        go_wp2_with fail
        go_loopw [6] (fun i wr => ∃ t : Nat, t ≤ 60 ∧ i = .int .i64 t ∧ ∃ u, Up j t u ∧ WAt w.heap.size [] j wr x u ∧ Below w.heap.size w wr) (fun i _ => 60 - (intOf i).toNat)
        case atStart => exact ⟨0, by omega, rfl, _, hJ0.out, hW.out, hB.out⟩
        case round =>
          clear hW hB hJ0
          obtain ⟨t, ht, rfl, u, hJ, hW, hB⟩ := hrel
          by_cases hlt2 : t < 60
          · have r3 : decide ((t : Int) < 60) = true := by simp; omega
            obtain ⟨ok, hJ2⟩ := hstep.out t u hJ (by omega)
            have hst := Lib.hid (wstep_slot hW ok (by rw [hJ.1]; omega))
            have hJ2 := Lib.hid hJ2
            have hB := Lib.hid hB
            clear hW hJ ok hstep
            go_wp2_with fail
            refine hst.out.mono ?_
            rintro e w8 ⟨rfl, hW8, c8⟩
            have hB8 := Lib.hid (hB.out.trans c8.b)
            have hW8 := Lib.hid hW8
            clear hst hB c8
            go_wp2_with fail
            go_roundw
            case rel => exact ⟨t + 1, by omega, by go_num, _, hJ2.out, hW8.out, hB8.out⟩
            case measure => simp [intOf]; omega
          · obtain rfl : t = 60 := by omega
            have ec : ((60 : Nat) : Int) = 60 := rfl
            rw [ec]
            clear ec
            have r3 : decide ((60 : Int) < 60) = false := by decide
            have hst := fun i (hi : i < j) W (h : WAt w.heap.size [] j W x u) => Lib.hid (show Calls Tryz.prog 17 #[.pointer (some ⟨x, 0, none⟩), .int .i64 (i : Nat)] W fun e w' => e = .returned (.int .i64 4) ∧ Below W.heap.size W w' by
              have := h.state_ i hi
              obtain ⟨_, _, _, hup⟩ := hJ.up (by omega)
              rw [(hup i hi).1] at this
              exact this)
            have hJ := Lib.hid hJ
            have hW := Lib.hid hW
            have hB := Lib.hid hB
            clear hstep
            go_wp2_with fail
            go_loopw [7] (fun i wr => ∃ t : Nat, t ≤ j ∧ i = .int .i64 t ∧ WAt w.heap.size [] j wr x u ∧ Below w.heap.size w wr) (fun i _ => j - (intOf i).toNat)
            case atStart => exact ⟨0, by omega, rfl, hW.out, hB.out⟩
            case round =>
              clear hW hB
              obtain ⟨t, ht, rfl, hW, hB⟩ := hrel
              by_cases hlt3 : t < j
              · have r4 : decide ((t : Int) < (j : Nat)) = true := by simp; omega
                have h5 := hst t hlt3 _ hW
                have hW := Lib.hid hW
                have hB := Lib.hid hB
                clear hst
                go_wp2_with fail
                refine h5.out.mono ?_
                rintro e w9 ⟨rfl, c9⟩
                have hW9 := Lib.hid (hW.out.below c9)
                have hB9 := Lib.hid (hB.out.trans (c9.mono hB.out.size))
                clear h5 hW hB c9
                go_wp2_with fail
                go_roundw
                case rel => exact ⟨t + 1, by omega, by go_num, hW9.out, hB9.out⟩
                case measure => simp [intOf]; omega
              · obtain rfl : t = j := by omega
                have r4 : decide ((t : Int) < (t : Nat)) = false := by simp
                have hW := Lib.hid hW
                have hB := Lib.hid hB
                clear hst
                go_wp2_with fail
                go_ret
                exact ⟨x, u, rfl, hJ.out, hW.out, hB.out⟩
end Go.Proofs.YtjoioojckekfhaaGreat

namespace Go.Proofs.YtjoioojckekfhaaGreat
open Go.RowKit

theorem SeesL.setOther {w : World} {B : Nat} {v y z : Value} {l : List Int} {p : Addr} (h : SeesL w B v l) (hp : w.cell? p = some y) (hy : ∀ k, y ≠ .int .u8 k) : SeesL (w.setCell p z) B v l := ⟨by
  obtain ⟨A, c, rfl, h1, h2, h3, h4⟩ := h.at_
  refine ⟨A, c, rfl, h1, h2, fun h0 => ?_, h4⟩
  obtain ⟨b, off, rfl, hb, hc⟩ := h3 h0
  refine ⟨b, off, rfl, hb, fun j hj => ?_⟩
  have hcj := hc j hj
  rw [← hcj]
  refine World.cell?_setCell_other w _ _ z (fun e => ?_)
  rw [← e, hp] at hcj
  exact hy _ (Option.some.inj hcj)⟩
section
variable {B : Nat} {P : List Nat} {N x : Nat} {u : WM} {W : World}
set_option maxRecDepth 100000 in
set_option maxHeartbeats 2000000 in
theorem wstep_off (h : WAt B P N W x u) (i : Nat) (hi : i < N) :
    Calls Tryz.prog 16 #[.pointer (some ⟨x, 0, none⟩), .agg #[.int .i64 2, .int .i64 (i : Nat), .int .i64 0, .slice none 0 0, .slice none 0 0]] W fun e w' => e = .returned (.int .i64 0) ∧ WAt B P N w' x { u with ms := upd' u.ms i (u.ms i).off } ∧ Bw B P W w' := by
  have hb := (Below.refl W.heap.size W).alloc (Nat.le_refl _) (.cells #[.int .i64 2, .int .i64 (i : Nat), .int .i64 0, .slice none 0 0, .slice none 0 0] 39)
  have hw := h.bw_below hb
  obtain ⟨q, h1⟩ := h.box (.cells #[.int .i64 2, .int .i64 (i : Nat), .int .i64 0, .slice none 0 0, .slice none 0 0] 39)
  have hn := Lib.hid (wnode_in h1 i hi)
  have hs := Lib.hid (nodeMore.off (h1.nd i hi))
  go_enter Tryz.func16, Tryz.ntmps16
  go_wp2_with fail
  refine hn.out.mono ?_
  rintro _ _ ⟨rfl, rfl⟩
  go_wp2_with fail
  refine hs.out.mono ?_
  rintro _ w2 ⟨F', rfl, hn2, he⟩
  have h2 := Lib.hid (h1.eff hi hn2 he)
  have b2 := Lib.hid (h1.bw_eff hi he)
  clear h1 hn2 he hs hn
  go_wp2_with fail
  go_ret
  exact ⟨rfl, ⟨_, h2.out.less (fun p hp => List.mem_cons_of_mem _ hp)⟩, hw.trans (b2.out.less fun p hp => List.mem_cons_of_mem _ hp)⟩
set_option maxRecDepth 100000 in
set_option maxHeartbeats 2000000 in
theorem WAt.read_ (h : WAt B P N W x u) (i : Nat) (hi : i < N) (n : Int) :
    Calls Tryz.prog 21 #[.pointer (some ⟨x, 0, none⟩), .int .i64 (i : Nat), .int .i64 n] W fun e w' => ∃ v, e = .returned (.agg #[v, .int .i64 ((u.ms i).so.ga n), .bool ((u.ms i).so.gg n)]) ∧ SeesL w' w'.heap.size v ((u.ms i).so.gd n) ∧ Below W.heap.size W w' := by
  have hX := Blk.new W W.heap.size rfl #[.slice none 0 0, .int .i64 0, .bool false] 49
  have hb0 := (Below.refl W.heap.size W).alloc (Nat.le_refl _) (.cells #[.slice none 0 0, .int .i64 0, .bool false] 49)
  obtain ⟨q', h1⟩ := h.box (.cells #[.slice none 0 0, .int .i64 0, .bool false] 49)
  have hn := Lib.hid (wnode_in h1 i hi)
  have hs := Lib.hid (nodeMore.read n (h1.nd i hi))
  clear h h1
  generalize (u.ms i).so.ga n = a at *
  generalize (u.ms i).so.gg n = q at *
  generalize (u.ms i).so.gd n = L at *
  go_enter Tryz.func21, Tryz.ntmps21
  go_wp2_with fail
  refine hn.out.mono ?_
  rintro _ _ ⟨rfl, rfl⟩
  go_wp2_with fail
  refine hs.out.mono ?_
  rintro _ w3 ⟨v, rfl, hv, -, hb⟩
  obtain ⟨A, c, rfl, -⟩ := hv.at_
  have hX := hX.below hb (by simp)
  have x0 := hX.cell 0 (x := .slice none 0 0) rfl
  have x1 := hX.cell 1 (x := .int .i64 0) rfl
  have x2 := hX.cell 2 (x := .bool false) rfl
  have f0 := hX.frozen 0
  have f1 := hX.frozen 1
  have f2 := hX.frozen 2
  have HB := Lib.hid ((((hb0.trans (hb.mono (by simp))).setCell (p := ⟨W.heap.size, 0, none⟩) (by simp) (.slice A L.length c)).setCell (p := ⟨W.heap.size, 1, none⟩) (by simp) (.int .i64 a)).setCell (p := ⟨W.heap.size, 2, none⟩) (by simp) (.bool q))
  have hX1 := hX.set 0 (.slice A L.length c)
  have hX2 := hX1.set 1 (.int .i64 a)
  have hs' := Lib.hid ((((hv.setOther (z := .slice A L.length c) x0 (by simp)).setOther (z := .int .i64 a) (hX1.cell 1 (x := .int .i64 0) rfl) (by simp)).setOther (z := .bool q) (hX2.cell 2 (x := .bool false) rfl) (by simp)).more (by simp : w3.heap.size ≤ (((w3.setCell ⟨W.heap.size, 0, none⟩ (.slice A L.length c)).setCell ⟨W.heap.size, 1, none⟩ (.int .i64 a)).setCell ⟨W.heap.size, 2, none⟩ (.bool q)).heap.size))
  clear hs hX hX1 hX2 hv hb hb0 hn
  go_wp2
  refine bodyPost_ret (v := .agg #[.slice A L.length c, .int .i64 a, .bool q]) ?_ rfl ?_
  · rw [results_cell rfl]
    go_simp
  · exact ⟨_, rfl, hs'.out, HB.out⟩
end
end Go.Proofs.YtjoioojckekfhaaGreat

namespace Go.Proofs.YtjoioojckekfhaaGreat
open Fr (St F)
open Clk (avg)

theorem pm_other (s : MS) (k : Nat) (x : List Int) (b : Bool) (w : Nat) (h : w ≠ k) : ((s.put (k : Nat) x).member (k : Nat) b).d w = s.d w ∧ ((s.put (k : Nat) x).member (k : Nat) b).a w = s.a w ∧ ((s.put (k : Nat) x).member (k : Nat) b).g w = s.g w := by
  unfold MS.put MS.member
  split <;> split <;> simp [upd, h]
theorem pm_same (s : MS) (k : Nat) (x : List Int) (b : Bool) (hk : k < 8) (hx : x.length ≤ 8) : ((s.put (k : Nat) x).member (k : Nat) b).d k = x ∧ ((s.put (k : Nat) x).member (k : Nat) b).a k = 0 ∧ ((s.put (k : Nat) x).member (k : Nat) b).g k = b := by
  have h : isN ((k : Nat) : Int) := ⟨by omega, by omega⟩
  unfold MS.put MS.member
  rw [if_pos (And.intro h hx), if_pos h]
  simp [upd]
theorem full_isB {N k : Nat} (hN : N ≤ 8) (hk : k < N) : isB (2 ^ N - 1) ((k : Nat) : Int) = true := by
  have : ∀ (n : Fin 9) (a : Fin 8), a.val < n.val → isB (2 ^ n.val - 1) ((a.val : Nat) : Int) = true := by decide +kernel
  exact this ⟨N, by omega⟩ ⟨k, by omega⟩ hk
theorem older_le (a : Int) : older a ≤ a + 1 := by
  unfold older
  split <;> omega
/-- One of it has other data to tell. -/
def SP.wr (p : SP) (who : Nat) (l : List Int) : SP := { p with da := fun i => if i = who then l else p.da i }
section
variable {N : Nat} {dr : Int} {d : Nat → Int} {p : SP} {u : WM}
theorem NdS.me {i : Nat} {s : NM} (h : NdS N dr d p i s) (hi : i < N) : s.me = gsmD i := by
  show s.t.ns.getD s.i default = _
  rw [h.t, h.ix]
  exact gsm_at N dr i hi
theorem NdS.writeE {i : Nat} {s : NM} (h : NdS N dr d p i s) (hi : i < N) (l : List Int) : s.writeE l = (if 4 < l.length then 1 else 0) ∧ s.write l = (if 4 < l.length then s else { s with da := l }) := by
  unfold NM.writeE NM.write
  rw [h.me hi]
  have e : ((gsmD i).sz < (l.length : Int)) = (4 < l.length) := propext ⟨fun h => by have h : (4 : Int) < (l.length : Int) := h; omega, fun h => by show (4 : Int) < (l.length : Int); omega⟩
  by_cases h4 : 4 < l.length
  · rw [if_pos (e.mpr h4), if_pos (e.mpr h4), if_pos h4, if_pos h4]; exact ⟨rfl, rfl⟩
  · rw [if_neg (fun x => h4 (e.mp x)), if_neg (fun x => h4 (e.mp x)), if_neg h4, if_neg h4]; exact ⟨rfl, rfl⟩
theorem Sy.wrote (h : Sy N dr d p u) (who : Nat) (hw : who < N) (hon : p.on who = true) (l : List Int) (hl : l.length ≤ 4) : Sy N dr d (p.wr who l) { u with ms := upd' u.ms who ((u.ms who).write l) } := by
  refine ⟨fun i hi ho => ?_, fun i hi ho => ?_, ?_⟩
  · show NdS N dr d (p.wr who l) i (upd' u.ms who ((u.ms who).write l) i)
    by_cases e : i = who
    · subst e
      have hn := h.nd i hi ho
      rw [upd'_same, (hn.writeE hi l).2, if_neg (by omega)]
      exact ⟨hn.t, hn.ix, hn.dx, hn.st, hn.rd, hn.sl, hn.ty, hn.tm, hn.ck, hn.so, (if_pos rfl).symm⟩
    · rw [upd'_other _ _ _ e]
      have hn := h.nd i hi ho
      exact ⟨hn.t, hn.ix, hn.dx, hn.st, hn.rd, hn.sl, hn.ty, hn.tm, hn.ck, hn.so, hn.da.trans (if_neg e).symm⟩
  · have e : i ≠ who := fun e => by
      have ho : p.on i = false := ho
      rw [e, hon] at ho
      cases ho
    show ((upd' u.ms who ((u.ms who).write l) i).st = 0 ∧ (upd' u.ms who ((u.ms who).write l) i).se = false) ∧ (-100000 ≤ (upd' u.ms who ((u.ms who).write l) i).tm ∧ (upd' u.ms who ((u.ms who).write l) i).tm ≤ 100000) ∧ (upd' u.ms who ((u.ms who).write l) i).ty.a < 900 ∧ (upd' u.ms who ((u.ms who).write l) i).ty.f < 900
    rw [upd'_other _ _ _ e]
    exact h.off i hi ho
  · have g := h.gd
    exact ⟨g.kn, g.slot, g.n, g.wi, g.lm, g.now, g.l, g.si, g.sy⟩
theorem ST.wrote {T : Int} {L : List Int} (h : ST N dr d T L p) (who : Nat) (l : List Int) (hl : l.length ≤ 8 ∧ bytesL l) : ST N dr d T L (p.wr who l) :=
  ⟨h.on, h.r, h.k, h.m, h.st, h.st3, h.a, h.a1, h.tm, h.ck, h.now, h.gl, h.len, h.lb, h.tb, h.si, fun i => by
    show (if i = who then l else p.da i).length ≤ 8 ∧ bytesL (if i = who then l else p.da i)
    split
    · exact hl
    · exact h.da i⟩
theorem ST.next_so {T : Int} {L : List Int} (h : ST N dr d T L p) (i : Nat) : (p.next N dr d).so i = if p.k + 1 < N then (if i = p.k then p.so i else ((p.so i).put p.k (p.da p.k)).member p.k (isB (ins p.m p.k) p.k)) else (if i = p.k then p.so i else ((p.so i).put p.k (p.da p.k)).member p.k (isB (ins p.m p.k) p.k)).age := by
  have e : p.mid.so i = if i = p.k then p.so i else ((p.so i).put p.k (p.da p.k)).member p.k (isB (ins p.m p.k) p.k) := by rw [mid_eq (h.on _)]
  have ek : p.mid.k = p.k := (SP.mid_on p).2.1
  unfold SP.next SP.fwd
  rw [ek]
  split
  · exact e
  · show (p.mid.so i).age = _
    rw [e]
/-- What a node knows of one that says l. -/
def Knw (q : Nat) (who : Nat) (l : List Int) (s : MS) : Prop := s.d who = l ∧ s.g who = true ∧ s.a who ≤ (q : Nat)
theorem Knw.age {q who : Nat} {l : List Int} {s : MS} (h : Knw q who l s) : Knw (q + 1) who l s.age := ⟨h.1, h.2.1, by
  have := older_le (s.a who)
  have := h.2.2
  show older (s.a who) ≤ _
  omega⟩
theorem Knw.mono {q q' who : Nat} {l : List Int} {s : MS} (h : Knw q who l s) (hq : q ≤ q') : Knw q' who l s := ⟨h.1, h.2.1, by have := h.2.2; omega⟩
/-- It is up, and so many slots ago one of it began to say l. -/
def SdR (N : Nat) (dr : Int) (d : Nat → Int) (k0 who : Nat) (l : List Int) (j : Nat) (u : WM) : Prop :=
  u.sl = 60 + j ∧ ∃ p T L, Sy N dr d p u ∧ ST N dr d T L p ∧ p.k = (k0 + j) % N ∧ p.r ≤ 60 + j ∧ p.da who = l ∧ ((∀ t, t < j → (k0 + t) % N ≠ who) ∨ ∀ i, i < N → i ≠ who → Knw ((k0 + j) / N) who l (p.so i))
theorem SdR.step {k0 who j : Nat} {l : List Int} (h : SdR N dr d k0 who l j u) (hN : 4 ≤ N ∧ N ≤ 8) (hd0 : 0 ≤ dr ∧ dr ≤ 2) (hd : ∀ i, -dr ≤ d i ∧ d i ≤ dr) (hw : who < N) (hj : j < 900) : WOk N u ∧ SdR N dr d k0 who l (j + 1) (u.slot N) := by
  obtain ⟨hsl, p, T, L, hS, h, hk, hr, hda, hso⟩ := h
  have ok := h.ok hN hd0 hd
  obtain ⟨T', L', f, fk, fr, -⟩ := h.next hN hd0 hd (by omega)
  refine ⟨hS.wok ok, by show u.sl + 1 = _; rw [hsl]; rfl, p.next N dr d, T', L', hS.step ok, f, by rw [fk, hk, Nat.mod_add_mod]; rfl, by omega, by rw [next_da]; exact hda, ?_⟩
  have hq : (k0 + j) / N ≤ (k0 + (j + 1)) / N := Nat.div_le_div_right (by omega)
  have hq1 : ¬ p.k + 1 < N → (k0 + (j + 1)) / N = (k0 + j) / N + 1 := fun hn => by
    have h1 := Nat.div_add_mod (k0 + j) N
    have h2 := h.k
    have e : k0 + (j + 1) = N * ((k0 + j) / N + 1) := by rw [Nat.mul_add, Nat.mul_one]; omega
    rw [e, Nat.mul_div_cancel_left _ (by omega)]
  have hkn : ∀ i, Knw ((k0 + j) / N) who l (if i = p.k then p.so i else ((p.so i).put p.k (p.da p.k)).member p.k (isB (ins p.m p.k) p.k)) → Knw ((k0 + (j + 1)) / N) who l ((p.next N dr d).so i) := fun i hi => by
    rw [h.next_so]
    split
    · exact hi.mono hq
    · rename_i hn
      rw [hq1 hn]
      exact hi.age
  by_cases e : p.k = who
  · refine .inr fun i hi hne => hkn i ?_
    obtain ⟨e1, e2, e3⟩ := pm_same (p.so i) p.k (p.da p.k) (isB (ins p.m p.k) p.k) (by omega) (h.da _).1
    rw [if_neg (by omega)]
    rw [e] at e1 e2 e3 ⊢
    refine ⟨e1.trans hda, e3.trans ?_, by rw [e2]; exact Int.natCast_nonneg _⟩
    rw [h.m, full_has hN.2 hw, full_isB hN.2 hw]
  · rcases hso with hso | hso
    · refine .inl fun t ht => ?_
      by_cases h2 : t = j
      · rw [h2, ← hk]; exact e
      · exact hso t (by omega)
    · refine .inr fun i hi hne => hkn i ?_
      have h3 := hso i hi hne
      split
      · exact h3
      · obtain ⟨e1, e2, e3⟩ := pm_other (p.so i) p.k (p.da p.k) (isB (ins p.m p.k) p.k) who (fun e' => e e'.symm)
        exact ⟨e1.trans h3.1, e3.trans h3.2.1, by rw [e2]; exact h3.2.2⟩
/-- A round on all the others know it. -/
theorem SdR.done {k0 who : Nat} {l : List Int} (h : SdR N dr d k0 who l N u) (hN : 4 ≤ N ∧ N ≤ 8) (hk0 : k0 < N) (hw : who < N) (i : Nat) (hi : i < N) (hne : i ≠ who) : (u.ms i).so.gd (who : Nat) = l ∧ (u.ms i).so.gg (who : Nat) = true ∧ (u.ms i).so.ga (who : Nat) ≤ 1 := by
  obtain ⟨-, p, T, L, hS, h, -, -, -, hso⟩ := h
  have hn : isN ((who : Nat) : Int) := ⟨by omega, by omega⟩
  have hk : Knw ((k0 + N) / N) who l (p.so i) := by
    rcases hso with hso | hso
    · refine absurd ?_ (hso ((who + N - k0) % N) (Nat.mod_lt _ (by omega)))
      rw [Nat.add_mod_mod, show k0 + (who + N - k0) = who + N by omega, Nat.add_mod_right, Nat.mod_eq_of_lt hw]
    · exact hso i hi hne
  rw [Nat.add_div_right _ (by omega), Nat.div_eq_of_lt hk0] at hk
  rw [(hS.nd i hi (h.on i)).so]
  unfold MS.gd MS.gg MS.ga
  rw [if_pos hn, if_pos hn, if_pos hn, Int.toNat_natCast]
  exact ⟨hk.1, hk.2.1, hk.2.2⟩
/-- It is up, sixty slots behind its beginning. -/
def U60 (N : Nat) (dr : Int) (d : Nat → Int) (u : WM) : Prop := u.sl = 60 ∧ ∃ p T L, Sy N dr d p u ∧ ST N dr d T L p ∧ p.k = (41 % N + 0) % N ∧ p.r ≤ 60
theorem U60.write {who : Nat} {l : List Int} (h : U60 N dr d u) (hw : who < N) (hl : l.length ≤ 4) (hb : bytesL l) : SdR N dr d (41 % N) who l 0 { u with ms := upd' u.ms who ((u.ms who).write l) } := by
  obtain ⟨hsl, p, T, L, hS, h, hk, hr⟩ := h
  exact ⟨hsl, p.wr who l, T, L, hS.wrote who hw (h.on _) l hl, h.wrote who l ⟨by omega, hb⟩, hk, hr, if_pos rfl, .inl fun t ht => absurd ht (Nat.not_lt_zero t)⟩
theorem U60.writeE {who : Nat} (l : List Int) (h : U60 N dr d u) (hw : who < N) : (u.ms who).writeE l = if 4 < l.length then 1 else 0 := by
  obtain ⟨-, p, T, L, hS, h, -⟩ := h
  exact ((hS.nd who hw (h.on _)).writeE hw l).1
end
end Go.Proofs.YtjoioojckekfhaaGreat

namespace Go.Proofs.YtjoioojckekfhaaGreat
open Fr (St F)
open Clk (avg)

/-- All measures are 0, at most four. -/
def Zs (l : List Int) : Prop := l.length ≤ 4 ∧ ∀ x ∈ l, x = 0
theorem Zs.nil : Zs [] := ⟨by simp, fun x hx => by cases hx⟩
theorem Zs.keep {l : List Int} (h : Zs l) {x : Int} (hx : x = 0) : Zs (keep4 l x) := ⟨(keep4_len h.1).2, fun y hy => (keep4_mem hy).elim (h.2 y) (fun e => e.trans hx)⟩
theorem Zs.term {l : List Int} (h : Zs l) (m : Int) : termV m l = 0 := termV_zeros h.2 h.1
theorem Zs.wi {l : List Int} (h : Zs l) {m : Int} (hm : 0 ≤ m) : wiB m (avg l) = true := by
  rw [avg_zeros h.2 h.1]
  unfold wiB
  exact decide_eq_true (by omega)
theorem delF {N k : Nat} (hN : N ≤ 8) (hk : k < N) : del (2 ^ N - 1) k < 256 ∧ isB (del (2 ^ N - 1) k) ((k : Nat) : Int) = false ∧ ins (del (2 ^ N - 1) k) k = 2 ^ N - 1 ∧ del (del (2 ^ N - 1) k) k = del (2 ^ N - 1) k ∧ del (2 ^ N - 1) k = 2 ^ N - 1 - 2 ^ k := by
  have : ∀ (n : Fin 9) (a : Fin 8), a.val < n.val → del (2 ^ n.val - 1) a.val < 256 ∧ isB (del (2 ^ n.val - 1) a.val) ((a.val : Nat) : Int) = false ∧ ins (del (2 ^ n.val - 1) a.val) a.val = 2 ^ n.val - 1 ∧ del (del (2 ^ n.val - 1) a.val) a.val = del (2 ^ n.val - 1) a.val ∧ del (2 ^ n.val - 1) a.val = 2 ^ n.val - 1 - 2 ^ a.val := by decide +kernel
  exact this ⟨N, by omega⟩ ⟨k, by omega⟩ hk
theorem del_ins {N w k : Nat} (hN : N ≤ 8) (hw : w < N) (hk : k < N) (h : k ≠ w) : ins (del (2 ^ N - 1) w) k = del (2 ^ N - 1) w := by
  have : ∀ (n : Fin 9) (b a : Fin 8), b.val < n.val → a.val < n.val → a.val ≠ b.val → ins (del (2 ^ n.val - 1) b.val) a.val = del (2 ^ n.val - 1) b.val := by decide +kernel
  exact this ⟨N, by omega⟩ ⟨w, by omega⟩ ⟨k, by omega⟩ hw hk h
theorem insF {m k : Nat} (hm : m < 256) (hk : k < 8) : ins m k < 256 ∧ del m k < 256 := by
  have : ∀ (a : Fin 256) (b : Fin 8), ins a.val b.val < 256 ∧ del a.val b.val < 256 := by decide +kernel
  exact this ⟨m, hm⟩ ⟨k, hk⟩
/-- It goes, all times alike; at most one is off; nobody agreed more than so often. -/
structure QT (N : Nat) (T : Int) (C : Nat) (p : SP) : Prop where
  off1 : ∀ i j, i < N → j < N → p.on i = false → p.on j = false → i = j
  r : 1 ≤ p.r ∧ p.r ≤ 1000
  k : p.k < N
  m : p.m < 256
  st3 : ∀ i, p.st i = 2 ∨ p.st i = 3 ∨ p.st i = 4
  a : ∀ i, i < N → p.a i ≤ C
  a1 : ∀ i, i < N → p.on i = true → (i + 1) % N ≠ p.k → ¬ ((i + 2) % N = p.k ∧ p.on ((i + 1) % N) = false) → 0 < p.a i
  tm : ∀ i, p.tm i = T
  ck : ∀ i, Zs (p.ck i)
  now : p.now = T
  gl : Zs p.gl
  si : p.si ≤ 1 ∧ (p.on p.k = false → p.si = 0)
  da : ∀ i, (p.da i).length ≤ 8 ∧ bytesL (p.da i)
section
variable {N : Nat} {T : Int} {C : Nat} {p : SP} {u : WM} {d : Nat → Int}
theorem mod_succ {N i : Nat} (hN : 4 ≤ N) (hi : i < N) : (i + 1) % N = (if i + 1 < N then i + 1 else 0) ∧ (i + 2) % N = (if i + 2 < N then i + 2 else i + 2 - N) := by
  constructor
  · split
    · exact Nat.mod_eq_of_lt (by omega)
    · rw [show i + 1 = N by omega]; exact Nat.mod_self N
  · split
    · exact Nat.mod_eq_of_lt (by omega)
    · rw [Nat.mod_eq_sub_mod (by omega)]; exact Nat.mod_eq_of_lt (by omega)
theorem mid_off (h : p.on p.k = false) : p.mid = { p with m := del p.m p.k, so := (fun i => (p.so i).member p.k (isB (del p.m p.k) p.k)), si := p.si + 1 } := by
  unfold SP.mid
  rw [if_neg (by rw [h]; simp)]
theorem QT.midck (h : QT N T C p) (i : Nat) : Zs (p.mid.ck i) := by
  cases ho : p.on p.k
  · rw [mid_off ho]; exact h.ck i
  · rw [mid_eq ho]
    show Zs (if wsy p.k = true then keep4 (p.ck i) (p.tm p.k - p.tm i) else p.ck i)
    split
    · exact (h.ck i).keep (by rw [h.tm, h.tm]; omega)
    · exact h.ck i
theorem QT.midgl (h : QT N T C p) : Zs p.mid.gl := by
  cases ho : p.on p.k
  · rw [mid_off ho]; exact h.gl
  · rw [mid_eq ho]
    show Zs (if wsy p.k = true then keep4 p.gl (p.tm p.k - p.now) else p.gl)
    split
    · exact h.gl.keep (by rw [h.tm, h.now]; omega)
    · exact h.gl
theorem QT.ok (h : QT N T C p) (hN : 4 ≤ N ∧ N ≤ 8) (hC : C < 900) (hT : -2000 ≤ T ∧ T ≤ 2000) : p.Ok N 2 := by
  have hr := h.r
  have hs := h.si.1
  refine ⟨hN, by omega, by omega, h.k, h.m, h.st3, fun i hi => by have := h.a i hi; omega, fun ho => h.a1 p.k h.k ho ?_ ?_, fun i _ => by rw [h.tm]; omega, by rw [h.now]; omega, fun ho => by rw [h.tm, h.now]; omega, ?_, by omega, h.da, fun _ i _ _ => (h.midck i).wi (by omega)⟩
  · have := (mod_succ hN.1 h.k).1; rw [this]; split <;> omega
  · have := (mod_succ hN.1 h.k).2; rw [this]; split <;> omega
  · exact small_of (B := 0) (by omega) (fun x hx => by have := h.gl.2 x hx; omega)
theorem QT.midF (h : QT N T C p) : p.mid.m = (if p.on p.k = true then ins p.m p.k else del p.m p.k) ∧ (∀ i, p.mid.st i = if p.on p.k = true ∧ i = p.k then 4 else p.st i) ∧ (∀ i, p.mid.a i = if p.on p.k = true then (if i = p.k then 0 else p.a i + 1) else p.a i) ∧ p.mid.si = (if p.on p.k = true then 0 else 1) := by
  cases ho : p.on p.k
  · rw [mid_off ho]
    refine ⟨by simp, fun i => by simp, fun i => by simp, ?_⟩
    show p.si + 1 = _
    rw [h.si.2 ho]
    simp
  · rw [mid_eq ho]
    exact ⟨by simp, fun i => by simp, fun i => by simp, by simp⟩
theorem next_so' (p : SP) (N : Nat) (dr : Int) (d : Nat → Int) (i : Nat) : (p.next N dr d).so i = if p.k + 1 < N then p.mid.so i else (p.mid.so i).age := by
  have ek : p.mid.k = p.k := (SP.mid_on p).2.1
  unfold SP.next SP.fwd
  rw [ek]
  split <;> rfl
/-- What goes on of it. -/
theorem QT.next (h : QT N T C p) (hN : 4 ≤ N ∧ N ≤ 8) (hd : ∀ i, d i = 0) (hr : p.r < 1000) : QT N T (C + 1) (p.next N 2 d) ∧ (p.next N 2 d).k = (p.k + 1) % N ∧ (p.next N 2 d).r ≤ p.r + 1 := by
  obtain ⟨e1, e2, e3, -, -, e6⟩ := SP.mid_on p
  obtain ⟨fm, fs, fa, fi⟩ := h.midF
  have hk := h.k
  have h1r := h.r
  have hk' := mod_succ hN.1 h.k
  -- all but slot, round, times
  have hm : p.mid.m < 256 := by
    rw [fm]
    split
    · exact (insF h.m (by omega)).1
    · exact (insF h.m (by omega)).2
  have hst : ∀ i, p.mid.st i = 2 ∨ p.mid.st i = 3 ∨ p.mid.st i = 4 := fun i => by
    rw [fs]
    split
    · exact .inr (.inr rfl)
    · exact h.st3 i
  have ha : ∀ i, i < N → p.mid.a i ≤ C + 1 := fun i hi => by
    have := h.a i hi
    rw [fa]
    split
    · split <;> omega
    · omega
  have ha1 : ∀ k', k' = (p.k + 1) % N → ∀ i, i < N → p.mid.on i = true → (i + 1) % N ≠ k' → ¬ ((i + 2) % N = k' ∧ p.mid.on ((i + 1) % N) = false) → 0 < p.mid.a i := fun k' ek i hi ho h1 h2 => by
    subst ek
    rw [e1] at ho h2
    have hik : i ≠ p.k := fun e => h1 (by rw [e])
    rw [fa]
    split
    · omega
    · rename_i hoff
      have hoff : p.on p.k = false := by simpa using hoff
      have mi := mod_succ hN.1 hi
      have hne : (i + 1) % N ≠ p.k := fun e => by
        refine h2 ⟨?_, by rw [e]; exact hoff⟩
        rw [← e, Nat.mod_add_mod]
      refine h.a1 i hi ho hne (fun hx => hne ?_)
      exact h.off1 _ _ (Nat.mod_lt _ (by omega)) hk hx.2 hoff
  have hsi : ∀ k', k' = (p.k + 1) % N → p.mid.si ≤ 1 ∧ (p.mid.on k' = false → p.mid.si = 0) := fun k' ek => by
    rw [fi, e1]
    subst ek
    refine ⟨by split <;> omega, fun ho => ?_⟩
    split
    · rfl
    · rename_i hoff
      have hoff : p.on p.k = false := by simpa using hoff
      have e := h.off1 _ _ (Nat.mod_lt _ (by omega)) hk ho hoff
      rw [hk'.1] at e
      split at e <;> omega
  have hda : ∀ i, (p.mid.da i).length ≤ 8 ∧ bytesL (p.mid.da i) := by rw [e6]; exact h.da
  have hoff1 : ∀ i j, i < N → j < N → p.mid.on i = false → p.mid.on j = false → i = j := by rw [e1]; exact h.off1
  have e4 : ∀ i, p.mid.tm i = T := fun i => by rw [(SP.mid_on p).2.2.2.1]; exact h.tm i
  have e5 : p.mid.now = T := by rw [(SP.mid_on p).2.2.2.2.1]; exact h.now
  by_cases hlt : p.k + 1 < N
  · have en : p.next N 2 d = { p.mid with k := p.k + 1 } := by
      unfold SP.next SP.fwd
      rw [e2, if_pos hlt]
    have ek : p.k + 1 = (p.k + 1) % N := (Nat.mod_eq_of_lt hlt).symm
    rw [en]
    exact ⟨⟨hoff1, by show 1 ≤ p.mid.r ∧ p.mid.r ≤ 1000; rw [e3]; exact h1r, hlt, hm, hst, ha, ha1 _ ek, e4, h.midck, e5, h.midgl, hsi _ ek, hda⟩, ek, by show p.mid.r ≤ _; rw [e3]; omega⟩
  · have en : p.next N 2 d = { p.mid with k := 0, r := if p.r < 65535 then p.r + 1 else 0, tm := (fun i => p.mid.tm i + termV (4 * 2 + 9) (p.mid.ck i) + d i), ck := (fun _ => []), so := (fun i => (p.mid.so i).age), now := p.mid.now + termV (4 * 2 + 9) p.mid.gl, gl := [] } := by
      unfold SP.next SP.fwd
      rw [e2, e3, if_neg hlt]
    have er : (if p.r < 65535 then p.r + 1 else 0) = p.r + 1 := if_pos (by omega)
    have ek : 0 = (p.k + 1) % N := by rw [show p.k + 1 = N by omega]; exact (Nat.mod_self N).symm
    rw [en]
    refine ⟨⟨hoff1, by show 1 ≤ (if p.r < 65535 then p.r + 1 else 0) ∧ (if p.r < 65535 then p.r + 1 else 0) ≤ 1000; rw [er]; omega, by show 0 < N; omega, hm, hst, ha, ha1 _ ek, fun i => ?_, fun _ => Zs.nil, ?_, Zs.nil, hsi _ ek, hda⟩, ek, by show (if p.r < 65535 then p.r + 1 else 0) ≤ _; rw [er]; omega⟩
    · show p.mid.tm i + termV (4 * 2 + 9) (p.mid.ck i) + d i = T
      rw [e4, (h.midck i).term, hd]; omega
    · show p.mid.now + termV (4 * 2 + 9) p.mid.gl = T
      rw [e5, h.midgl.term]; omega
theorem next_F (h : QT N T C p) : (p.next N 2 d).on = p.on ∧ (p.next N 2 d).m = (if p.on p.k = true then ins p.m p.k else del p.m p.k) ∧ (∀ i, (p.next N 2 d).st i = if p.on p.k = true ∧ i = p.k then 4 else p.st i) := by
  obtain ⟨fm, fs, -, -⟩ := h.midF
  obtain ⟨g1, g2, g3, -⟩ := SP.fwd_on p.mid N 2 d
  exact ⟨g1.trans (SP.mid_on p).1, g2.trans fm, fun i => (congrFun g3 i).trans (fs i)⟩
end
end Go.Proofs.YtjoioojckekfhaaGreat

namespace Go.Proofs.YtjoioojckekfhaaGreat
open Fr (St F)
open Clk (avg)

section
variable {N : Nat} {d : Nat → Int} {u : WM}
/-- It is up, sixty slots behind its beginning; nobody's clock drifts. -/
def Z60 (N : Nat) (d : Nat → Int) (u : WM) : Prop := u.sl = 60 ∧ ∃ p T, Sy N 2 d p u ∧ QT N T 100 p ∧ (∀ i, p.on i = true) ∧ p.m = 2 ^ N - 1 ∧ (∀ i, i < N → p.st i = 4) ∧ (-2000 ≤ T ∧ T ≤ 2000) ∧ p.k = (41 % N + 0) % N ∧ p.r ≤ 60 ∧ p.si = 0
theorem Wj.z60 {al : List R4} {tm : Nat → Int} {da : Nat → List Int} (h : Wj N 2 d al tm da 60 u) (hN : 4 ≤ N ∧ N ≤ 8) (hd : ∀ i, d i = 0) : Z60 N d u := by
  obtain ⟨hsl, h⟩ := h
  rcases h with ⟨h, -⟩ | ⟨-, p, hS, -, h⟩
  · omega
  · rcases h with ⟨h, hk⟩ | ⟨-, T, L, h, hk, hr, hst, hz⟩
    · have := h.k; omega
    · have hz := hz hd
      have htb := h.tb
      have hsi := h.si
      refine ⟨hsl, p, T, hS, ⟨fun i j _ _ ho => (by rw [h.on] at ho; cases ho), h.r, h.k, by rw [h.m]; exact full_lt hN.2, h.st3, fun i hi => by have := h.a i hi; have := aB_le N p.k i hN h.k; omega, fun i hi _ h1 _ => h.a1 i hi h1, fun i => by rw [h.tm, hd]; omega, fun i => ?_, h.now, ?_, ⟨by omega, fun _ => hsi⟩, h.da⟩, h.on, h.m, fun i hi => hst (by omega) i hi, by omega, by rw [hk]; simp, hr, hsi⟩
      · rw [h.ck]
        refine ⟨by rw [List.length_map]; exact h.len.1, fun x hx => ?_⟩
        obtain ⟨y, hy, e⟩ := List.mem_map.1 hx
        rw [hz y hy, hd] at e
        omega
      · rw [h.gl]
        exact ⟨h.len.1, hz⟩
/-- Who it is. -/
def Idn (N : Nat) (d : Nat → Int) (who : Nat) (s : NM) : Prop := s.t = gsmT N 2 ∧ s.i = who ∧ s.dr = d who ∧ s.da.length ≤ 8 ∧ bytesL s.da
/-- One of it went off, so many slots ago. -/
def Lv (N : Nat) (d : Nat → Int) (k0 who j : Nat) (u : WM) : Prop :=
  u.sl = 60 + j ∧ Idn N d who (u.ms who) ∧ ∃ p T, Sy N 2 d p u ∧ QT N T (100 + j) p ∧ (∀ i, p.on i = decide (i ≠ who)) ∧ (p.m = 2 ^ N - 1 ∨ p.m = del (2 ^ N - 1) who) ∧ (∀ i, i < N → i ≠ who → p.st i = 4) ∧ (-2000 ≤ T ∧ T ≤ 2000) ∧ p.k = (k0 + j) % N ∧ p.r ≤ 60 + j ∧ ((∀ t, t < j → (k0 + t) % N ≠ who) ∨ (p.m = del (2 ^ N - 1) who ∧ ∀ i, (p.so i).g who = false))
theorem Lv.start {who : Nat} (h : Z60 N d u) (hw : who < N) : Lv N d (41 % N) who 0 { u with ms := upd' u.ms who (u.ms who).off } := by
  obtain ⟨hsl, p, T, hS, hQ, ho, hm, hst, hT, hk, hr, hsi⟩ := h
  have hn := hS.nd who hw (ho who)
  refine ⟨hsl, by
    show Idn N d who (upd' u.ms who (u.ms who).off who)
    rw [upd'_same]
    exact ⟨hn.t, hn.ix, hn.dx, by show (u.ms who).da.length ≤ 8; rw [hn.da]; exact (hQ.da who).1, by show bytesL (u.ms who).da; rw [hn.da]; exact (hQ.da who).2⟩, { p with on := fun i => decide (i ≠ who) }, T, ⟨fun i hi ho' => ?_, fun i hi ho' => ?_, ?_⟩, ⟨fun i j _ _ h1 h2 => ?_, hQ.r, hQ.k, hQ.m, hQ.st3, hQ.a, fun i hi _ h1 _ => ?_, hQ.tm, hQ.ck, hQ.now, hQ.gl, ⟨hQ.si.1, fun _ => hsi⟩, hQ.da⟩, fun i => rfl, .inl hm, fun i hi _ => hst i hi, hT, hk, hr, .inl fun t ht => absurd ht (Nat.not_lt_zero t)⟩
  · have e : i ≠ who := of_decide_eq_true ho'
    show NdS N 2 d _ i (upd' u.ms who (u.ms who).off i)
    rw [upd'_other _ _ _ e]
    have hn := hS.nd i hi (ho i)
    exact ⟨hn.t, hn.ix, hn.dx, hn.st, hn.rd, hn.sl, hn.ty, hn.tm, hn.ck, hn.so, hn.da⟩
  · have e : i = who := by
      have h1 : decide (i ≠ who) = false := ho'
      simpa using h1
    subst e
    show ((upd' u.ms i (u.ms i).off i).st = 0 ∧ (upd' u.ms i (u.ms i).off i).se = false) ∧ (-100000 ≤ (upd' u.ms i (u.ms i).off i).tm ∧ (upd' u.ms i (u.ms i).off i).tm ≤ 100000) ∧ (upd' u.ms i (u.ms i).off i).ty.a < 900 ∧ (upd' u.ms i (u.ms i).off i).ty.f < 900
    rw [upd'_same]
    refine ⟨⟨rfl, rfl⟩, ?_, by show 0 < 900; omega, by show 0 < 900; omega⟩
    show -100000 ≤ (u.ms i).tm ∧ (u.ms i).tm ≤ 100000
    rw [hn.tm, hQ.tm]; omega
  · have g := hS.gd
    exact ⟨g.kn, g.slot, g.n, g.wi, g.lm, g.now, g.l, g.si, g.sy⟩
  · have h1 : decide (i ≠ who) = false := h1
    have h2 : decide (j ≠ who) = false := h2
    have h1 : i = who := by simpa using h1
    have h2 : j = who := by simpa using h2
    omega
  · refine hQ.a1 i hi (ho i) h1 (fun hx => ?_)
    have := hx.2
    rw [ho] at this
    cases this
theorem Lv.step {k0 who j : Nat} (h : Lv N d k0 who j u) (hN : 4 ≤ N ∧ N ≤ 8) (hd : ∀ i, d i = 0) (hw : who < N) (hj : j < 700) : WOk N u ∧ Lv N d k0 who (j + 1) (u.slot N) := by
  obtain ⟨hsl, hid, p, T, hS, hQ, ho, hm, hst, hT, hk, hr, hg⟩ := h
  have ok := hQ.ok hN (by omega) hT
  obtain ⟨q, qk, qr⟩ := hQ.next hN hd (by omega)
  obtain ⟨f1, f2, f3⟩ := next_F (d := d) hQ
  have hkl := hQ.k
  refine ⟨hS.wok ok, by show u.sl + 1 = _; rw [hsl]; rfl, by
    have hof := (hS.off who hw (by rw [ho]; simp)).1
    have e : (u.slot N).ms who = u.ms who := by
      show (if who < N then (u.ms who).sendS.take (u.hear N who) else u.ms who) = u.ms who
      rw [if_pos hw, (off_quiet hof).2]
      unfold NM.take
      rw [if_pos (.inl hof.1)]
    rw [e]; exact hid, p.next N 2 d, T, hS.step ok, q, by rw [f1]; exact ho, ?_, fun i hi hne => ?_, hT, by rw [qk, hk, Nat.mod_add_mod]; rfl, by omega, ?_⟩
  · rw [f2, ho]
    by_cases e : p.k = who
    · rw [if_neg (by simp [e]), e]
      rcases hm with hm | hm <;> rw [hm]
      · exact .inr rfl
      · exact .inr (delF hN.2 hw).2.2.2.1
    · rw [if_pos (by simp [e])]
      rcases hm with hm | hm <;> rw [hm]
      · exact .inl (full_has hN.2 hkl)
      · exact .inr (del_ins hN.2 hw hkl e)
  · rw [f3]
    split
    · rfl
    · exact hst i hi hne
  · have hage : ∀ i, ((p.next N 2 d).so i).g who = (p.mid.so i).g who := fun i => by
      rw [next_so']
      split <;> rfl
    by_cases e : p.k = who
    · have hof : p.on p.k = false := by rw [ho]; simp [e]
      refine .inr ⟨?_, fun i => ?_⟩
      · rw [f2, if_neg (by rw [hof]; simp), e]
        rcases hm with hm | hm <;> rw [hm]
        exact (delF hN.2 hw).2.2.2.1
      · rw [hage, mid_off hof]
        show ((p.so i).member p.k (isB (del p.m p.k) p.k)).g who = false
        rw [e]
        have hb : isB (del p.m who) who = false := by
          rcases hm with hm | hm <;> rw [hm]
          · exact (delF hN.2 hw).2.1
          · rw [(delF hN.2 hw).2.2.2.1]; exact (delF hN.2 hw).2.1
        rw [hb]
        have hn : isN ((who : Nat) : Int) := ⟨by omega, by omega⟩
        unfold MS.member
        rw [if_pos hn]
        simp [upd]
    · have hon : p.on p.k = true := by rw [ho]; simp [e]
      rcases hg with hg | ⟨hg1, hg2⟩
      · refine .inl fun t ht => ?_
        by_cases h2 : t = j
        · rw [h2, ← hk]; exact e
        · exact hg t (by omega)
      · refine .inr ⟨?_, fun i => ?_⟩
        · rw [f2, if_pos hon, hg1]
          exact del_ins hN.2 hw hkl e
        · rw [hage, mid_eq hon]
          show (if i = p.k then p.so i else ((p.so i).put p.k (p.da p.k)).member p.k (isB (ins p.m p.k) p.k)).g who = false
          split
          · exact hg2 i
          · rw [(pm_other _ _ _ _ _ (fun e' => e e'.symm)).2.2]; exact hg2 i
/-- Two rounds on the others know that it is gone. -/
theorem Lv.gone {k0 who : Nat} (h : Lv N d k0 who (2 * N) u) (hN : 4 ≤ N ∧ N ≤ 8) (hk0 : k0 < N) (hw : who < N) : ∃ (r : Int) (k : Nat), ∀ i, i < N → i ≠ who → (u.ms i).st = 4 ∧ (u.ms i).rd = r ∧ (u.ms i).sl = k ∧ (u.ms i).ty.m = 2 ^ N - 1 - 2 ^ who ∧ (u.ms i).so.gg (who : Nat) = false := by
  obtain ⟨-, -, p, T, hS, hQ, ho, hm, hst, hT, hk, hr, hg⟩ := h
  have hn : isN ((who : Nat) : Int) := ⟨by omega, by omega⟩
  have hg : p.m = del (2 ^ N - 1) who ∧ ∀ i, (p.so i).g who = false := by
    rcases hg with hg | hg
    · refine absurd ?_ (hg ((who + N - k0) % N) (by have := Nat.mod_lt (who + N - k0) (show 0 < N by omega); omega))
      rw [Nat.add_mod_mod, show k0 + (who + N - k0) = who + N by omega, Nat.add_mod_right, Nat.mod_eq_of_lt hw]
    · exact hg
  refine ⟨p.r, p.k, fun i hi hne => ?_⟩
  have h1 := hS.nd i hi (by rw [ho]; simp [hne])
  refine ⟨by rw [h1.st]; exact hst i hi hne, h1.rd, h1.sl, by rw [h1.ty]; exact hg.1.trans (delF hN.2 hw).2.2.2.2, ?_⟩
  rw [h1.so]
  unfold MS.gg
  rw [if_pos hn, Int.toNat_natCast]
  exact hg.2 i
end
end Go.Proofs.YtjoioojckekfhaaGreat

namespace Go.Proofs.YtjoioojckekfhaaGreat
open Fr (St F)
open Clk (avg)

/-- What is told by who is known tells nothing to one that listens. -/
theorem wm_none {f : F} (h : f.is = true) (hk : f.k = 1) (s : NM) : ¬ s.tells f.bytes := fun ht => by
  obtain ⟨a, b, -⟩ := Fr.back h NM.z3 (by decide)
  obtain ⟨t1, t2, -⟩ := ht
  cases hs : Fr.sumB f.bytes NM.z3
  · unfold Fr.err at t1
    rw [a, hs] at t1
    revert t1
    simp
  · unfold Fr.res at t2
    rw [a, hs, b] at t2
    exact t2 hk
section
variable {N : Nat} {dr : Int} {d : Nat → Int} {p q : SP} {u : WM}
theorem NdS.alike {i : Nat} {s : NM} (h : NdS N dr d p i s) (e1 : q.k = p.k) (e2 : q.r = p.r) (e3 : q.m = p.m) (e4 : q.st i = p.st i) (e5 : q.a i = p.a i) (e6 : q.tm i = p.tm i) (e7 : q.ck i = p.ck i) (e8 : q.so i = p.so i) (e9 : q.da i = p.da i) : NdS N dr d q i s :=
  ⟨h.t, h.ix, h.dx, by rw [e4]; exact h.st, by rw [e2]; exact h.rd, by rw [e1]; exact h.sl, by rw [e3, e5]; exact h.ty, by rw [e6]; exact h.tm, by rw [e7]; exact h.ck, by rw [e8]; exact h.so, by rw [e9]; exact h.da⟩
/-- One is taken for off. -/
def WM.mute (u : WM) (w : Nat) : WM := { u with ms := upd' u.ms w { u.ms w with st := 0, se := false } }
/-- One that listens. -/
structure Ln (N : Nat) (d : Nat → Int) (who w : Nat) (s : NM) : Prop where
  id : Idn N d who s
  st : s.st = 1
  wt : s.wt ≤ w
  ty : s.ty = ⟨0, 0, 0⟩
  tm : s.tm = 100
theorem Ln.me {who w : Nat} {s : NM} (h : Ln N d who w s) (hw : who < N) : s.me = gsmD who := by
  show s.t.ns.getD s.i default = _
  rw [h.id.1, h.id.2.1]
  exact gsm_at N 2 who hw
theorem Ln.quiet {who w : Nat} {s : NM} (h : Ln N d who w s) (hw : who < N) (hN : N ≤ 8) (h9 : w ≤ 18) : s.sendK = 0 ∧ s.sendS = { s with wt := s.wt + 1, se := false } := by
  have hli := (gsm_li who (by omega)).2.1
  have hwt := h.wt
  unfold NM.sendK NM.sendS
  rw [h.me hw, if_pos h.st, if_pos h.st, if_pos (by omega), if_pos (by omega)]
  exact ⟨rfl, rfl⟩
theorem mute_eq {who w : Nat} (h : Ln N d who w (u.ms who)) (hw : who < N) (hN : N ≤ 8) (h9 : w ≤ 18) : u.hear N = (u.mute who).hear N ∧ u.heard N = (u.mute who).heard N ∧ u.when_ N = (u.mute who).when_ N := by
  obtain ⟨k1, k2⟩ := h.quiet hw hN h9
  have hq := off_quiet (s := { u.ms who with st := 0, se := false }) ⟨rfl, rfl⟩
  have hms : (u.mute who).ms who = { u.ms who with st := 0, se := false } := upd'_same _ _ _
  have hmo : ∀ i, i ≠ who → (u.mute who).ms i = u.ms i := fun i e => upd'_other _ _ _ e
  have e1 : u.bs N = (u.mute who).bs N := by
    funext i
    unfold WM.bs
    by_cases e : i = who
    · rw [e, hms, sent_none k1, sent_none hq.1]
    · rw [hmo i e]
  have e2 : u.at_ N = (u.mute who).at_ N := by
    funext i
    unfold WM.at_
    by_cases e : i = who
    · rw [e, hms, k2, hq.2]
    · rw [hmo i e]
  have e3 : u.who N = (u.mute who).who N := by
    unfold WM.who WM.sd
    rw [e1, e2]
    rfl
  have e4 : u.heard N = (u.mute who).heard N := by
    unfold WM.heard
    rw [e1, e3]
  have e5 : u.when_ N = (u.mute who).when_ N := by
    unfold WM.when_
    rw [e2, e3]
  refine ⟨?_, e4, e5⟩
  funext i
  unfold WM.hear
  rw [e2, e3, e4, e5]
/-- Node 0, or node 3 where node 0 is the one. -/
def s0 (who : Nat) : Nat := if who = 0 then 3 else 0
/-- It listens again, so many slots on. -/
def RL (N : Nat) (d : Nat → Int) (k0 who j : Nat) (u : WM) : Prop :=
  u.sl = 60 + 2 * N + j ∧ ∃ p T, Sy N 2 d p (u.mute who) ∧ QT N T (200 + j) p ∧ (∀ i, p.on i = decide (i ≠ who)) ∧ p.m = del (2 ^ N - 1) who ∧ (∀ i, i < N → i ≠ who → p.st i = 4) ∧ (-2000 ≤ T ∧ T ≤ 2000) ∧ p.k = (k0 + j) % N ∧ p.r ≤ 100 + j ∧ Ln N d who j (u.ms who) ∧ (∀ t, t < j → (k0 + t) % N ≠ s0 who)
/-- It knows the state again. -/
def RJ (N : Nat) (d : Nat → Int) (k0 who j : Nat) (u : WM) : Prop :=
  u.sl = 60 + 2 * N + j ∧ ∃ p T, Sy N 2 d p u ∧ QT N T (200 + j) p ∧ (∀ i, p.on i = true) ∧ (-2000 ≤ T ∧ T ≤ 2000) ∧ p.k = (k0 + j) % N ∧ p.r ≤ 100 + j ∧ ((p.m = 2 ^ N - 1 ∧ ∀ i, i < N → p.st i = 4) ∨ (p.m = del (2 ^ N - 1) who ∧ (∀ i, i < N → i ≠ who → p.st i = 4) ∧ ∀ t, N ≤ t → t < j → (k0 + t) % N ≠ who))
theorem hit_in {N k0 w : Nat} (hk0 : k0 < N) (hw : w < N) : (w + N - k0) % N < N ∧ (k0 + (w + N - k0) % N) % N = w := by
  refine ⟨Nat.mod_lt _ (by omega), ?_⟩
  rw [Nat.add_mod_mod, show k0 + (w + N - k0) = w + N by omega, Nat.add_mod_right, Nat.mod_eq_of_lt hw]
theorem RJ.step {k0 who j : Nat} (h : RJ N d k0 who j u) (hN : 4 ≤ N ∧ N ≤ 8) (hd : ∀ i, d i = 0) (hw : who < N) (hj : j < 600) : WOk N u ∧ RJ N d k0 who (j + 1) (u.slot N) := by
  obtain ⟨hsl, p, T, hS, hQ, ho, hT, hk, hr, hm⟩ := h
  have ok := hQ.ok hN (by omega) hT
  obtain ⟨q, qk, qr⟩ := hQ.next hN hd (by omega)
  obtain ⟨f1, f2, f3⟩ := next_F (d := d) hQ
  have hkl := hQ.k
  refine ⟨hS.wok ok, by show u.sl + 1 = _; rw [hsl]; rfl, p.next N 2 d, T, hS.step ok, q, by rw [f1]; exact ho, hT, by rw [qk, hk, Nat.mod_add_mod]; rfl, by omega, ?_⟩
  rw [f2, if_pos (ho _)]
  rcases hm with ⟨m1, m2⟩ | ⟨m1, m2, m3⟩
  · refine .inl ⟨by rw [m1, full_has hN.2 hkl], fun i hi => ?_⟩
    rw [f3]
    split
    · rfl
    · exact m2 i hi
  · by_cases e : p.k = who
    · refine .inl ⟨by rw [m1, e, (delF hN.2 hw).2.2.1], fun i hi => ?_⟩
      rw [f3]
      split
      · rfl
      · rename_i hx
        exact m2 i hi (fun ei => hx ⟨ho _, by rw [ei, e]⟩)
    · refine .inr ⟨by rw [m1, del_ins hN.2 hw hkl e], fun i hi hne => ?_, fun t h1 h2 => ?_⟩
      · rw [f3]
        split
        · rfl
        · exact m2 i hi hne
      · by_cases h3 : t = j
        · rw [h3, ← hk]; exact e
        · exact m3 t h1 (by omega)
/-- What the one makes of a slot, where it goes on listening. -/
theorem Ln.stays {who w : Nat} {s : NM} (h : Ln N d who w s) (hw : who < N) (hN : N ≤ 8) (h9 : w ≤ 18) (x : Hn) (hx : NM.firstL { s with wt := s.wt + 1, se := false } x = none) : Ln N d who (w + 1) (s.sendS.take x) := by
  rw [(h.quiet hw hN h9).2]
  unfold NM.take
  have hst := h.st
  have hwt := h.wt
  rw [if_neg (by show ¬ (s.st = 0 ∨ s.st = 5); omega), if_pos (show s.st = 1 from hst), hx]
  simp only
  split
  · exact ⟨h.id, hst, by show 0 ≤ w + 1; omega, h.ty, h.tm⟩
  · exact ⟨h.id, hst, by show s.wt + 1 ≤ w + 1; omega, h.ty, h.tm⟩
end
end Go.Proofs.YtjoioojckekfhaaGreat

namespace Go.Proofs.YtjoioojckekfhaaGreat
open Fr (St F)
open Clk (avg)

section
variable {N : Nat} {d : Nat → Int} {p : SP} {u : WM}
/-- What the one hears. -/
theorem RL.hears {who w : Nat} (hS : Sy N 2 d p (u.mute who)) (ok : p.Ok N 2) (hl : Ln N d who w (u.ms who)) (hw : who < N) (h9 : w ≤ 18) : u.hear N who = if p.on p.k = true then ⟨2, 2, (wfr p).bytes, (wfr p).bytes, p.tm p.k - 100⟩ else ⟨0, 0, [], [], 0⟩ := by
  have hN := ok.n
  rw [(mute_eq hl hw hN.2 h9).1]
  have hms : (u.mute who).ms who = { u.ms who with st := 0, se := false } := upd'_same _ _ _
  have hat : (u.mute who).at_ N who = 100 := by
    unfold WM.at_
    rw [if_pos hw, hms, (off_quiet (s := { u.ms who with st := 0, se := false }) ⟨rfl, rfl⟩).2]
    exact hl.tm
  obtain ⟨e1, e2⟩ := hS.heard ok
  unfold WM.hear
  rw [hS.who ok, hat]
  by_cases ho : p.on p.k = true
  · simp only [if_pos ho]
    rw [if_neg (by omega), e1, if_pos ho, e2 ho]
  · simp only [if_neg ho]
    rw [if_pos (by omega)]
theorem RL.wok {who w : Nat} (hS : Sy N 2 d p (u.mute who)) (ok : p.Ok N 2) (hl : Ln N d who w (u.ms who)) (hw : who < N) (h9 : w ≤ 18) : WOk N u := by
  have h := hS.wok ok
  have hmo : ∀ i, i ≠ who → (u.mute who).ms i = u.ms i := fun i e => upd'_other _ _ _ e
  refine ⟨h.n4, h.sn, fun i hi => ?_, fun i hi => ?_, h.now, h.slot, h.small, h.lm, h.wi, h.si⟩
  · by_cases e : i = who
    · rw [e, (hl.quiet hw ok.n.2 h9).2]
      show -100000 ≤ (u.ms who).tm ∧ (u.ms who).tm ≤ 100000
      rw [hl.tm]; omega
    · rw [← hmo i e]; exact h.tm i hi
  · by_cases e : i = who
    · rw [e, (hl.quiet hw ok.n.2 h9).2]
      show (u.ms who).ty.a < 900 ∧ (u.ms who).ty.f < 900
      rw [hl.ty]
      exact ⟨by show 0 < 900; omega, by show 0 < 900; omega⟩
    · rw [← hmo i e]; exact h.ty i hi
/-- The others, behind the slot. -/
theorem mute_slot {who w : Nat} (hl : Ln N d who w (u.ms who)) (hw : who < N) (hN : N ≤ 8) (h9 : w ≤ 18) : (∀ i, i ≠ who → (u.slot N).ms i = ((u.mute who).slot N).ms i) ∧ (u.slot N).s = ((u.mute who).slot N).s ∧ (u.slot N).ms who = (u.ms who).sendS.take (u.hear N who) := by
  obtain ⟨e1, e2, e3⟩ := mute_eq hl hw hN h9
  refine ⟨fun i e => ?_, ?_, if_pos hw⟩
  · show (if i < N then (u.ms i).sendS.take (u.hear N i) else u.ms i) = if i < N then ((u.mute who).ms i).sendS.take ((u.mute who).hear N i) else (u.mute who).ms i
    rw [e1, show (u.mute who).ms i = u.ms i from upd'_other _ _ _ e]
  · show u.s.ended (u.heard N) (u.when_ N) = (u.mute who).s.ended ((u.mute who).heard N) ((u.mute who).when_ N)
    rw [e2, e3]
    rfl
theorem RL.goes {k0 who j : Nat} {T : Int} (hS : Sy N 2 d p (u.mute who)) (hQ : QT N T (200 + j) p) (ho : ∀ i, p.on i = decide (i ≠ who)) (hm : p.m = del (2 ^ N - 1) who) (hst : ∀ i, i < N → i ≠ who → p.st i = 4) (hT : -2000 ≤ T ∧ T ≤ 2000) (hk : p.k = (k0 + j) % N) (hr : p.r ≤ 100 + j) (hl : Ln N d who j (u.ms who)) (hsl : u.sl = 60 + 2 * N + j) (hN : 4 ≤ N ∧ N ≤ 8) (hd : ∀ i, d i = 0) (hw : who < N) (hj : j ≤ 18)
    (hts : ∀ t, t < j + 1 → (k0 + t) % N ≠ s0 who) (hx : NM.firstL { u.ms who with wt := (u.ms who).wt + 1, se := false } (u.hear N who) = none) : RL N d k0 who (j + 1) (u.slot N) := by
  have ok := hQ.ok hN (by omega) hT
  obtain ⟨q, qk, qr⟩ := hQ.next hN hd (by omega)
  obtain ⟨f1, f2, f3⟩ := next_F (d := d) hQ
  have hkl := hQ.k
  have hS2 := hS.step ok
  obtain ⟨g1, g2, g3⟩ := mute_slot hl hw hN.2 hj
  have hl2 := hl.stays hw hN.2 hj _ hx
  rw [← g3] at hl2
  refine ⟨by show u.sl + 1 = _; rw [hsl]; rfl, p.next N 2 d, T, ⟨fun i hi ho' => ?_, fun i hi ho' => ?_, ?_⟩, q, by rw [f1]; exact ho, ?_, fun i hi hne => ?_, hT, by rw [qk, hk, Nat.mod_add_mod]; rfl, by omega, hl2, hts⟩
  · have e : i ≠ who := by rw [f1, ho] at ho'; exact of_decide_eq_true ho'
    show NdS N 2 d _ i (upd' (u.slot N).ms who _ i)
    rw [upd'_other _ _ _ e, g1 i e]
    exact hS2.nd i hi ho'
  · have e : i = who := by rw [f1, ho] at ho'; simpa using ho'
    have hms : ((u.slot N).mute who).ms i = { (u.slot N).ms who with st := 0, se := false } := by rw [e]; exact upd'_same _ _ _
    rw [hms]
    refine ⟨⟨rfl, rfl⟩, ?_, ?_, ?_⟩
    · show -100000 ≤ ((u.slot N).ms who).tm ∧ ((u.slot N).ms who).tm ≤ 100000
      rw [hl2.tm]; omega
    · show ((u.slot N).ms who).ty.a < 900
      rw [hl2.ty]; show 0 < 900; omega
    · show ((u.slot N).ms who).ty.f < 900
      rw [hl2.ty]; show 0 < 900; omega
  · show GdS N 2 _ (u.slot N).s
    rw [g2]
    exact hS2.gd
  · rw [f2, ho, hm]
    by_cases e : p.k = who
    · rw [if_neg (by simp [e]), e, (delF hN.2 hw).2.2.2.1]
    · rw [if_pos (by simp [e]), del_ins hN.2 hw hkl e]
  · rw [f3]
    split
    · rfl
    · exact hst i hi hne
theorem fwd_F (p : SP) (N : Nat) (dr : Int) (d : Nat → Int) : (p.fwd N dr d).k = (if p.k + 1 < N then p.k + 1 else 0) ∧ (p.fwd N dr d).r = (if p.k + 1 < N then p.r else if p.r < 65535 then p.r + 1 else 0) ∧ (∀ i, (p.fwd N dr d).tm i = if p.k + 1 < N then p.tm i else p.tm i + termV (4 * dr + 9) (p.ck i) + d i) ∧ (∀ i, (p.fwd N dr d).ck i = if p.k + 1 < N then p.ck i else []) := by
  unfold SP.fwd
  split <;> exact ⟨rfl, rfl, fun _ => rfl, fun _ => rfl⟩
/-- One of it is passive, with this store. -/
def SP.rej (p : SP) (who : Nat) (G : MS) (da : List Int) : SP :=
  { p with on := fun _ => true, st := fun i => if i = who then 3 else p.st i, a := fun i => if i = who then 1 else p.a i, ck := fun i => if i = who then [] else p.ck i, so := fun i => if i = who then G else p.so i, da := fun i => if i = who then da else p.da i }
theorem RL.joins {k0 who j : Nat} {T : Int} (hS : Sy N 2 d p (u.mute who)) (hQ : QT N T (200 + j) p) (ho : ∀ i, p.on i = decide (i ≠ who)) (hm : p.m = del (2 ^ N - 1) who) (hst : ∀ i, i < N → i ≠ who → p.st i = 4) (hT : -2000 ≤ T ∧ T ≤ 2000) (hk : p.k = (k0 + j) % N) (hr : p.r ≤ 100 + j) (hl : Ln N d who j (u.ms who)) (hsl : u.sl = 60 + 2 * N + j) (hN : 4 ≤ N ∧ N ≤ 8) (hd : ∀ i, d i = 0) (hw : who < N) (hj : j ≤ 18) (hj2 : j < N)
    (hkw : p.k ≠ who) (h1 : (wfr p).k ≠ 1) : RJ N d k0 who (j + 1) (u.slot N) := by
  have ok := hQ.ok hN (by omega) hT
  obtain ⟨q, qk, qr⟩ := hQ.next hN hd (by omega)
  obtain ⟨f1, f2, f3⟩ := next_F (d := d) hQ
  have hkl := hQ.k
  have hon : p.on p.k = true := by rw [ho]; simp [hkw]
  have hS2 := hS.step ok
  obtain ⟨g1, g2, g3⟩ := mute_slot hl hw hN.2 hj
  obtain ⟨r1, r2⟩ := wm_told (wfr_is ok) h1 NM.z3 (by decide)
  rw [RL.hears hS ok hl hw hj, if_pos hon, (hl.quiet hw hN.2 hj).2] at g3
  have hins : ins p.m p.k = p.m := by rw [hm]; exact del_ins hN.2 hw hkl hkw
  have hT2 : NM.tells { u.ms who with wt := (u.ms who).wt + 1, se := false } (wfr p).bytes := by
    unfold NM.tells
    rw [r1, r2]
    refine ⟨rfl, h1, ?_, ?_⟩
    · show (p.k : Int) < ((u.ms who).t.ns.length : Nat)
      rw [hl.id.1, gsm_len]; omega
    · show (p.k : Int) ≠ ((u.ms who).i : Nat)
      rw [hl.id.2.1]; omega
  have hF : NM.firstL { u.ms who with wt := (u.ms who).wt + 1, se := false } ⟨2, 2, (wfr p).bytes, (wfr p).bytes, p.tm p.k - 100⟩ = some (wfr p).bytes := by
    unfold NM.firstL NM.rows
    show List.find? _ ([(wfr p).bytes] ++ [(wfr p).bytes]) = _
    rw [List.singleton_append]
    exact List.find?_cons_of_pos (by show decide (NM.tells _ _) = true; exact decide_eq_true hT2)
  have hst1 := hl.st
  have et : (u.slot N).ms who = (NM.knows { u.ms who with wt := (u.ms who).wt + 1, se := false } (wfr p) (p.tm p.k - 100)).goOn := by
    rw [g3]
    unfold NM.take
    rw [if_neg (by show ¬ ((u.ms who).st = 0 ∨ (u.ms who).st = 5); omega), if_pos (show (u.ms who).st = 1 from hst1), hF]
    simp only
    rw [r2]
  -- its state ahead of going on
  have hty : (⟨(((ins p.m p.k : Nat) : Int) % 256).toNat, 0, 0⟩ : TS).right ((p.k : Nat) : Int) = ⟨p.m, 1, 0⟩ := by
    have hm8 := hQ.m
    unfold TS.right
    rw [if_pos (show 0 ≤ ((p.k : Nat) : Int) ∧ ((p.k : Nat) : Int) < 8 by omega), Int.toNat_natCast, hins, show ((p.m : Int) % 256).toNat = p.m by omega, hins]
  have hmm : p.mid.m = p.m := by rw [hQ.midF.1, if_pos hon, hins]
  obtain ⟨m1, m2, m3, m4, -, m6⟩ := SP.mid_on p
  have hnd : NdS N 2 d (p.mid.rej who (NM.knows { u.ms who with wt := (u.ms who).wt + 1, se := false } (wfr p) (p.tm p.k - 100)).so (u.ms who).da) who (NM.knows { u.ms who with wt := (u.ms who).wt + 1, se := false } (wfr p) (p.tm p.k - 100)) := by
    refine ⟨hl.id.1, hl.id.2.1, hl.id.2.2.1, (if_pos rfl).symm, m3.symm, ?_, ?_, ?_, (if_pos rfl).symm, (if_pos rfl).symm, (if_pos rfl).symm⟩
    · show ((p.k : Nat) : Int).toNat = p.mid.k
      rw [m2]; exact Int.toNat_natCast _
    · show (⟨(((ins p.m p.k : Nat) : Int) % 256).toNat, 0, 0⟩ : TS).right ((p.k : Nat) : Int) = ⟨p.mid.m, if who = who then 1 else _, 0⟩
      rw [hty, hmm, if_pos rfl]
    · show (u.ms who).tm + (p.tm p.k - 100) = p.mid.tm who
      rw [hl.tm, m4, hQ.tm, hQ.tm]; omega
  have hgo := hnd.goOn (by show p.mid.k < N; rw [m2]; exact hkl) (fun _ => by
    show wiB (4 * 2 + 9) (avg (if who = who then [] else p.mid.ck who)) = true
    rw [if_pos rfl]
    exact Zs.nil.wi (by omega))
  rw [← et] at hgo
  generalize hG : (NM.knows { u.ms who with wt := (u.ms who).wt + 1, se := false } (wfr p) (p.tm p.k - 100)).so = G at *
  obtain ⟨a1, a2, a3, a4⟩ := fwd_F (p.mid.rej who G (u.ms who).da) N 2 d
  obtain ⟨b1, b2, b3, b4⟩ := fwd_F p.mid N 2 d
  obtain ⟨c1, c2, c3, c4, c5, c6⟩ := SP.fwd_on (p.mid.rej who G (u.ms who).da) N 2 d
  have hT3 : (p.next N 2 d).tm who = T := q.tm who
  have hwho : NdS N 2 d ((p.next N 2 d).rej who (((p.mid.rej who G (u.ms who).da).fwd N 2 d).so who) (u.ms who).da) who ((u.slot N).ms who) := by
    refine hgo.alike ?_ ?_ ?_ ?_ ?_ ?_ ?_ ?_ ?_
    · show (p.mid.fwd N 2 d).k = _
      rw [a1, b1]; rfl
    · show (p.mid.fwd N 2 d).r = _
      rw [a2, b2]; rfl
    · show (p.mid.fwd N 2 d).m = _
      rw [c2, (SP.fwd_on p.mid N 2 d).2.1]; rfl
    · rw [c3]
      show (if who = who then 3 else _) = if who = who then 3 else _
      rw [if_pos rfl, if_pos rfl]
    · rw [c4]
      show (if who = who then 1 else _) = if who = who then 1 else _
      rw [if_pos rfl, if_pos rfl]
    · show (p.next N 2 d).tm who = _
      rw [hT3, a3]
      show T = if p.mid.k + 1 < N then p.mid.tm who else p.mid.tm who + termV (4 * 2 + 9) (if who = who then [] else p.mid.ck who) + d who
      rw [if_pos rfl, Zs.nil.term, hd, m4, hQ.tm]
      split <;> omega
    · rw [a4]
      show (if who = who then [] else _) = if p.mid.k + 1 < N then (if who = who then [] else p.mid.ck who) else []
      rw [if_pos rfl, if_pos rfl]
      split <;> rfl
    · show (if who = who then _ else _) = _
      rw [if_pos rfl]
    · rw [c6]
      show (if who = who then _ else _) = if who = who then _ else _
      rw [if_pos rfl, if_pos rfl]
  have hother : ∀ i, i < N → i ≠ who → NdS N 2 d ((p.next N 2 d).rej who (((p.mid.rej who G (u.ms who).da).fwd N 2 d).so who) (u.ms who).da) i ((u.slot N).ms i) := fun i hi e => by
    rw [g1 i e]
    exact (hS2.nd i hi (by rw [f1, ho]; simp [e])).alike rfl rfl rfl (if_neg e) (if_neg e) rfl (if_neg e) (if_neg e) (if_neg e)
  have hk2 := mod_succ hN.1 hkl
  refine ⟨by show u.sl + 1 = _; rw [hsl]; rfl, (p.next N 2 d).rej who (((p.mid.rej who G (u.ms who).da).fwd N 2 d).so who) (u.ms who).da, T, ⟨fun i hi _ => ?_, fun i _ hx => (by cases hx), ?_⟩, ⟨fun i _ _ _ hx => (by cases hx), q.r, q.k, q.m, fun i => ?_, fun i hi => ?_, fun i hi _ h2 h3 => ?_, q.tm, fun i => ?_, q.now, q.gl, ⟨q.si.1, fun hx => (by cases hx)⟩, fun i => ?_⟩, fun _ => rfl, hT, ?_, ?_, .inr ⟨?_, fun i hi e => ?_, fun t h2 h3 => by omega⟩⟩
  · by_cases e : i = who
    · rw [e]; exact hwho
    · exact hother i hi e
  · have g := hS2.gd
    rw [g2]
    exact ⟨g.kn, g.slot, g.n, g.wi, g.lm, g.now, g.l, g.si, g.sy⟩
  · show (if i = who then 3 else (p.next N 2 d).st i) = 2 ∨ (if i = who then 3 else (p.next N 2 d).st i) = 3 ∨ (if i = who then 3 else (p.next N 2 d).st i) = 4
    split
    · exact .inr (.inl rfl)
    · exact q.st3 i
  · show (if i = who then 1 else (p.next N 2 d).a i) ≤ _
    split
    · omega
    · exact q.a i hi
  · show 0 < if i = who then 1 else (p.next N 2 d).a i
    split
    · omega
    · rename_i e
      refine q.a1 i hi (by rw [f1, ho]; simp [e]) h2 (fun hx => ?_)
      have hx1 : (i + 2) % N = (p.k + 1) % N := hx.1.trans qk
      have hx2 : (i + 1) % N = who := by have := hx.2; rw [f1, ho] at this; simpa using this
      have mi := mod_succ hN.1 hi
      rw [mi.2, hk2.1] at hx1
      rw [mi.1] at hx2
      refine hkw ?_
      split at hx1 <;> split at hx1 <;> split at hx2 <;> omega
  · show Zs (if i = who then [] else (p.next N 2 d).ck i)
    split
    · exact Zs.nil
    · exact q.ck i
  · show (if i = who then (u.ms who).da else (p.next N 2 d).da i).length ≤ 8 ∧ bytesL (if i = who then (u.ms who).da else (p.next N 2 d).da i)
    split
    · exact hl.id.2.2.2
    · exact q.da i
  · show (p.next N 2 d).k = _
    rw [qk, hk, Nat.mod_add_mod]; rfl
  · show (p.next N 2 d).r ≤ _
    omega
  · show (p.next N 2 d).m = _
    rw [f2, if_pos hon, hins, hm]
  · show (if i = who then 3 else (p.next N 2 d).st i) = 4
    rw [if_neg e, f3]
    split
    · rfl
    · exact hst i hi e
theorem s0_lt (who : Nat) (hN : 4 ≤ N) : s0 who < N ∧ s0 who ≠ who ∧ (gsmD (s0 who)).inf = true := by
  unfold s0
  split
  · exact ⟨by omega, by omega, rfl⟩
  · exact ⟨by omega, by omega, rfl⟩
theorem RL.step {k0 who j : Nat} (h : RL N d k0 who j u) (hN : 4 ≤ N ∧ N ≤ 8) (hd : ∀ i, d i = 0) (hw : who < N) (hk0 : k0 < N) : WOk N u ∧ (RL N d k0 who (j + 1) (u.slot N) ∨ RJ N d k0 who (j + 1) (u.slot N)) := by
  obtain ⟨hsl, p, T, hS, hQ, ho, hm, hst, hT, hk, hr, hl, hts⟩ := h
  obtain ⟨z1, z2, z3⟩ := s0_lt who hN.1
  have hj : j < N := Decidable.by_contra fun hx => by
    obtain ⟨y1, y2⟩ := hit_in hk0 z1
    exact hts _ (by omega) y2
  have ok := hQ.ok hN (by omega) hT
  refine ⟨RL.wok hS ok hl hw (by omega), ?_⟩
  have hh := RL.hears hS ok hl hw (by omega)
  by_cases e : p.k = who
  · rw [if_neg (by rw [ho]; simp [e])] at hh
    refine .inl (RL.goes hS hQ ho hm hst hT hk hr hl hsl hN hd hw (by omega) (fun t ht => ?_) (by rw [hh]; rfl))
    by_cases h2 : t = j
    · rw [h2, ← hk, e]; exact fun x => z2 x.symm
    · exact hts t (by omega)
  · by_cases h1 : (wfr p).k = 1
    · rw [if_pos (by rw [ho]; simp [e])] at hh
      refine .inl (RL.goes hS hQ ho hm hst hT hk hr hl hsl hN hd hw (by omega) (fun t ht => ?_) ?_)
      · by_cases h2 : t = j
        · rw [h2, ← hk]
          intro x
          have h1 : (if (gsmD p.k).inf = true ∨ p.st p.k ≠ 4 ∨ p.r % 2 = 0 then (2 : Int) else 1) = 1 := h1
          rw [x, if_pos (.inl z3)] at h1
          cases h1
        · exact hts t (by omega)
      · rw [hh]
        unfold NM.firstL
        refine List.find?_eq_none.2 fun x hx => ?_
        have ex : x = (wfr p).bytes := by
          have hx : x ∈ [(wfr p).bytes] ++ [(wfr p).bytes] := hx
          simpa using hx
        rw [ex]
        simpa using wm_none (wfr_is ok) h1 _
    · exact .inr (RL.joins hS hQ ho hm hst hT hk hr hl hsl hN hd hw (by omega) hj e h1)
/-- So many slots on. -/
def RA (N : Nat) (d : Nat → Int) (k0 who j : Nat) (u : WM) : Prop := RL N d k0 who j u ∨ RJ N d k0 who j u
theorem RA.sl {k0 who j : Nat} (h : RA N d k0 who j u) : u.sl = 60 + 2 * N + j := h.elim (fun h => h.1) fun h => h.1
theorem RA.step {k0 who j : Nat} (h : RA N d k0 who j u) (hN : 4 ≤ N ∧ N ≤ 8) (hd : ∀ i, d i = 0) (hw : who < N) (hk0 : k0 < N) (hj : j < 600) : WOk N u ∧ RA N d k0 who (j + 1) (u.slot N) := by
  rcases h with h | h
  · exact h.step hN hd hw hk0
  · obtain ⟨a, b⟩ := h.step hN hd hw hj
    exact ⟨a, .inr b⟩
/-- Four rounds on all is as it was. -/
theorem RA.back {k0 who : Nat} (h : RA N d k0 who (4 * N) u) (hN : 4 ≤ N ∧ N ≤ 8) (hw : who < N) (hk0 : k0 < N) : ∃ (r : Int) (k : Nat), ∀ i, i < N → (u.ms i).st = 4 ∧ (u.ms i).rd = r ∧ (u.ms i).sl = k ∧ (u.ms i).ty.m = 2 ^ N - 1 := by
  rcases h with ⟨-, p, T, hS, hQ, ho, hm, hst, hT, hk, hr, hl, hts⟩ | ⟨-, p, T, hS, hQ, ho, hT, hk, hr, hm⟩
  · obtain ⟨z1, -, -⟩ := s0_lt who hN.1
    obtain ⟨y1, y2⟩ := hit_in hk0 z1
    exact absurd y2 (hts _ (by omega))
  · rcases hm with ⟨m1, m2⟩ | ⟨-, -, m3⟩
    · refine ⟨p.r, p.k, fun i hi => ?_⟩
      have hn := hS.nd i hi (ho i)
      exact ⟨by rw [hn.st]; exact m2 i hi, hn.rd, hn.sl, by rw [hn.ty]; exact m1⟩
    · obtain ⟨y1, y2⟩ := hit_in hk0 hw
      refine absurd ?_ (m3 ((who + N - k0) % N + N) (by omega) (by omega))
      rw [← Nat.add_assoc, Nat.add_mod_right]
      exact y2
theorem QT.mono {C C' : Nat} {T : Int} (h : QT N T C p) (hc : C ≤ C') : QT N T C' p := ⟨h.off1, h.r, h.k, h.m, h.st3, fun i hi => Nat.le_trans (h.a i hi) hc, h.a1, h.tm, h.ck, h.now, h.gl, h.si, h.da⟩
/-- It comes on again. -/
theorem Lv.again {k0 who : Nat} (h : Lv N d k0 who (2 * N) u) (hN : 4 ≤ N ∧ N ≤ 8) (hw : who < N) (hk0 : k0 < N) : (u.ms who).onE 100 = 0 ∧ RA N d k0 who 0 { u with ms := upd' u.ms who ((u.ms who).on 100) } := by
  obtain ⟨hsl, hid, p, T, hS, hQ, ho, hm, hst, hT, hk, hr, hg⟩ := h
  have hof := hS.off who hw (by rw [ho]; simp)
  have e : (u.ms who).onE 100 = 0 := by
    unfold NM.onE
    rw [if_neg (by omega), if_neg (fun hx => hx.1 hof.1.1)]
  refine ⟨e, .inl ?_⟩
  have eon : (u.ms who).on 100 = { (u.ms who).anew 1 with tm := 100 } := by
    unfold NM.on
    rw [if_pos e]
  have hm : p.m = del (2 ^ N - 1) who := by
    rcases hg with hg | hg
    · obtain ⟨y1, y2⟩ := hit_in hk0 hw
      exact absurd y2 (hg _ (by omega))
    · exact hg.1
  have h1 : ({ u with ms := upd' u.ms who ((u.ms who).on 100) } : WM).ms who = { (u.ms who).anew 1 with tm := 100 } := by
    show upd' u.ms who ((u.ms who).on 100) who = _
    rw [upd'_same, eon]
  refine ⟨by show u.sl = _; omega, p, T, ⟨fun i hi ho' => ?_, fun i hi ho' => ?_, hS.gd⟩, hQ.mono (by omega), ho, hm, hst, hT, ?_, by omega, ?_, fun t ht => absurd ht (Nat.not_lt_zero t)⟩
  · have e : i ≠ who := by rw [ho] at ho'; exact of_decide_eq_true ho'
    have e2 : (WM.mute { u with ms := upd' u.ms who ((u.ms who).on 100) } who).ms i = u.ms i := (upd'_other _ _ _ e).trans (upd'_other _ _ _ e)
    rw [e2]
    exact hS.nd i hi ho'
  · have e : i = who := by rw [ho] at ho'; simpa using ho'
    have e2 : (WM.mute { u with ms := upd' u.ms who ((u.ms who).on 100) } who).ms i = { ({ u with ms := upd' u.ms who ((u.ms who).on 100) } : WM).ms who with st := 0, se := false } := by rw [e]; exact upd'_same _ _ _
    rw [e2, h1]
    exact ⟨⟨rfl, rfl⟩, by show (-100000 : Int) ≤ 100 ∧ (100 : Int) ≤ 100000; omega, by show 0 < 900; omega, by show 0 < 900; omega⟩
  · rw [hk, Nat.add_mul_mod_self_right]; rfl
  · rw [h1]
    exact ⟨hid, rfl, Nat.le_refl _, rfl, rfl⟩
end
end Go.Proofs.YtjoioojckekfhaaGreat

namespace Go.Proofs.YtjoioojckekfhaaGreat
open Go.ChangeShapes Go.WideShapes Go.ChangeAt Go.RowKit

/-- Is a message good? -/
theorem field_good (A : Option Addr) (n c : Nat) (a : Int) (q : Bool) (w : World) : (Instr.field 49 (.agg #[.slice A n c, .int .i64 a, .bool q]) 2).run Tryz.prog w = .ok (.bool q) w := by kernel_rfl
theorem pow_gap {N V : Nat} (hN : N ≤ 8) (hV : V < N) : ((2 ^ N - 1 - 2 ^ V : Nat) : Int) = ((2 ^ N - 1 : Nat) : Int) - (((2 ^ V - 1 : Nat) : Int) + 1) ∧ 2 ^ V - 1 ≤ 127 ∧ 2 ^ N - 1 ≤ 255 := by
  have : ∀ (n : Fin 9) (b : Fin 8), b.val < n.val → ((2 ^ n.val - 1 - 2 ^ b.val : Nat) : Int) = ((2 ^ n.val - 1 : Nat) : Int) - (((2 ^ b.val - 1 : Nat) : Int) + 1) ∧ 2 ^ b.val - 1 ≤ 127 ∧ 2 ^ n.val - 1 ≤ 255 := by decide +kernel
  exact this ⟨N, by omega⟩ ⟨V, by omega⟩ hV
theorem wraps3 {M E G : Nat} (h2 : E ≤ 127) (h3 : M ≤ 255) (h : (G : Int) = (M : Int) - ((E : Int) + 1)) : IntKind.i64.wrap ((M : Int) + 1 - 1) = M ∧ IntKind.i64.wrap (M : Int) = M ∧ IntKind.i64.wrap ((M : Int) - ((E : Int) + 1)) = G :=
  ⟨by rw [IntWalk.i64_in _ (by omega)]; omega, IntWalk.i64_in _ (by omega), by rw [IntWalk.i64_in _ (by omega)]; omega⟩
set_option maxRecDepth 100000 in
set_option maxHeartbeats 8000000 in
theorem core_wardLeaves (n who : Int) (w : World) :
    Calls Tryz.prog 5 #[.int .i64 n, .int .i64 who] w fun e w' => e = .returned (.bool true) ∧ Below w.heap.size w w' := by
  by_cases call : 4 ≤ n ∧ n ≤ 8 ∧ 0 ≤ who ∧ who < n
  case neg =>
    go_enter Tryz.func5, Tryz.ntmps5
    go_wp2
    all_goals first
      | (exfalso; omega)
      | (go_ret; exact ⟨rfl, Below.refl _ _⟩)
      | skip
  obtain ⟨n4, n8, w0, wn⟩ := call
  obtain ⟨N, rfl⟩ : ∃ t : Nat, n = t := ⟨n.toNat, by omega⟩
  obtain ⟨V, rfl⟩ : ∃ t : Nat, who = t := ⟨who.toNat, by omega⟩
  have q1 : decide (((N : Nat) : Int) < 4) = false := decide_eq_false (by omega)
  have q2 : decide ((8 : Int) < ((N : Nat) : Int)) = false := decide_eq_false (by omega)
  have q3 : decide (((V : Nat) : Int) < 0) = false := decide_eq_false (by omega)
  have q4 : decide (((N : Nat) : Int) ≤ ((V : Nat) : Int)) = false := decide_eq_false (by omega)
  have q4n : decide (N ≤ V) = false := decide_eq_false (by omega)
  have N4 : 4 ≤ N := by omega
  have N8 : N ≤ 8 := by omega
  have VN : V < N := by omega
  have hk0 : 41 % N < N := Nat.mod_lt _ (by omega)
  have hU := Lib.hid (up_wd N N4 N8 w)
  have hKn := fun W => Lib.hid (known_wd W)
  have z2 : IntKind.i64.wrap (2 * (N : Int)) = 2 * N := IntWalk.i64_in _ (by omega)
  have z4 : IntKind.i64.wrap (4 * (N : Int)) = 4 * N := IntWalk.i64_in _ (by omega)
  go_enter Tryz.func5, Tryz.ntmps5
  go_wp2_with fail
  refine hU.out.mono ?_
  rintro e w1 ⟨x, u, rfl, hup, hW, b1⟩
  have hst := Lib.hid (wstep_off hW V VN)
  have hJ0 := Lib.hid (Lv.start (Wj.z60 hup ⟨N4, N8⟩ (d0_eq N)) VN)
  have hstep := Lib.hid (fun t u (h : Lv N (d0 N) (41 % N) V t u) (ht : t < 700) => h.step ⟨N4, N8⟩ (d0_eq N) VN ht)
  have b1 := Lib.hid b1
  clear hU hup hW
  go_wp2_with fail
  refine hst.out.mono ?_
  rintro e w2 ⟨rfl, hW2, c2⟩
  have hB2 := Lib.hid (b1.out.trans c2.b)
  have hW2 := Lib.hid hW2
  clear hst b1 c2
  go_wp2_with fail
  go_loopw [6] (fun i wr => ∃ j : Nat, j ≤ 2 * N ∧ i = .int .i64 j ∧ ∃ u, Lv N (d0 N) (41 % N) V j u ∧ WAt w.heap.size [] N wr x u ∧ Below w.heap.size w wr) (fun i _ => 2 * N - (intOf i).toNat)
  case atStart => exact ⟨0, by omega, rfl, _, hJ0.out, hW2.out, hB2.out⟩
  case round =>
    clear hW2 hB2 hJ0
    obtain ⟨j, hj, rfl, u2, hJ, hW, hB⟩ := hrel
    by_cases hlt : j < 2 * N
    · have r2 : decide ((j : Int) < 2 * (N : Nat)) = true := by simp; omega
      obtain ⟨ok, hJ2⟩ := hstep.out j u2 hJ (by omega)
      have hst := Lib.hid (wstep_slot hW ok (by rw [hJ.1]; omega))
      have hJ2 := Lib.hid hJ2
      have hB := Lib.hid hB
      clear hW hJ ok hstep hKn
      go_wp2_with fail
      refine hst.out.mono ?_
      rintro e w3 ⟨rfl, hW3, c3⟩
      have hB3 := Lib.hid (hB.out.trans c3.b)
      have hW3 := Lib.hid hW3
      clear hst hB c3
      go_wp2_with fail
      go_roundw
      case rel => exact ⟨j + 1, by omega, by go_num, _, hJ2.out, hW3.out, hB3.out⟩
      case measure => simp [intOf]; omega
    · obtain rfl : j = 2 * N := by omega
      have ec : ((2 * N : Nat) : Int) = 2 * (N : Int) := by omega
      rw [ec]
      clear ec
      have r2 : decide (2 * (N : Int) < 2 * (N : Int)) = false := by simp
      obtain ⟨rr, kk, hall⟩ := hJ.gone ⟨N4, N8⟩ hk0 VN
      obtain ⟨pg1, pg2, pg3⟩ := pow_gap N8 VN
      have hst := fun W i (hi : i < N) (hne : i ≠ V) (h : WAt w.heap.size [] N W x u2) => Lib.hid (show Calls Tryz.prog 17 #[.pointer (some ⟨x, 0, none⟩), .int .i64 (i : Nat)] W fun e w' => e = .returned (.int .i64 4) ∧ Below W.heap.size W w' by
        have := h.state_ i hi
        rw [(hall i hi hne).1] at this
        exact this)
      have hvw := fun W i (hi : i < N) (hne : i ≠ V) (h : WAt w.heap.size [] N W x u2) => Lib.hid (show Calls Tryz.prog 18 #[.pointer (some ⟨x, 0, none⟩), .int .i64 (i : Nat)] W fun e w' => e = .returned (.agg #[.int .i64 rr, .int .i64 (kk : Nat), .int .i64 ((2 ^ N - 1 - 2 ^ V : Nat) : Int)]) ∧ Below W.heap.size W w' by
        have := h.view_ i hi
        obtain ⟨-, h2, h3, h4, -⟩ := hall i hi hne
        rw [h2, h3, h4] at this
        exact this)
      have hrd := fun W i (hi : i < N) (hne : i ≠ V) (h : WAt w.heap.size [] N W x u2) => Lib.hid (show Calls Tryz.prog 21 #[.pointer (some ⟨x, 0, none⟩), .int .i64 (i : Nat), .int .i64 (V : Nat)] W fun e w' => ∃ A m c a, e = .returned (.agg #[.slice A m c, .int .i64 a, .bool false]) ∧ Below W.heap.size W w' by
        have := h.read_ i hi (V : Int)
        obtain ⟨-, -, -, -, h5⟩ := hall i hi hne
        rw [h5] at this
        refine this.mono ?_
        rintro _ w' ⟨v, rfl, hs, hb⟩
        obtain ⟨A, c, rfl, -⟩ := hs.at_
        exact ⟨A, _, c, _, rfl, hb⟩)
      have hA := Lib.hid (hJ.again ⟨N4, N8⟩ VN hk0)
      have hW := Lib.hid hW
      have hB := Lib.hid hB
      have wu : IntKind.u64.wrap (N : Int) = N := by rw [IntKind.wrap_u64]; omega
      have wuv : IntKind.u64.wrap (V : Int) = V := by rw [IntKind.wrap_u64]; omega
      have wp := wrap_pow8 N8
      have wpv := wrap_pow8 (show V ≤ 8 by omega)
      have hfG : ∀ W : World, (Instr.field 42 (.agg #[.int .i64 rr, .int .i64 (kk : Nat), .int .i64 ((2 ^ N - 1 - 2 ^ V : Nat) : Int)]) 2).run Tryz.prog W = .ok (.int .i64 ((2 ^ N - 1 - 2 ^ V : Nat) : Int)) W := fun _ => rfl
      generalize (2 ^ N - 1 - 2 ^ V : Nat) = G at *
      obtain ⟨M, hMM⟩ : ∃ M : Nat, Hid ((2 ^ N - 1 : Nat) = M) := ⟨_, Lib.hid rfl⟩
      rw [hMM.out] at wp pg1 pg3
      generalize (2 ^ V - 1 : Nat) = E at *
      obtain ⟨wz, wz2, wz3⟩ := wraps3 pg2 pg3 pg1
      clear pg1 pg2 pg3
      clear hJ hall hstep
      go_wp2_with fail
      go_loopw [7] (fun i wz => ∃ t : Nat, t ≤ N ∧ i = .int .i64 t ∧ WAt w.heap.size [] N wz x u2 ∧ Below w.heap.size w wz) (fun i _ => N - (intOf i).toNat)
      case atStart => exact ⟨0, by omega, rfl, hW.out, hB.out⟩
      case round =>
        clear hW hB
        obtain ⟨t, ht, rfl, hW, hB⟩ := hrel
        by_cases hlm : t < N
        · have r3 : decide ((t : Int) < (N : Nat)) = true := by simp; omega
          by_cases e : t = V
          · subst e
            have r5 : ((t : Int) != (t : Int)) = false := by simp
            have r5n : (t != t) = false := by simp
            have hW := Lib.hid hW
            have hB := Lib.hid hB
            clear hst hvw hrd hA hKn
            go_wp2_with fail
            go_roundw
            case rel => exact ⟨t + 1, by omega, by go_num, hW.out, hB.out⟩
            case measure => simp [intOf]; omega
          · have r5n : (t != V) = true := by simpa using e
            have r5 : ((t : Int) != (V : Int)) = true := by simp; omega
            have h1 := hst _ t hlm e hW
            have hW := Lib.hid hW
            have hB := Lib.hid hB
            clear hA hKn
            go_wp2_with fail
            refine h1.out.mono ?_
            rintro _ w7 ⟨rfl, b7⟩
            have hW7 := hW.out.below b7
            have hB7 := Lib.hid (hB.out.trans (b7.mono hB.out.size))
            have h2 := hvw _ t hlm e hW7
            have hW7 := Lib.hid hW7
            clear hW hB h1 b7 hst
            go_wp2_with fail
            refine h2.out.mono ?_
            rintro _ w8 ⟨rfl, b8⟩
            have hW8 := hW7.out.below b8
            have hB8 := Lib.hid (hB7.out.trans (b8.mono hB7.out.size))
            have h3 := hrd _ t hlm e hW8
            have hW8 := Lib.hid hW8
            clear hW7 hB7 h2 b8 hvw hrd
            go_wp2_with fail
            refine h3.out.mono ?_
            rintro _ w9 ⟨Am, mm, cm, am, rfl, b9⟩
            have hW9 := Lib.hid (hW8.out.below b9)
            have hB9 := Lib.hid (hB8.out.trans (b9.mono hB8.out.size))
            have hfg := field_good Am mm cm am false w9
            clear hW8 hB8 h3 b9
            go_wp2_with fail
            go_roundw
            case rel => exact ⟨t + 1, by omega, by go_num, hW9.out, hB9.out⟩
            case measure => simp [intOf]; omega
        · obtain rfl : t = N := by omega
          have r3 : decide ((t : Int) < (t : Nat)) = false := by simp
          obtain ⟨e1, hJ0⟩ := hA.out
          have hst1 := wstep_on hW V VN 100
          rw [e1] at hst1
          have hst1 := Lib.hid hst1
          have hJ0 := Lib.hid hJ0
          have hB := Lib.hid hB
          have hstep := Lib.hid (fun j u (h : RA t (d0 t) (41 % t) V j u) (hj : j < 600) => h.step ⟨N4, N8⟩ (d0_eq t) VN hk0 hj)
          clear hst hvw hrd hA hW e1 hfG wpv wz3
          go_wp2_with fail
          refine hst1.out.mono ?_
          rintro _ w10 ⟨rfl, hW10, c10⟩
          have hB10 := Lib.hid (hB.out.trans c10.b)
          have hW10 := Lib.hid hW10
          clear hst1 hB c10
          go_wp2_with fail
          go_loopw [8] (fun i wr => ∃ j : Nat, j ≤ 4 * t ∧ i = .int .i64 j ∧ ∃ u, RA t (d0 t) (41 % t) V j u ∧ WAt w.heap.size [] t wr x u ∧ Below w.heap.size w wr) (fun i _ => 4 * t - (intOf i).toNat)
          case atStart => exact ⟨0, by omega, rfl, _, hJ0.out, hW10.out, hB10.out⟩
          case round =>
            clear hW10 hB10 hJ0
            obtain ⟨j, hj, rfl, u5, hJ, hW, hB⟩ := hrel
            by_cases hlt : j < 4 * t
            · have r6 : decide ((j : Int) < 4 * (t : Nat)) = true := by simp; omega
              obtain ⟨ok, hJ2⟩ := hstep.out j u5 hJ (by omega)
              have hst := Lib.hid (wstep_slot hW ok (by rw [hJ.sl]; omega))
              have hJ2 := Lib.hid hJ2
              have hB := Lib.hid hB
              clear hW hJ ok hstep hKn
              go_wp2_with fail
              refine hst.out.mono ?_
              rintro e w3 ⟨rfl, hW3, c3⟩
              have hB3 := Lib.hid (hB.out.trans c3.b)
              have hW3 := Lib.hid hW3
              clear hst hB c3
              go_wp2_with fail
              go_roundw
              case rel => exact ⟨j + 1, by omega, by go_num, _, hJ2.out, hW3.out, hB3.out⟩
              case measure => simp [intOf]; omega
            · obtain rfl : j = 4 * t := by omega
              have ec : ((4 * t : Nat) : Int) = 4 * (t : Int) := by omega
              rw [ec]
              clear ec
              have r6 : decide (4 * (t : Int) < 4 * (t : Int)) = false := by simp
              obtain ⟨rs, ks, hall⟩ := hJ.back ⟨N4, N8⟩ VN hk0
              have hst := fun W i (hi : i < t) (h : WAt w.heap.size [] t W x u5) => Lib.hid (show Calls Tryz.prog 17 #[.pointer (some ⟨x, 0, none⟩), .int .i64 (i : Nat)] W fun e w' => e = .returned (.int .i64 4) ∧ Below W.heap.size W w' by
                have := h.state_ i hi
                rw [(hall i hi).1] at this
                exact this)
              have hvw := fun W i (hi : i < t) (h : WAt w.heap.size [] t W x u5) => Lib.hid (show Calls Tryz.prog 18 #[.pointer (some ⟨x, 0, none⟩), .int .i64 (i : Nat)] W fun e w' => e = .returned (.agg #[.int .i64 rs, .int .i64 (ks : Nat), .int .i64 (M : Int)]) ∧ Below W.heap.size W w' by
                have := h.view_ i hi
                obtain ⟨-, h2, h3, h4⟩ := hall i hi
                rw [h2, h3, h4, hMM.out] at this
                exact this)
              have hW := Lib.hid hW
              have hB := Lib.hid hB
              have hm0 : 0 < t := by omega
              have hfM : ∀ W : World, (Instr.field 42 (.agg #[.int .i64 rs, .int .i64 (ks : Nat), .int .i64 (M : Int)]) 2).run Tryz.prog W = .ok (.int .i64 (M : Int)) W := fun _ => rfl
              clear hJ hall hstep
              go_wp2_with fail
              go_loopw [9] (fun i wz => ∃ m : Nat, m ≤ t ∧ i = .int .i64 m ∧ WAt w.heap.size [] t wz x u5 ∧ Below w.heap.size w wz) (fun i _ => t - (intOf i).toNat)
              case atStart => exact ⟨0, by omega, rfl, hW.out, hB.out⟩
              case round =>
                clear hW hB
                obtain ⟨m, hm, rfl, hW, hB⟩ := hrel
                by_cases hlm : m < t
                · have r7 : decide ((m : Int) < (t : Nat)) = true := by simp; omega
                  have h1 := hst _ m hlm hW
                  have hW := Lib.hid hW
                  have hB := Lib.hid hB
                  go_wp2_with fail
                  refine h1.out.mono ?_
                  rintro _ w7 ⟨rfl, b7⟩
                  have hW7 := hW.out.below b7
                  have hB7 := Lib.hid (hB.out.trans (b7.mono hB.out.size))
                  have h2 := hvw _ m hlm hW7
                  have hW7 := Lib.hid hW7
                  clear hW hB h1 b7
                  go_wp2_with fail
                  refine h2.out.mono ?_
                  rintro _ w8 ⟨rfl, b8⟩
                  have hW8 := hW7.out.below b8
                  have hB8 := Lib.hid (hB7.out.trans (b8.mono hB7.out.size))
                  have h3 := hvw _ 0 hm0 hW8
                  have hW8 := Lib.hid hW8
                  clear hW7 hB7 h2 b8
                  go_wp2_with fail
                  refine h3.out.mono ?_
                  rintro _ w9 ⟨rfl, b9⟩
                  have hW9 := hW8.out.below b9
                  have hB9 := Lib.hid (hB8.out.trans (b9.mono hB8.out.size))
                  have h4 := hvw _ m hlm hW9
                  have hW9 := Lib.hid hW9
                  clear hW8 hB8 h3 b9
                  go_wp2_with fail
                  refine h4.out.mono ?_
                  rintro _ w12 ⟨rfl, b12⟩
                  have hW12 := Lib.hid (hW9.out.below b12)
                  have hB12 := Lib.hid (hB9.out.trans (b12.mono hB9.out.size))
                  clear hW9 hB9 h4 b12
                  go_wp2_with fail
                  go_roundw
                  case rel => exact ⟨m + 1, by omega, by go_num, hW12.out, hB12.out⟩
                  case measure => simp [intOf]; omega
                · obtain rfl : m = t := by omega
                  have r7 : decide ((m : Int) < (m : Nat)) = false := by simp
                  have hB := Lib.hid hB
                  clear hst hvw hW
                  go_wp2_with fail
                  refine (hKn _).out.mono ?_
                  rintro _ w13 ⟨rfl, b13⟩
                  have hB13 := Lib.hid (hB.out.trans (b13.mono hB.out.size))
                  clear hB hKn b13
                  go_wp2_with fail
                  go_ret
                  exact ⟨rfl, hB13.out⟩
theorem walk_wardLeaves (n who : Int) (w : World) (_h_n : -9223372036854775808 ≤ n ∧ n ≤ 9223372036854775807) (_h_w : -9223372036854775808 ≤ who ∧ who ≤ 9223372036854775807) :
    Calls Tryz.prog 5 #[.int .i64 n, .int .i64 who] w fun e w' => e = .returned (.bool true) ∧ Below w.heap.size w w' := core_wardLeaves n who w

/-! ### THE ROW's STEP around the walk. -/
theorem own_wardLeaves : ownKnob Tryz.prog.godebug = none := by kernel_rfl
theorem laidOut_wardLeaves : laidOutB Tryz.prog = true := by kernel_rfl
set_option maxRecDepth 100000 in
theorem lifted_wardLeaves (os : Os) (started : os.Started) (H : Type) (enc : TypeId × Value → H) :
    ReturnsInHanded {} Tryz.checked os 5 .any (Rows.wardLeavesSpec.pre6 enc Tryz.prog Tryz.f5 Rows.wardLeavesRow.domain false) (Rows.wardLeavesSpec.post enc Tryz.prog Tryz.f5 false true false false) := by
  refine returnsInHanded_of_change (C := Tryz.checked) own_wardLeaves started (by kernel_rfl) Tryz.func5
    (ChangeSpec.witness6 (enc := enc) (C := Tryz.checked) false ⟨#[], #[.int .i64 0, .int .i64 0], []⟩ 8 (by kernel_rfl) (by kernel_rfl) (by kernel_rfl) (by kernel_rfl)) ?_
  intro W base args ds gs before hval0 hW hcnd _
  have hval : ∀ (j : Nat) t v, Tryz.f5.params[j]? = some t → args[j]? = some v → Value.okWide Tryz.prog W .any base t v := hval0
  have hW' := hW
  obtain ⟨p, q, hA0, hV, rfl, hfz, hnd⟩ := hW
  have hA : DataW.TrodAll enc Tryz.prog W 0 (fun _ => true) true Tryz.f5.params.toList args.toList ds p := hA0
  rw [Tryz.params5] at hA hval
  obtain ⟨v0, vs0, d0, ds0, p0, q0, hargs, rfl, rfl, h0, r0⟩ := trodAll_cons hA
  obtain ⟨v1, vs1, d1, ds1, p1, q1, rfl, rfl, rfl, h1, r1⟩ := trodAll_cons r0
  obtain ⟨rfl, rfl, rfl⟩ := trodAll_nil r1
  obtain rfl : args = #[v0, v1] := by cases args; simp_all
  obtain ⟨rfl, rfl⟩ := trodVars_none hV
  obtain ⟨a0, rfl, rfl, rfl, w0⟩ := open_int Tryz.underlying3 (hval 0 3 v0 rfl rfl) h0
  obtain ⟨a1, rfl, rfl, rfl, w1⟩ := open_int Tryz.underlying3 (hval 1 3 v1 rfl rfl) h1
  clear hA0 hval0
  refine (walk_wardLeaves a0 a1 W (bounds_i64 w0) (bounds_i64 w1)).mono fun e W' ⟨he, bel⟩ => ?_
  subst he
  exact ⟨_, rfl, _, _, _, [], _, [], hW', trodAll_mk1 (shut_bool Tryz.underlying4 _), (trodAll_cons_mk (shut_int Tryz.underlying3 w0) (trodAll_cons_mk (shut_int Tryz.underlying3 w1) trodAll_mk0)), rfl, bel.frame _, fun h => by cases h⟩

theorem over_wardLeaves : Rows.wardLeavesRow.holds Tryz.pinned (OpenSpec.ofChange Rows.wardLeavesSpec) :=
  OpenClaim.holds_of_wide 5 Tryz.f5 rfl rfl rfl rfl rfl rfl rfl ⟨rfl, rfl, rfl, rfl, rfl⟩ rfl rfl rfl rfl rfl (by kernel_rfl) Tryz.func5 (by kernel_rfl)
    (of_decide_eq_true (by kernel_rfl)) (by unfold Func.isWrapper; first | (rw [if_pos (by decide +kernel)]; kernel_rfl) | (rw [if_neg (by decide +kernel)]; exact ⟨rfl, rfl⟩))
    (fun os started H enc _ => lifted_wardLeaves os started H enc)

theorem proved_wardLeaves : Rows.WardLeavesSaid := over_wardLeaves
end Go.Proofs.YtjoioojckekfhaaGreat
