/- Texts NdW, NdY in one. -/
import Derived.Test.YteadkhigkmijiaaGreatPD1
import Derived.Test.YteadkhigkmijiaaGreatPD8
import Derived.Test.YteadkhigkmijiaaGreatPD21
import Derived.Test.YteadkhigkmijiaaGreatPD24
set_option linter.all false
namespace Go.Proofs.YteadkhigkmijiaaGreat
section
set_option maxRecDepth 100000
set_option maxHeartbeats 4000000
open Go.RowKit
open Fr (St F)
theorem tL(m:NM)(h:Hn):((NM.rows h).find? λl=>decide (Fr.err l m.own=0)&&decide ((Fr.res l m.own).k≠3/\(Fr.res l m.own).st=m.own))=m.lg h:=by
 unfold NM.lg
 congr 1
 funext l
 rw[bY];simp only[bg,bC];exact fS
theorem CZ(b:Bool)(G:Nat->Prop)(g:Nat)(m:NM)(h:Hn)(vx vy:Value)(w:World)(hm:NA b G w g m)(hh:HOk w h vx vy)(hsl:m.sl<8)(hn:m.lg h=none)(ty2:TS)(hT:(h.a=0/\h.b=0)/\m.ty.miss m.sl=ty2\/¬(h.a=0/\h.b=0)/\m.ty.f<1000/\m.ty.wrong m.sl=ty2):
  Calls Tryz.prog 110 #[↑(g,0),hdV h vx vy] w λe w'=>e=.returned (.tuple #[])/\NA b G w' g (m.took ty2 m.so m.ck)/\Only g w w':=by
 have hS:=λW=>af (CR h vx vy W);obtain⟨q,hqS,hT2⟩:∃q,decide (h.a=0/\h.b=0)=q/\(q=true/\m.ty.miss m.sl=ty2\/q=false/\m.ty.f<1000/\m.ty.wrong m.sl=ty2):=⟨_,rfl,hT.imp (λh=>⟨av h.1,h.2⟩) λh=>⟨aj h.1,h.2⟩⟩;rw[hqS]at hS;clear hqS hT;obtain⟨Ax,cx,ex,-⟩:=hh.x.at_;obtain⟨Ay,cy,ey,-⟩:=hh.y.at_;subst ex;subst ey;have hmf:∀(fn:Fn)(first cap:Array Value)(w:World),(Instr.makeFunc fn first cap).run Tryz.prog w=.ok (.func fn first cap) w:=λ_ _ _ _=>rfl;have hgl:=hm.lt;have hX:=aJ w w rfl (aH h (.slice Ax h.x.length cx) (.slice Ay h.y.length cy)) 153;have hb0:=(ah w w).alloc lr (.cells (aH h (.slice Ax h.x.length cx) (.slice Ay h.y.length cy)) 153);have hk:Hid (NA b G w g m):=af hm;have hvx:=af hh.x;have hvy:=af hh.y;have bx:=hh.bx;have by_:=hh.by_;have hsz:w.heap.size<(w.alloc (.cells (aH h (.slice Ax h.x.length cx) (.slice Ay h.y.length cy)) 153)).heap.size:=by simp
 have hm1:=hm.below hb0;have hO:=wN hm.tyo (k:=m.sl) hsl;have hsn:(0:Int)<=((m.sl:Nat):Int):=by omega
 unfold hdV at *;clear hm hh
 go_enter Tryz.func110,Tryz.ntmps110
 go_wp2_with fail;generalize w.alloc (.cells (aH h (.slice Ax h.x.length cx) (.slice Ay h.y.length cy)) 153)=w1 at *;have c12:=hm1.c12;have HV:∀W,Below w1 w1 W->Hid (Calls Tryz.prog 79 #[↑(g,0)] W λe w'=>e=.returned (csV m.rd m.sl m.ty.m)/\Below W W w'/\Below w1 w1 w'):=λW hW=>af ((pX b G g m W (hm1.below hW)).mono λe w'⟨h1,h2⟩=>⟨h1,h2,hW.trans (h2.mono hW.size)⟩);have HS:∀W,Below w1 w1 W->Hid (W.cell? (g,12)=some ↑(m.sl:Nat)):=λW hW=>af (hm1.below hW).c12;have hb1:=ah w1 w1;unfold csV at HV
 go_cut [4,5]from 8 (λs4 s5 W=>∃p:Nat,s4=↑(m.sl:Nat)/\s5=↑(p,0)/\Blk W p #[↑m.rd,↑(m.sl:Nat),↑(m.ty.m:Nat)] 96/\Below w1 w1 W/\w1.heap.size<=p)
 case first=>
  go_region_held3 (λW=>W.cell? (g,12)=some ↑(m.sl:Nat))
   ((refine(HS _ ?_).o;(repeat' (first|exact hb1|exact b5|(with_reducible refine bL ?_)|(with_reducible refine bE ?_ ?_ _)|exact b5.size|exact aR _|(with_reducible refine aU ?_ ?_ _)|omega|(simp;done)|(simp;omega)))))
   (first
    |((go_at_call 79;with_reducible refine(HV _ ?_).o.mono ?_);(focus ((repeat' (first|exact hb1|(with_reducible refine bL ?_)|(with_reducible refine bE ?_ ?_ _)|exact aR _));done));rintro _ w5 ⟨rfl,b5',b5⟩;(first|(have hZ:Blk w5 w1 #[.int .i64 0,.int .i64 0,.int .i64 0] 96:=iy (Blk.drew (aJ w1 _ (by simp) _ _)) b5' (by simp))|(have hZ:Blk w5 w1 #[.int .i64 0,.int .i64 0,.int .i64 0] 96:=iy (aJ w1.drew _ (by simp) _ _) b5' (by simp))|skip);(first|(have y0:=hZ.cell 0 (x:=.int .i64 0) rfl;have y1:=hZ.cell 1 (x:=.int .i64 0) rfl;have y2:=hZ.cell 2 (x:=.int .i64 0) rfl;have f0:=hZ.frozen 0;have f1:=hZ.frozen 1;have f2:=hZ.frozen 2)|skip)))
  all_goals
   go_wp2_with fail
   go_meet
   first
    |exact⟨_,rfl,rfl,aJ _ _ rfl _ _,b5.alloc b5.size _,b5.size⟩
    |exact⟨_,rfl,rfl,(((hZ.set 0 (.int .i64 m.rd)).set 1 (.int .i64 (m.sl:Nat))).set 2 (.int .i64 (m.ty.m:Nat))).eq (by simp),((b5.setCell lr _).setCell lr _).setCell lr _,aR _⟩
 case rest=>
  obtain⟨p,rfl,rfl,hP,b2,hp⟩:=hcut;have hX2:=hX.below b2 hsz;have hb2:=hb0.trans (b2.mono hb0.size);clear hX hm1 hb1 HV HS c12 b2;have p2:=hP.cell 2 (x:=↑(m.ty.m:Nat)) rfl;have pf2:=hP.frozen 2;have bX:Below w wc (wc.setCell (p,2) ↑(Go.Proofs.YteadkhigkmijiaaGreat.ins m.ty.m m.sl:Nat)).drew:=((ah w wc).setCell (p:=(p,2)) (by show w.heap.size<=p;omega) _).drew;have bX1:Below w1 wc (wc.setCell (p,2) ↑(Go.Proofs.YteadkhigkmijiaaGreat.ins m.ty.m m.sl:Nat)).drew:=((ah w1 wc).setCell (p:=(p,2)) hp _).drew;have hP3:=((hP.set 2 ↑(Go.Proofs.YteadkhigkmijiaaGreat.ins m.ty.m m.sl:Nat)).drew).eq (cs':=#[↑m.own.r,↑m.own.s,↑m.own.m]) (by simp[NM.own]);have hX3:=hX2.below bX1 hsz;have hb3:=hb2.trans bX;clear hP hX2 hb2 bX bX1;go_wp2_with fail
  go_region
  clear p2 pf2 hO;generalize(wc.setCell (p,2) ↑(Go.Proofs.YteadkhigkmijiaaGreat.ins m.ty.m m.sl:Nat)).drew=w3 at *;have x0:=hX3.cell 0 (x:=↑h.a) rfl;have x1:=hX3.cell 1 (x:=↑h.b) rfl;have x2:=hX3.cell 2 (x:=.slice Ax h.x.length cx) rfl;have x3:=hX3.cell 3 (x:=.slice Ay h.y.length cy) rfl;have x4:=hX3.cell 4 (x:=↑h.o) rfl;have p0:=hP3.cell 0 (x:=↑m.own.r) rfl;have p1:=hP3.cell 1 (x:=↑m.own.s) rfl;have p2:=hP3.cell 2 (x:=↑m.own.m) rfl;have hF:=af (CY p h (.slice Ax h.x.length cx) (.slice Ay h.y.length cy) m.own w3 ((hvx.o.below hb3).more hb3.size) bx ((hvy.o.below hb3).more hb3.size) by_ hP3);unfold Fst at hF;rw[tL,hn]at hF;simp only at hF;rw[show frV Fr.zero (.slice none 0 0)=.agg zF from rfl]at hF;unfold hdV stV at hF;clear hvx hvy hP3;go_wp2_with fail;refine hF.o.mono ?_;rintro _ w4 ⟨rfl,b4⟩;have hX5:=(hX3.below b4 hX3.lt).alloc (.cells zF 182);have b5:=(hb3.trans (b4.mono hb3.size)).alloc (aW hb3.size b4.size) (.cells zF 182);clear x0 x1 x2 x3 x4 p0 p1 p2 hX3 b4 hb3;have x0:=hX5.cell 0 (x:=↑h.a) rfl;have x1:=hX5.cell 1 (x:=↑h.b) rfl;have x2:=hX5.cell 2 (x:=.slice Ax h.x.length cx) rfl;have x3:=hX5.cell 3 (x:=.slice Ay h.y.length cy) rfl;have x4:=hX5.cell 4 (x:=↑h.o) rfl;clear hX5;go_wp2_with fail;refine(hS _).o.mono ?_;rintro _ w6 ⟨rfl,b6⟩;have b6:=b5.trans (b6.mono b5.size);have h6:=hk.o.below b6;have o6:=iQ g b6;clear x0 x1 x2 x3 x4 b5 b6 hF hS;rcases hT2 with⟨rfl,ht⟩|⟨rfl,hf,ht⟩
  all_goals
   go_wp2_with fail
   first|refine(h6.miss m.sl).mono ?_|refine(h6.wrong m.sl hf).mono ?_
   rintro _ w7 ⟨rfl,h7,o7⟩;rw[ht]at h7;have o7:=o6.trans o7;clear h6 o6 hk;have HI:=af (h7.drew.is_ m.sl);have HM:=af (h7.drew.member m.sl (isB ty2.m m.sl));have o8:=o7.drew;clear h7 o7;go_wp2_with fail
   go_still_tail 9,(by kernel_rfl)
   still_call HI.o
   repeat still_step
   refine wpStill_nil ?_;change wpList _ _ _ _ _ w7.drew;go_wp2_with fail;refine HM.o.mono ?_;rintro _ w8 ⟨rfl,h8,o9⟩;go_wp2;exact aD (ax (by rfl) _ _ _) rfl ⟨rfl,h8,o8.trans o9⟩
theorem C0(b:Bool)(G:Nat->Prop)(g:Nat)(m:NM)(h:Hn)(vx vy:Value)(l:List Int)(w:World)(hm:NA b G w g m)(hh:HOk w h vx vy)(hsl:m.sl<8)(hn:m.lg h=some l)(hG:∀x,w.heap.size<=x->G x)(ha:m.ty.a<1000)(hsn:m.sl<m.t.ns.length)(hns:m.t.ns.length<=8)(ck2:List Int)(hS2:(m.at_ m.sl).sy=true/\iT m.ck h.o=ck2\/(m.at_ m.sl).sy=false/\m.ck=ck2):
  Calls Tryz.prog 110 #[↑(g,0),hdV h vx vy] w λe w'=>e=.returned (.tuple #[])/\NA b G w' g (m.took (m.ty.right m.sl) (m.so.put m.sl (Fr.res l m.own).d) ck2)/\Only g w w':=by
 obtain⟨Ax,cx,ex,-⟩:=hh.x.at_;obtain⟨Ay,cy,ey,-⟩:=hh.y.at_;subst ex;subst ey;have hmf:∀(fn:Fn)(first cap:Array Value)(w:World),(Instr.makeFunc fn first cap).run Tryz.prog w=.ok (.func fn first cap) w:=λ_ _ _ _=>rfl;have hgl:=hm.lt;have hX:=aJ w w rfl (aH h (.slice Ax h.x.length cx) (.slice Ay h.y.length cy)) 153;have hb0:=(ah w w).alloc lr (.cells (aH h (.slice Ax h.x.length cx) (.slice Ay h.y.length cy)) 153);have hk:Hid (NA b G w g m):=af hm;have hvx:=af hh.x;have hvy:=af hh.y;have bx:=hh.bx;have by_:=hh.by_;have hsz:w.heap.size<(w.alloc (.cells (aH h (.slice Ax h.x.length cx) (.slice Ay h.y.length cy)) 153)).heap.size:=by simp
 have hm1:=hm.below hb0;have hO:=wN hm.tyo (k:=m.sl) hsl;have hs0:(0:Int)<=((m.sl:Nat):Int):=by omega
 unfold hdV at *;clear hm hh
 go_enter Tryz.func110,Tryz.ntmps110
 go_wp2_with fail;generalize w.alloc (.cells (aH h (.slice Ax h.x.length cx) (.slice Ay h.y.length cy)) 153)=w1 at *;have c12:=hm1.c12;have HV:∀W,Below w1 w1 W->Hid (Calls Tryz.prog 79 #[↑(g,0)] W λe w'=>e=.returned (csV m.rd m.sl m.ty.m)/\Below W W w'/\Below w1 w1 w'):=λW hW=>af ((pX b G g m W (hm1.below hW)).mono λe w'⟨h1,h2⟩=>⟨h1,h2,hW.trans (h2.mono hW.size)⟩);have HS:∀W,Below w1 w1 W->Hid (W.cell? (g,12)=some ↑(m.sl:Nat)):=λW hW=>af (hm1.below hW).c12;have hb1:=ah w1 w1;unfold csV at HV
 go_cut [4,5]from 8 (λs4 s5 W=>∃p:Nat,s4=↑(m.sl:Nat)/\s5=↑(p,0)/\Blk W p #[↑m.rd,↑(m.sl:Nat),↑(m.ty.m:Nat)] 96/\Below w1 w1 W/\w1.heap.size<=p)
 case first=>
  go_region_held3 (λW=>W.cell? (g,12)=some ↑(m.sl:Nat))
   ((refine(HS _ ?_).o;(repeat' (first|exact hb1|exact b5|(with_reducible refine bL ?_)|(with_reducible refine bE ?_ ?_ _)|exact b5.size|exact aR _|(with_reducible refine aU ?_ ?_ _)|omega|(simp;done)|(simp;omega)))))
   (first
    |((go_at_call 79;with_reducible refine(HV _ ?_).o.mono ?_);(focus ((repeat' (first|exact hb1|(with_reducible refine bL ?_)|(with_reducible refine bE ?_ ?_ _)|exact aR _));done));rintro _ w5 ⟨rfl,b5',b5⟩;(first|(have hZ:Blk w5 w1 #[.int .i64 0,.int .i64 0,.int .i64 0] 96:=iy (Blk.drew (aJ w1 _ (by simp) _ _)) b5' (by simp))|(have hZ:Blk w5 w1 #[.int .i64 0,.int .i64 0,.int .i64 0] 96:=iy (aJ w1.drew _ (by simp) _ _) b5' (by simp))|skip);(first|(have y0:=hZ.cell 0 (x:=.int .i64 0) rfl;have y1:=hZ.cell 1 (x:=.int .i64 0) rfl;have y2:=hZ.cell 2 (x:=.int .i64 0) rfl;have f0:=hZ.frozen 0;have f1:=hZ.frozen 1;have f2:=hZ.frozen 2)|skip)))
  all_goals
   go_wp2_with fail
   go_meet
   first
    |exact⟨_,rfl,rfl,aJ _ _ rfl _ _,b5.alloc b5.size _,b5.size⟩
    |exact⟨_,rfl,rfl,(((hZ.set 0 (.int .i64 m.rd)).set 1 (.int .i64 (m.sl:Nat))).set 2 (.int .i64 (m.ty.m:Nat))).eq (by simp),((b5.setCell lr _).setCell lr _).setCell lr _,aR _⟩
 case rest=>
  obtain⟨p,rfl,rfl,hP,b2,hp⟩:=hcut;have hX2:=hX.below b2 hsz;have hb2:=hb0.trans (b2.mono hb0.size);clear hX hm1 hb1 HV HS c12 b2;have p2:=hP.cell 2 (x:=↑(m.ty.m:Nat)) rfl;have pf2:=hP.frozen 2;have bX:Below w wc (wc.setCell (p,2) ↑(Go.Proofs.YteadkhigkmijiaaGreat.ins m.ty.m m.sl:Nat)).drew:=((ah w wc).setCell (p:=(p,2)) (by show w.heap.size<=p;omega) _).drew;have bX1:Below w1 wc (wc.setCell (p,2) ↑(Go.Proofs.YteadkhigkmijiaaGreat.ins m.ty.m m.sl:Nat)).drew:=((ah w1 wc).setCell (p:=(p,2)) hp _).drew;have hP3:=((hP.set 2 ↑(Go.Proofs.YteadkhigkmijiaaGreat.ins m.ty.m m.sl:Nat)).drew).eq (cs':=#[↑m.own.r,↑m.own.s,↑m.own.m]) (by simp[NM.own]);have hX3:=hX2.below bX1 hsz;have hb3:=hb2.trans bX;clear hP hX2 hb2 bX bX1;go_wp2_with fail
  go_region
  clear p2 pf2 hO;generalize(wc.setCell (p,2) ↑(Go.Proofs.YteadkhigkmijiaaGreat.ins m.ty.m m.sl:Nat)).drew=w3 at *;have x0:=hX3.cell 0 (x:=↑h.a) rfl;have x1:=hX3.cell 1 (x:=↑h.b) rfl;have x2:=hX3.cell 2 (x:=.slice Ax h.x.length cx) rfl;have x3:=hX3.cell 3 (x:=.slice Ay h.y.length cy) rfl;have x4:=hX3.cell 4 (x:=↑h.o) rfl;have p0:=hP3.cell 0 (x:=↑m.own.r) rfl;have p1:=hP3.cell 1 (x:=↑m.own.s) rfl;have p2:=hP3.cell 2 (x:=↑m.own.m) rfl;have hF:=af (CY p h (.slice Ax h.x.length cx) (.slice Ay h.y.length cy) m.own w3 ((hvx.o.below hb3).more hb3.size) bx ((hvy.o.below hb3).more hb3.size) by_ hP3);unfold Fst at hF;rw[tL,hn]at hF;simp only at hF;unfold hdV stV at hF;have hl:iK (Fr.res l m.own).d:=by
   refine qV _ _ ?_;rcases tJ (fI hn)with e|e
   ·rw[e];exact bx
   ·rw[e];exact by_
  generalize hfr:(Fr.res l m.own)=fr at *;obtain⟨fk,⟨f_r,f_s,f_m⟩,fd⟩:=fr;have HFR:=af hfr;unfold frV at hF;simp only at hF hl;clear hvx hvy hP3 hfr hn;go_wp2_with fail;refine hF.o.mono ?_;rintro _ w4 ⟨v,rfl,hv,b4⟩;obtain⟨A2,c2,rfl,-⟩:=hv.sees.at_;have hX5:=(hX3.below b4 hX3.lt).alloc (.cells (aF fk f_r f_s f_m A2 (fd.length) c2) 182);have hY5:=aJ w4 w4 rfl (aF fk f_r f_s f_m A2 (fd.length) c2) 182;have hD5:=((hv.dat (F:=[g]) (by have:=hb3.size;simp;omega)).keep (ku ((ah _ w4).alloc lr (.cells (aF fk f_r f_s f_m A2 (fd.length) c2) 182))));have b5:=(hb3.trans (b4.mono hb3.size)).alloc (aW hb3.size b4.size) (.cells (aF fk f_r f_s f_m A2 (fd.length) c2) 182);have h5:=hk.o.below b5;have o5:=iQ g b5;have hg5:g≠w4.heap.size:=by have:=hb3.size;have:=b4.size;omega
  clear x0 x1 x2 x3 x4 p0 p1 p2 hX3 b4 hb3 b5 hv hF hk;go_wp2_with fail;generalize w4.alloc (.cells (aF fk f_r f_s f_m A2 (fd.length) c2) 182)=w5 at *;refine(h5.right m.sl ha).mono ?_;rintro _ w6 ⟨rfl,h6,o6⟩;have hX6:=hX5.only o6 (by omega);have hY6:=hY5.only o6 (dH hg5);have hD6:=hD5.keep (o6.kp (by simp));have o6:=o5.trans o6;have y4:=hY6.cell 4 (x:=.slice A2 fd.length c2) rfl;have HP:=af (h6.drew.put m.sl (λx hx=>hG x (aW o6.size hx)) (hD6.keep (ku (ah _ w6).drew)).1 hl);have hX6:=hX6.drew;have o6:=o6.drew;clear h5 h6 hX5 hY5 hY6 hD5 hD6 o5;go_wp2_with fail
  go_still_tail 6,(by kernel_rfl)
  change wpList _ _ _ _ _ w6.drew;go_wp2_with fail;refine HP.o.mono ?_;rintro _ w7 ⟨rfl,h7,o7⟩;have hX7:=hX6.only o7 (by omega);have o7:=o6.trans o7;clear HP y4 hX6 o6;obtain⟨A,c,c0,hT⟩:=h7.cV;obtain⟨A',c',e,u1,u2,hSD,-⟩:=hT.at_
  cases e
  obtain⟨bl,off,rfl,hbl,hAt⟩:=hSD (gG (bH _) hsn);have k0:=(hAt m.sl hsn).c0;have hS3:(m.t.ns.getD m.sl default).sy=true/\iT m.ck h.o=ck2\/(m.t.ns.getD m.sl default).sy=false/\m.ck=ck2:=hS2;change w7.cell? (bl,off+m.sl*4)=some ↑(m.t.ns.getD m.sl default).sy at k0;change w7.cell? (g,0)=some (.slice (some (bl,off)) m.t.ns.length c)at c0;have hnn:((m.sl:Nat):Int)<((m.t.ns.length:Nat):Int):=by omega
  have hn8:((m.t.ns.length:Nat):Int)<=8:=by omega
  clear hT u1 u2 hSD hAt hS2;generalize(m.t.ns.getD m.sl default).sy=sy at *;generalize m.t.ns.length=N at *;rcases hS3 with⟨rfl,rfl⟩|⟨rfl,rfl⟩
  case' inl=>
   have x4:=hX7.cell 4 (x:=↑h.o) rfl;have HMs:=af (h7.drew.measure h.o);have o7:=o7.drew;clear h7 hX7;go_wp2_with fail
   go_still_tail 5,(by kernel_rfl)
   change wpList _ _ _ _ _ w7.drew;go_wp2_with fail;refine HMs.o.mono ?_;rintro _ wm ⟨rfl,h7,om⟩;have o7:=o7.trans om;clear HMs om x4 k0 c0
  case' inr=>clear hX7
  all_goals
   have HI:=af (h7.drew.is_ m.sl);have HM:=af (h7.drew.member m.sl (isB (m.ty.right m.sl).m m.sl));have o8:=o7.drew;clear h7 o7;go_wp2_with fail
   go_still_tail 9,(by kernel_rfl)
   still_call HI.o
   repeat still_step
   refine wpStill_nil ?_
   first|change wpList _ _ _ _ _ wm.drew|change wpList _ _ _ _ _ w7.drew
   go_wp2_with fail;refine HM.o.mono ?_;rintro _ w8 ⟨rfl,h8,o9⟩;go_wp2;exact aD (ax (by rfl) _ _ _) rfl ⟨rfl,by rw[HFR.o];exact h8,o8.trans o9⟩
end
section
open Go.RowKit
open Fr (St F)
structure NJ(m:NM):Prop where
 is:m.t.is=true
 i:m.i<m.t.ns.length
 st:m.st<=5
 rd:0<=m.rd/\m.rd<=65535
 sl:m.sl<m.t.ns.length
 da:m.da.length<=8/\iK m.da
 wt:(m.wt:Int)<m.me.li
 ck:small m.ck
 dr:-1000<=m.dr/\m.dr<=1000
structure NI(b:Bool)(m:NM):Prop where
 j:NJ m
 b1:b=true->m.sl=m.i/\(m.st=2\/m.st=4\/m.st=5)
 b2:b=m.se\/m.st=5
theorem small.mW{l:List Int}(h:small l){n:Int}(hn:-1099511627776<=n/\n<=1099511627776):small (Go.Proofs.YteadkhigkmijiaaGreat.iT l n):=by
 unfold Go.Proofs.YteadkhigkmijiaaGreat.iT
 split
 ·intro x hx
  rcases bG.1 hx with hx|hx
  ·exact h x (fP hx)
  ·rw[bD]at hx;rw[hx];exact hn
 ·intro x hx
  rcases bG.1 hx with hx|hx
  ·exact h x hx
  ·rw[bD]at hx;rw[hx];exact hn
theorem qD:small []:=λx hx=>by simp at hx
theorem Ml{m:NM}(h:m.i<m.t.ns.length):m.me∈m.t.ns:=by
 unfold NM.me;rw[ay,aP h,fZ];exact dS h
theorem sC{m:NM}(hs:m.t.is=true)(h:m.i<m.t.ns.length):0<m.me.li:=by
 have hn:=(Tb.T.may hs).n4;simp only[Tb.T.is,Tb.are,bg,Tb.lC]at hs;obtain⟨⟨-,h3,-⟩,-⟩:=hs;rw[Tb.C9]at h3;have:=h3 _ h;simp only[Tb.ok,bg,Tb.lC]at this;unfold NM.me;omega
section
variable {m:NM}{b:Bool}
theorem NJ.may(h:NJ m):Tb.May m.t:=Tb.T.may h.is
theorem NJ.meB(h:NJ m):(0<=m.me.li/\m.me.li<=200)/\1<=m.me.sz/\m.me.sz<=8:=h.may.nodes _ (Ml h.i)
theorem NJ.anew(h:NJ m)(k:Nat)(hk:k<=5):NJ (m.anew k):=
 ⟨h.is,h.i,hk,⟨Int.le_refl _,by show(0:Int)<=65535;decide⟩,gG (bH _) h.sl,h.da,sC (m:=m) h.is h.i,qD,h.dr⟩
theorem NI.anew(h:NJ m)(k:Nat)(hk:k<=5):NI false (m.anew k):=⟨h.anew k hk,(λh=>by cases h),.inl rfl⟩
theorem NJ.ne(h:NJ m)(ht:-4611687117939015680<=m.tm/\m.tm<=4611687117939015680):NE m:=⟨h.ck,h.may.lm,ht,h.dr⟩
theorem NJ.ng(h:NJ m)(ht:-4611687117939015680<=m.tm/\m.tm<=4611687117939015680):NG m:=⟨h.ne ht,⟨h.may.n4,h.may.n8⟩,h.sl,h.rd⟩
theorem NJ.nxt(h:NJ m):NJ m.nxt:=by
 have:=h.may.n4;have:=h.rd;have:=h.sl;refine⟨h.is,h.i,h.st,?_,?_,h.da,h.wt,h.ck,h.dr⟩
 ·show 0<=nxR m.t.ns.length m.rd m.sl/\nxR m.t.ns.length m.rd m.sl<=65535
  unfold nxR
  split<;>(try split)<;>omega
 ·show(nxS m.t.ns.length m.sl).toNat<m.t.ns.length
  unfold nxS
  split<;>omega
theorem NJ.kr(h:NJ m):NJ m.kr:=by
 unfold NM.kr
 split
 ·exact⟨h.is,h.i,h.st,h.rd,h.sl,h.da,h.wt,qD,h.dr⟩
 ·exact⟨h.is,h.i,aR _,h.rd,h.sl,h.da,h.wt,qD,h.dr⟩
theorem Mp(m:NM):m.kr.se=m.se:=by
 unfold NM.kr
 split<;>rfl
theorem NI.goOn(h:NJ m):NI false m.goOn:=by
 rw[NM.qQ]
 split
 ·exact⟨h.nxt,(λh=>by cases h),.inl rfl⟩
 ·exact⟨h.nxt.kr,(λh=>by cases h),.inl (by rw[Mp];rfl)⟩
theorem NI.on(h:NI b m)(a:Int):NI (if m.onE a=0 then false else b) (m.on a):=by
 unfold NM.on
 split
 ·have:=NI.anew h.j 1 (by omega)
  exact⟨⟨this.j.is,this.j.i,this.j.st,this.j.rd,this.j.sl,this.j.da,this.j.wt,this.j.ck,this.j.dr⟩,(λh=>by cases h),.inl rfl⟩
 ·exact h
theorem NI.off(h:NI b m):NI false m.off:=NI.anew h.j 0 (by omega)
theorem NI.write(h:NI b m)(l:List Int)(hl:iK l):NI b (m.write l):=by
 have hz:=h.j.meB;unfold NM.write
 split
 ·exact h
 ·exact⟨⟨h.j.is,h.j.i,h.j.st,h.j.rd,h.j.sl,⟨by show l.length<=8;omega,hl⟩,h.j.wt,h.j.ck,h.j.dr⟩,h.b1,h.b2⟩
theorem NJ.took(h:NJ m)(ty:TS)(so:MS)(ck:List Int)(hc:small ck):NJ (m.took ty so ck):=⟨h.is,h.i,h.st,h.rd,h.sl,h.da,h.wt,hc,h.dr⟩
theorem NJ.ck_(h:NJ m)(ck:List Int)(hc:small ck):NJ {m with ck:=ck}:=⟨h.is,h.i,h.st,h.rd,h.sl,h.da,h.wt,hc,h.dr⟩
theorem NJ.knows(h:NJ m)(f:F)(o:Int)(hr:0<=f.st.r/\f.st.r<=65535)(hs:0<=f.st.s/\f.st.s<m.t.ns.length):NJ (m.knows f o):=by
 have a:=h.anew 3 (by omega);exact⟨h.is,h.i,a.st,hr,by show f.st.s.toNat<m.t.ns.length;omega,h.da,a.wt,a.ck,h.dr⟩
end
theorem wO{l:List Int}{own:St}(h:Fr.err l own=0):(Fr.res l own).st.may=true:=by
 unfold Fr.err at h;by_cases h1:Fr.ji l own=true
 ·rw[au h1]at h
  by_cases h2:Fr.jT l own=true
  ·have e:Fr.res l own=Fr.rd l own:=by simp[Fr.res,h1,h2]
   rw[e];show(Fr.kK l own).may=true;simp only[Fr.ji,bg]at h1;exact h1.1.1.2
  ·rw[ai h2]at h;cases h
 ·rw[ai h1]at h;cases h
theorem tO{m:NM}(h:m.jB=0):m.sent=[]:=by
 unfold NM.sent;rw[au h]
theorem Mq(n:Int):((⟨0,0,0⟩:TS).join n).clear=(⟨0,0,0⟩:TS).join n:=by
 unfold TS.join TS.clear
 split<;>rfl
theorem wP{k:Int}{st:St}{d:List Int}(hk:1<=k/\k<=3)(hs:st.may=true)(hd:d.length<=8):kJ ⟨k,st,d⟩=(⟨k,st,d⟩:F).bytes:=by
 unfold kJ;rw[au ((Fr.F.l9 _).2 ⟨hk,hs,hd⟩)]
theorem qW{m:NM}(hr:0<=m.rd/\m.rd<=65535)(hs:m.sl<8)(ht:m.ty.m<256):m.view.may=true:=by
 refine(St.mM _).2 ⟨hr,?_,?_⟩
 ·show(0:Int)<=(m.sl:Nat)/\((m.sl:Nat):Int)<8;omega
 ·show(0:Int)<=(m.ty.m:Nat)/\((m.ty.m:Nat):Int)<=255;omega
theorem Da(b:Bool)(G:Nat->Prop)(g:Nat)(m:NM)(w:World)(h:NA b G w g m)(hi:NI b m):
  Calls Tryz.prog 67 #[↑(g,0)] w λe w'=>∃v b',e=.returned v/\iJ w' w v m.sent/\NA b' G w' g m.iL/\NI b' m.iL/\Only g w w':=by
 have hj:=hi.j;have h5:=hj.st;have hme:=hj.meB;by_cases h1:m.st=1
 ·have hb:b=false:=by
   cases b
   ·rfl
   ·have:=(hi.b1 rfl).2;omega
  subst hb;by_cases hlt:(m.wt:Int)+1<m.me.li
  ·have eS:m.iL={m with wt:=m.wt+1,se:=false}:=by unfold NM.iL;rw[au h1,au hlt]
   have eK:m.jB=0:=by unfold NM.jB;rw[au h1,au hlt]
   refine(LO false G g m w h h5 hj.rd h1 hlt (by omega)).mono ?_;rintro _ w' ⟨rfl,h',o⟩;rw[tO eK,eS];exact⟨_,false,rfl,bR,h'.se_ false,⟨⟨hj.is,hj.i,hj.st,hj.rd,hj.sl,hj.da,by show((m.wt+1:Nat):Int)<m.me.li;omega,hj.ck,hj.dr⟩,(λh=>by cases h),.inl rfl⟩,o⟩
  ·have hli:m.me.li=(m.wt:Int)+1:=by have:=hj.wt;omega
   have eS:m.iL={m.begun with se:=true}:=by unfold NM.iL;rw[au h1,ai hlt]
   have eK:m.jB=3:=by unfold NM.jB;rw[au h1,ai hlt]
   have eV:m.kL=3:=by unfold NM.kL;rw[au h1]
   have hja:=hj.anew 2 (by omega);have eO:(({m.anew 2 with sl:=m.i}:NM).o)={({m.begun with se:=true}:NM)with se:=false}:=by
    unfold NM.o NM.begun;simp only[NM.anew];rw[Mq]
   refine(LQ false G g m w h h5 hj.rd h1 hli (by omega) hj.da.2).mono ?_;rintro _ w' ⟨v,rfl,hv,h',o⟩;have h'':NA true G w' g ({m.begun with se:=true}:NM):=by
    have:=h'.se_ true;rw[eO]at this;exact this
   rw[eS];have hjb:NJ ({m.begun with se:=true}:NM):=⟨hja.is,hja.i,by show(2:Nat)<=5;omega,hja.rd,hj.i,hja.da,hja.wt,hja.ck,hja.dr⟩;refine⟨v,true,rfl,?_,h'',⟨hjb,λ_=>⟨rfl,.inl rfl⟩,.inl rfl⟩,o⟩;have e1:m.sent=kJ ⟨m.kL,({m.anew 2 with sl:=m.i}:NM).o.view,({m.anew 2 with sl:=m.i}:NM).o.da⟩:=by
    unfold NM.sent;rw[eK,ai (by decide),eS,eV,eO];refine(wP ⟨by decide,by decide⟩ ?_ hj.da.1).symm;exact qW hjb.rd (by show m.i<8;have:=hj.i;have:=hj.may.n8;omega) h''.tyo
   rw[e1];exact hv
 ·by_cases hs:m.sl=m.i
  ·by_cases hoff:m.st=0\/m.st=5
   ·have eS:m.iL={m with se:=false}:=by unfold NM.iL;rw[ai h1,au (by omega)]
    have eK:m.jB=0:=by unfold NM.jB;rw[ai h1,au (by omega)]
    have eU:m.up=m:=by unfold NM.up;rw[au hoff]
    have eB:m.upB b=b:=by unfold NM.upB;rw[ai (by omega)]
    have hfin:∀(e:Ending)(w':World),(e=.returned (.slice none 0 0)/\NA (m.upB b) G w' g m.up/\Only g w w')->∃v b',e=.returned v/\iJ w' w v m.sent/\NA b' G w' g m.iL/\NI b' m.iL/\Only g w w':=by
     rintro _ w' ⟨rfl,h',o⟩;rw[eU,eB]at h';rw[tO eK,eS];refine⟨_,b,rfl,bR,h'.se_ false,⟨⟨hj.is,hj.i,hj.st,hj.rd,hj.sl,hj.da,hj.wt,hj.ck,hj.dr⟩,hi.b1,?_⟩,o⟩;rcases hoff with e|e
     ·left
      show b=false
      cases b
      ·rfl
      ·have:=(hi.b1 rfl).2;omega
     ·exact .inr e
    exact(CJ b G g m w h h5 hj.rd (by omega) hs (by rw[eU];omega)).mono hfin
   ·have eU:m.up=m.enter:=by unfold NM.up;rw[ai hoff]
    have hst:m.st=2\/m.st=3\/m.st=4:=by omega
    by_cases hu:m.enter.st=4
    ·have eS:m.iL={m.enter.joined with se:=true}:=by unfold NM.iL;rw[ai h1,ai (by omega),ai (by omega)]
     have eK:m.jB=m.kL:=by unfold NM.jB NM.kL;rw[ai h1,ai (by omega),ai (by omega),ai h1]
     have eF:m.enter.i=m.i/\m.enter.sl=m.sl/\m.enter.rd=m.rd/\m.enter.t=m.t/\m.enter.da=m.da/\m.enter.wt=m.wt/\m.enter.ck=m.ck/\m.enter.dr=m.dr:=by
      unfold NM.enter at hu ⊢
      repeat' split
      all_goals first
       |exact⟨rfl,rfl,rfl,rfl,rfl,rfl,rfl,rfl⟩
       |(exfalso;simp_all[NM.anew])
     obtain⟨f1,f2,f3,f4,f5,f6,f7,f8⟩:=eF;have hje:NJ ({m.enter.joined with se:=true}:NM):=by
      refine⟨?_,?_,?_,?_,?_,?_,?_,?_,?_⟩
      ·show m.enter.t.is=true;rw[f4];exact hj.is
      ·show m.enter.i<m.enter.t.ns.length;rw[f1,f4];exact hj.i
      ·show m.enter.st<=5;omega
      ·show 0<=m.enter.rd/\m.enter.rd<=65535;rw[f3];exact hj.rd
      ·show m.enter.sl<m.enter.t.ns.length;rw[f2,f4];exact hj.sl
      ·show m.enter.da.length<=8/\iK m.enter.da;rw[f5];exact hj.da
      ·show(m.enter.wt:Int)<(m.enter.t.ns.getD m.enter.i default).li;rw[f6,f4,f1];exact hj.wt
      ·show small m.enter.ck;rw[f7];exact hj.ck
      ·show -1000<=m.enter.dr/\m.enter.dr<=1000;rw[f8];exact hj.dr
     have hfin:∀(e:Ending)(w':World),(∃v,e=.returned v/\iJ w' w v (kJ ⟨m.kL,m.up.o.view,m.up.o.da⟩)/\NA true G w' g m.up.o/\Only g w w')->∃v b',e=.returned v/\iJ w' w v m.sent/\NA b' G w' g m.iL/\NI b' m.iL/\Only g w w':=by
      rintro _ w' ⟨v,rfl,hv,h',o⟩;rw[eU]at hv h';rw[eS];have hk:1<=m.kL/\m.kL<=3:=by(unfold NM.kL;repeat' split)<;>omega
      refine⟨v,true,rfl,?_,h'.se_ true,⟨hje,λ_=>⟨?_,.inr (.inl hu)⟩,.inl rfl⟩,o⟩
      ·have e1:m.sent=kJ ⟨m.kL,m.enter.o.view,m.enter.o.da⟩:=by
        unfold NM.sent;rw[eK,ai (by omega),eS];refine(wP hk ?_ ?_).symm
        ·exact qW hje.rd (by have:=hje.sl;have:=hje.may.n8;show m.enter.sl<8;exact aN hje.sl hje.may.n8) h'.tyo
        ·exact hje.da.1
       rw[e1];exact hv
      ·show m.enter.sl=m.enter.i;rw[f2,f1];exact hs
     exact(LR b G g m w h h5 hj.rd (by omega) hs (by rw[eU];exact hu) hj.da.2).mono hfin
    ·have eS:m.iL={m.enter with se:=false}:=by unfold NM.iL;rw[ai h1,ai (by omega),au hu]
     have eK:m.jB=0:=by unfold NM.jB;rw[ai h1,ai (by omega),au hu]
     have hNI:NI (m.upB b) ({m.enter with se:=false}:NM):=by
      by_cases hx:(m.st=2\/(m.st=4/\m.clique))/\m.alone
      ·have eB:m.upB b=false:=by unfold NM.upB;rw[au hx]
       have eE:m.enter=m.anew 1:=by
        unfold NM.enter;rcases hx.1 with e|⟨e,hc⟩
        ·rw[au e,au hx.2]
        ·rw[ai (by omega),ai (by omega),ai (λh=>h hc),au hx.2]
       rw[eB,eE];have:=NI.anew hj 1 (by omega);exact⟨⟨this.j.is,this.j.i,this.j.st,this.j.rd,this.j.sl,this.j.da,this.j.wt,this.j.ck,this.j.dr⟩,(λh=>by cases h),.inl rfl⟩
      ·have eB:m.upB b=b:=by unfold NM.upB;rw[ai hx]
       rw[eB];by_cases h3:m.st=3
       ·have hb:b=false:=by
         cases b
         ·rfl
         ·have:=(hi.b1 rfl).2;omega
        have eE:m.enter={m with ty:=m.ty.clear}:=by
         unfold NM.enter at hu ⊢;rw[ai (by omega),au h3]at hu ⊢
         split at hu
         ·exact absurd rfl hu
         ·rename_i hc;rw[ai hc]
        rw[eE,hb];exact⟨⟨hj.is,hj.i,hj.st,hj.rd,hj.sl,hj.da,hj.wt,hj.ck,hj.dr⟩,(λh=>by cases h),.inl rfl⟩
       ·have h4:m.st=4:=by
         rcases hst with e|e|e
         ·exfalso
          apply hx
          refine⟨.inl e,?_⟩;by_cases ha:m.alone
          ·exact ha
          ·exfalso;apply hu;unfold NM.enter;rw[au e,ai ha]
         ·exact absurd e h3
         ·exact e
        have hc:¬m.clique:=λhc=>hx ⟨.inr ⟨h4,hc⟩,by
         by_cases ha:m.alone
         ·exact ha
         ·exfalso;apply hu;unfold NM.enter;rw[ai (by omega),ai h3,ai (λh=>h hc),ai ha];exact h4⟩
        have eE:m.enter={m with st:=5}:=by
         unfold NM.enter;rw[ai (by omega),ai h3,au hc]
        rw[eE];exact⟨⟨hj.is,hj.i,aR _,hj.rd,hj.sl,hj.da,hj.wt,hj.ck,hj.dr⟩,λ_=>⟨hs,.inr (.inr rfl)⟩,.inr rfl⟩
     have hfin:∀(e:Ending)(w':World),(e=.returned (.slice none 0 0)/\NA (m.upB b) G w' g m.up/\Only g w w')->∃v b',e=.returned v/\iJ w' w v m.sent/\NA b' G w' g m.iL/\NI b' m.iL/\Only g w w':=by
      rintro _ w' ⟨rfl,h',o⟩;rw[eU]at h';rw[tO eK,eS];exact⟨_,m.upB b,rfl,bR,h'.se_ false,hNI,o⟩
     exact(CJ b G g m w h h5 hj.rd (by omega) hs (by rw[eU];exact hu)).mono hfin
  ·have eS:m.iL={m with se:=false}:=by unfold NM.iL;rw[ai h1,au (by omega)]
   have eK:m.jB=0:=by unfold NM.jB;rw[ai h1,au (by omega)]
   have hb:b=false:=by
    cases b
    ·rfl
    ·exact absurd (hi.b1 rfl).1 hs
   have hfin:∀(e:Ending)(w':World),(e=.returned (.slice none 0 0)/\NA b G w' g m/\Only g w w')->∃v b',e=.returned v/\iJ w' w v m.sent/\NA b' G w' g m.iL/\NI b' m.iL/\Only g w w':=by
    rintro _ w' ⟨rfl,h',o⟩;rw[tO eK,eS];exact⟨_,b,rfl,bR,h'.se_ false,⟨⟨hj.is,hj.i,hj.st,hj.rd,hj.sl,hj.da,hj.wt,hj.ck,hj.dr⟩,hi.b1,.inl hb⟩,o⟩
   exact(LP b G g m w h h5 hj.rd (by omega) hs).mono hfin
end
end Go.Proofs.YteadkhigkmijiaaGreat
