/- Texts DwE, DwK, DwP, AvE, AvL, WpC in one. -/
import Derived.Deep.RegionHeld3
import Derived.Test.YteadkhigkmijiaaGreatPD1
import Derived.Test.YteadkhigkmijiaaGreatPD9
import Derived.Test.YteadkhigkmijiaaGreatPD18
import Derived.Test.YteadkhigkmijiaaGreatPD19
import Derived.Test.YteadkhigkmijiaaGreatPD48
import Derived.Test.YteadkhigkmijiaaGreatPD52
import Derived.Test.YteadkhigkmijiaaGreatPD53
set_option linter.all false
namespace Go.Proofs.YteadkhigkmijiaaGreat
section
set_option maxRecDepth 100000
set_option maxHeartbeats 4000000
open Go.RowKit
section
variable {D Rs:List Nat}{N x B:Nat}{t:Tb.T}{u:WM}{W:World}{Ad Af:Option Addr}{cd cf:Nat}{d:List Int}{fl:List Ft}
theorem IG{W1 W2:World}{r:Int}{u':WM}{e:Ending}(b:Below W W W1)(h:DwP D Rs N x t W1 r u' e W2):DwP D Rs N x t W r u' e W2:=by
 obtain⟨e1,D',hr,he⟩:=h;exact⟨e1,D',hr,(pI (Rs:=Rs) b).ow he⟩
theorem II(h:RD D Rs N t W x u)(ok:WOk N u)(htN:t.ns.length=N)(hty:∀i,i<N->(u.ms i).ty.a<900)(hsl:u.sl<=1000000)(nd n:Int)(hsf:ju W B (.slice Af fl.length cf) fl)(hB:B<=W.heap.size)(hD:∀p,p∈D->B<=p):
  Calls Tryz.prog 13 #[↑(x,0),.agg #[↑(5:Int),↑nd,↑n,.slice Ad d.length cd,.slice Af fl.length cf]] W λe w'=>DwP D Rs N x t W (if jc fl=true then 0 else 1) (if jc fl=true then u.slot N fl else u) e w':=by
 have hb:=(ah W W).alloc lr (.cells #[↑(5:Int),↑nd,↑n,.slice Ad d.length cd,.slice Af fl.length cf] 44);have hs:=af (IE (h.below hb) ok htN hty hsl (hsf.below (hb.mono hB)) (aW hB hb.size) hD);clear h hsf;generalize(if jc fl=true then u.slot N fl else u)=u' at *;generalize(if jc fl=true then(0:Int)else 1)=r at *
 go_enter Tryz.func13,Tryz.ntmps13
 go_wp2_with fail;refine hs.o.mono ?_;rintro e w2 ⟨rfl,hp⟩;have hp:=af (IG (r:=r) hb ⟨rfl,hp⟩);go_wp2_with fail;go_ret;exact hp.o
theorem IJ(h:RD D Rs N t W x u)(k nd n:Int)(hk:k<1\/5<k):
  Calls Tryz.prog 13 #[↑(x,0),.agg #[↑k,↑nd,↑n,.slice Ad d.length cd,.slice Af fl.length cf]] W λe w'=>DwP D Rs N x t W 1 u e w':=by
 have hb:=(ah W W).alloc lr (.cells #[↑k,↑nd,↑n,.slice Ad d.length cd,.slice Af fl.length cf] 44);have X:=aJ W W rfl #[↑k,↑nd,↑n,.slice Ad d.length cd,.slice Af fl.length cf] 44;have q5:(k==5)=false:=by rw[aB];omega
 have c0:=X.cell 0 (x:=↑k) rfl;have hw:=h.below hb;have hfin:∀w',Below (W.alloc (.cells #[↑k,↑nd,↑n,.slice Ad d.length cd,.slice Af fl.length cf] 44)).heap.size (W.alloc (.cells #[↑k,↑nd,↑n,.slice Ad d.length cd,.slice Af fl.length cf] 44)) w'->∃D',RD D' Rs N t w' x u/\Eff D D' W w':=λw' b=>⟨D,hw.below b,pI (Rs:=Rs) (hb.trans (b.mono hb.size))⟩;have hfin:=af hfin;clear h hb X hw;unfold DwP;by_cases h1:k<1
 ·have r1:decide (k<1)=true:=av h1
  go_enter Tryz.func13,Tryz.ntmps13
  go_wp2_with fail;generalize W.alloc (.cells #[↑k,↑nd,↑n,.slice Ad d.length cd,.slice Af fl.length cf] 44)=w0 at *
  go_quiet (fail)
  go_wp2;go_ret;exact⟨rfl,hfin.o _ (aC (ah _ _) _)⟩
 ·have r1:decide (k<1)=false:=aj h1
  have r5:decide (5<k)=true:=av (by omega)
  go_enter Tryz.func13,Tryz.ntmps13
  go_wp2_with fail;generalize W.alloc (.cells #[↑k,↑nd,↑n,.slice Ad d.length cd,.slice Af fl.length cf] 44)=w0 at *
  go_quiet (fail)
  go_wp2;go_ret;exact⟨rfl,hfin.o _ (aC (ah _ _) _)⟩
theorem IK(h:RD D Rs N t W x u)(k nd n:Int)(hk:1<=k/\k<=5)(hk5:k≠5)(hn:nd<0\/(N:Nat)<=nd):
  Calls Tryz.prog 13 #[↑(x,0),.agg #[↑k,↑nd,↑n,.slice Ad d.length cd,.slice Af fl.length cf]] W λe w'=>DwP D Rs N x t W 1 u e w':=by
 have hb:=(ah W W).alloc lr (.cells #[↑k,↑nd,↑n,.slice Ad d.length cd,.slice Af fl.length cf] 44);have X:=aJ W W rfl #[↑k,↑nd,↑n,.slice Ad d.length cd,.slice Af fl.length cf] 44;have q5:(k==5)=false:=by rw[aB];exact hk5
 have c0:=X.cell 0 (x:=↑k) rfl;have c1:=X.cell 1 (x:=↑nd) rfl;have hw:=h.below hb;have hfin:∀w',Below (W.alloc (.cells #[↑k,↑nd,↑n,.slice Ad d.length cd,.slice Af fl.length cf] 44)).heap.size (W.alloc (.cells #[↑k,↑nd,↑n,.slice Ad d.length cd,.slice Af fl.length cf] 44)) w'->∃D',RD D' Rs N t w' x u/\Eff D D' W w':=λw' b=>⟨D,hw.below b,pI (Rs:=Rs) (hb.trans (b.mono hb.size))⟩;have hfin:=af hfin;obtain⟨q,-,hq⟩:=hw;have x0:=hq.blk.cell 0 (x:=.slice (some (q.nb,0)) N q.cap) rfl;clear h hb X hq;unfold DwP;have r1:decide (k<1)=false:=aj (by omega);have r5:decide (5<k)=false:=aj (by omega);by_cases h1:nd<0
 ·have r2:decide (nd<0)=true:=av h1
  go_enter Tryz.func13,Tryz.ntmps13
  go_wp2_with fail;generalize W.alloc (.cells #[↑k,↑nd,↑n,.slice Ad d.length cd,.slice Af fl.length cf] 44)=w0 at *
  go_quiet (fail)
  go_wp2;go_ret;exact⟨rfl,hfin.o _ (aC (ah _ _) _)⟩
 ·have r2:decide (nd<0)=false:=aj h1
  have r3:decide ((N:Nat)<=nd)=true:=av (by omega)
  go_enter Tryz.func13,Tryz.ntmps13
  go_wp2_with fail;generalize W.alloc (.cells #[↑k,↑nd,↑n,.slice Ad d.length cd,.slice Af fl.length cf] 44)=w0 at *
  go_quiet (fail)
  go_wp2;go_ret;exact⟨rfl,hfin.o _ (aC (ah _ _) _)⟩
theorem DIn.one{q:DP}{W1 W2:World}(h:DIn (λ_=>jO) [] Rs N t q W1 x u)(hD:q.all x N=D){i:Nat}(hi:i<N){F':List Nat}{m':NM}(b:Below W W W1)(hn:RN jO F' Rs W2 (q.gp i) m')(he:Eff (q.F i) F' W1 W2):∃D',RD D' Rs N t W2 x (u.node1 i m')/\Eff D D' W W2:=by
 obtain⟨F'',hw,he2⟩:=h.eff hi hn he;rw[show je (λ_=>jO) i jO=λ_=>jO from funext λj=>by unfold je;split<;>rfl]at hw;have hea:=h.u7 hi he2;rw[hD]at hea;exact⟨_,⟨_,rfl,hw⟩,(pI (Rs:=Rs) b).ow hea⟩
theorem IL(h:RD D Rs N t W x u)(i:Nat)(n:Int)(hi:i<N):
  Calls Tryz.prog 13 #[↑(x,0),.agg #[↑(1:Int),↑(i:Nat),↑n,.slice Ad d.length cd,.slice Af fl.length cf]] W λe w'=>DwP D Rs N x t W ((u.ms i).onE n) (u.node1 i ((u.ms i).on n)) e w':=by
 have hb:=(ah W W).alloc lr (.cells #[↑(1:Int),↑(i:Nat),↑n,.slice Ad d.length cd,.slice Af fl.length cf] 44);have X:=aJ W W rfl #[↑(1:Int),↑(i:Nat),↑n,.slice Ad d.length cd,.slice Af fl.length cf] 44;have c0:=X.cell 0 (x:=↑(1:Int)) rfl;have c1:=X.cell 1 (x:=↑(i:Nat)) rfl;have c2:=X.cell 2 (x:=↑n) rfl;have c3:=X.cell 3 (x:=.slice Ad d.length cd) rfl;obtain⟨q,hD,h1⟩:=h.below hb;have x0:=h1.blk.cell 0 (x:=.slice (some (q.nb,0)) N q.cap) rfl;have ptr:=h1.ptr i hi;have hcp:=h1.cap;have hj:=(h1.nd i hi).j;have hs:=af (λm=>IQ n ((h1.below (aC (ah _ _) m)).nd i hi) (hj.on_ n));generalize(u.ms i).onE n=oe at *;unfold DwP;clear h X;have hNi:(i:Int)<(N:Nat):=by omega
 have r2:decide ((i:Int)<0)=false:=aj (by omega);have r3:decide ((N:Nat)<=(i:Int))=false:=aj (by omega)
 go_enter Tryz.func13,Tryz.ntmps13
 go_wp2_with fail;generalize W.alloc (.cells #[↑(1:Int),↑(i:Nat),↑n,.slice Ad d.length cd,.slice Af fl.length cf] 44)=w0 at *
 go_quiet (fail)
 go_wp2_with fail
 go_quiet (fail)
 go_wp2_with fail;refine(hs.o _).mono ?_;rintro _ w2 ⟨F',rfl,hn2,he⟩;have hp:=af (DIn.one (h1.below (aC (ah _ _) _)) hD hi (hb.trans ((aC (ah w0 w0) _).mono hb.size)) hn2 he);clear h1 hn2 he hs;go_wp2_with fail;go_ret;exact⟨rfl,hp.o⟩
theorem IU(h:RD D Rs N t W x u)(i:Nat)(n:Int)(hi:i<N):
  Calls Tryz.prog 13 #[↑(x,0),.agg #[↑(2:Int),↑(i:Nat),↑n,.slice Ad d.length cd,.slice Af fl.length cf]] W λe w'=>DwP D Rs N x t W (0) (u.node1 i ((u.ms i).off)) e w':=by
 have hb:=(ah W W).alloc lr (.cells #[↑(2:Int),↑(i:Nat),↑n,.slice Ad d.length cd,.slice Af fl.length cf] 44);have X:=aJ W W rfl #[↑(2:Int),↑(i:Nat),↑n,.slice Ad d.length cd,.slice Af fl.length cf] 44;have c0:=X.cell 0 (x:=↑(2:Int)) rfl;have c1:=X.cell 1 (x:=↑(i:Nat)) rfl;have c2:=X.cell 2 (x:=↑n) rfl;have c3:=X.cell 3 (x:=.slice Ad d.length cd) rfl;obtain⟨q,hD,h1⟩:=h.below hb;have x0:=h1.blk.cell 0 (x:=.slice (some (q.nb,0)) N q.cap) rfl;have ptr:=h1.ptr i hi;have hcp:=h1.cap;have hj:=(h1.nd i hi).j;have hs:=af (λm=>IV ((h1.below (aC (ah _ _) m)).nd i hi) hj.Ai);unfold DwP;clear h X;have hNi:(i:Int)<(N:Nat):=by omega
 have r2:decide ((i:Int)<0)=false:=aj (by omega);have r3:decide ((N:Nat)<=(i:Int))=false:=aj (by omega)
 go_enter Tryz.func13,Tryz.ntmps13
 go_wp2_with fail;generalize W.alloc (.cells #[↑(2:Int),↑(i:Nat),↑n,.slice Ad d.length cd,.slice Af fl.length cf] 44)=w0 at *
 go_quiet (fail)
 go_wp2_with fail
 go_quiet (fail)
 go_wp2_with fail;refine(hs.o _).mono ?_;rintro _ w2 ⟨F',rfl,hn2,he⟩;have hp:=af (DIn.one (h1.below (aC (ah _ _) _)) hD hi (hb.trans ((aC (ah w0 w0) _).mono hb.size)) hn2 he);clear h1 hn2 he hs;go_wp2_with fail;go_ret;exact⟨rfl,hp.o⟩
theorem IW(h:RD D Rs N t W x u)(i:Nat)(n:Int)(hi:i<N)(hv:iI W B (.slice Ad d.length cd) d)(hB:B<=W.heap.size)(hl:iK d):
  Calls Tryz.prog 13 #[↑(x,0),.agg #[↑(3:Int),↑(i:Nat),↑n,.slice Ad d.length cd,.slice Af fl.length cf]] W λe w'=>DwP D Rs N x t W ((u.ms i).kN d) (u.node1 i ((u.ms i).write d)) e w':=by
 have hb:=(ah W W).alloc lr (.cells #[↑(3:Int),↑(i:Nat),↑n,.slice Ad d.length cd,.slice Af fl.length cf] 44);have X:=aJ W W rfl #[↑(3:Int),↑(i:Nat),↑n,.slice Ad d.length cd,.slice Af fl.length cf] 44;have c0:=X.cell 0 (x:=↑(3:Int)) rfl;have c1:=X.cell 1 (x:=↑(i:Nat)) rfl;have c2:=X.cell 2 (x:=↑n) rfl;have c3:=X.cell 3 (x:=.slice Ad d.length cd) rfl;obtain⟨q,hD,h1⟩:=h.below hb;have x0:=h1.blk.cell 0 (x:=.slice (some (q.nb,0)) N q.cap) rfl;have ptr:=h1.ptr i hi;have hcp:=h1.cap;have hj:=(h1.nd i hi).j;have hs:=af (λm=>IX ((h1.below (aC (ah _ _) m)).nd i hi) ((hv.below (hb.mono hB)).below ((aC (ah (W.alloc (.cells #[↑(3:Int),↑(i:Nat),↑n,.slice Ad d.length cd,.slice Af fl.length cf] 44)).heap.size _) m).mono (aW hB hb.size))) (hj.Al d hl));generalize(u.ms i).kN d=oe at *;unfold DwP;clear h X;have hNi:(i:Int)<(N:Nat):=by omega
 have r2:decide ((i:Int)<0)=false:=aj (by omega);have r3:decide ((N:Nat)<=(i:Int))=false:=aj (by omega)
 go_enter Tryz.func13,Tryz.ntmps13
 go_wp2_with fail;generalize W.alloc (.cells #[↑(3:Int),↑(i:Nat),↑n,.slice Ad d.length cd,.slice Af fl.length cf] 44)=w0 at *
 go_quiet (fail)
 go_wp2_with fail
 go_quiet (fail)
 go_wp2_with fail;refine(hs.o _).mono ?_;rintro _ w2 ⟨F',rfl,hn2,he⟩;have hp:=af (DIn.one (h1.below (aC (ah _ _) _)) hD hi (hb.trans ((aC (ah w0 w0) _).mono hb.size)) hn2 he);clear h1 hn2 he hs;go_wp2_with fail;go_ret;exact⟨rfl,hp.o⟩
theorem IY(h:RD D Rs N t W x u)(i:Nat)(n:Int)(hi:i<N):
  Calls Tryz.prog 13 #[↑(x,0),.agg #[↑(4:Int),↑(i:Nat),↑n,.slice Ad d.length cd,.slice Af fl.length cf]] W λe w'=>DwP D Rs N x t W (jP (u.ms i).al (u.ms i).an (u.ms i).ar n) (u.node1 i ({u.ms i with ar:=jS (u.ms i).al (u.ms i).an (u.ms i).ar n})) e w':=by
 have hb:=(ah W W).alloc lr (.cells #[↑(4:Int),↑(i:Nat),↑n,.slice Ad d.length cd,.slice Af fl.length cf] 44);have X:=aJ W W rfl #[↑(4:Int),↑(i:Nat),↑n,.slice Ad d.length cd,.slice Af fl.length cf] 44;have c0:=X.cell 0 (x:=↑(4:Int)) rfl;have c1:=X.cell 1 (x:=↑(i:Nat)) rfl;have c2:=X.cell 2 (x:=↑n) rfl;have c3:=X.cell 3 (x:=.slice Ad d.length cd) rfl;obtain⟨q,hD,h1⟩:=h.below hb;have x0:=h1.blk.cell 0 (x:=.slice (some (q.nb,0)) N q.cap) rfl;have ptr:=h1.ptr i hi;have hcp:=h1.cap;have hj:=(h1.nd i hi).j;obtain⟨ga,g14,-⟩:=Am n (h1.nd i hi) (hj.ar_ _);have hs:∀m,Calls Tryz.prog 37 #[↑(ga,0),↑n] ((W.alloc (.cells #[↑(4:Int),↑(i:Nat),↑n,.slice Ad d.length cd,.slice Af fl.length cf] 44)).drewN m).drew λe w'=>∃F',e=.returned ↑(jP (u.ms i).al (u.ms i).an (u.ms i).ar n)/\RN jO F' Rs w' (q.gp i) {u.ms i with ar:=jS (u.ms i).al (u.ms i).an (u.ms i).ar n}/\Eff (q.F i) F' ((W.alloc (.cells #[↑(4:Int),↑(i:Nat),↑n,.slice Ad d.length cd,.slice Af fl.length cf] 44)).drewN m).drew w':=λm=>by
  have b:=(aC (ah (W.alloc (.cells #[↑(4:Int),↑(i:Nat),↑n,.slice Ad d.length cd,.slice Af fl.length cf] 44)).heap.size (W.alloc (.cells #[↑(4:Int),↑(i:Nat),↑n,.slice Ad d.length cd,.slice Af fl.length cf] 44))) m).drew;have hm:=(h1.below b).nd i hi;obtain⟨ga',IZ,hc⟩:=Am n hm (hj.ar_ _);have e:=(b.cell (p:=(q.gp i,14)) ((h1.nd i hi).lt)).symm.trans IZ;rw[g14]at e;simp only[bB,Value.pointer.injEq,Addr.mk.injEq,gu,true_and]at e;rw[e];exact hc
 have hs:=af hs;generalize jP (u.ms i).al (u.ms i).an (u.ms i).ar n=oe at *;unfold DwP;clear h X;have hNi:(i:Int)<(N:Nat):=by omega
 have r2:decide ((i:Int)<0)=false:=aj (by omega);have r3:decide ((N:Nat)<=(i:Int))=false:=aj (by omega)
 go_enter Tryz.func13,Tryz.ntmps13
 go_wp2_with fail;generalize W.alloc (.cells #[↑(4:Int),↑(i:Nat),↑n,.slice Ad d.length cd,.slice Af fl.length cf] 44)=w0 at *
 go_quiet (fail)
 go_wp2_with fail
 go_quiet (fail)
 go_wp2_with fail
 go_region_with (first
  |(go_at_call 37;refine(hs.o _).mono ?_;rintro _ w2 ⟨F',rfl,hn2,he⟩)
  |fail)
 all_goals
  have hp:=af (DIn.one (h1.below (aC (ah _ _) _).drew) hD hi (hb.trans ((aC (ah w0 w0) _).drew.mono hb.size)) hn2 he);clear h1 hn2 he hs;go_wp2_with fail;go_ret;exact⟨rfl,hp.o⟩
theorem I3(a:Ac){dv fv:Value}(h:RD D Rs N t W x u)(ok:WOk N u)(htN:t.ns.length=N)(hty:∀i,i<N->(u.ms i).ty.a<900)(hsl:u.sl<=1000000)(hd:iI W B dv a.d)(hy:iK a.d)(hf:ju W B fv a.f)(hB:B<=W.heap.size)(hD:∀p,p∈D->B<=p):
  Calls Tryz.prog 13 #[↑(x,0),.agg #[↑a.k,↑a.i,↑a.n,dv,fv]] W λe w'=>DwP D Rs N x t W (u.kU N a) (u.step N a) e w':=by
 obtain⟨Ad,cd,rfl,-⟩:=hd.at_;obtain⟨Af,cf,rfl,-⟩:=hf.at_;unfold WM.kU WM.step;by_cases e5:a.k=5
 ·rw[e5,au rfl,au rfl]
  exact II h ok htN hty hsl _ _ hf hB hD
 rw[ai e5,ai e5];by_cases ek:a.k<1\/5<a.k
 ·have h1:a.k≠1/\a.k≠2/\a.k≠3/\a.k≠4:=by omega
  rw[ai h1.1,ai h1.2.1,ai h1.2.2.1,ai h1.2.2.2,ai h1.1,ai h1.2.1,ai h1.2.2.1,ai h1.2.2.2];simp only[ite_self];exact IJ h _ _ _ ek
 by_cases eo:a.i<0\/(N:Int)<=a.i
 ·rw[au eo,au eo]
  exact IK h _ _ _ (by omega) e5 eo
 rw[ai eo,ai eo];obtain⟨i,hi⟩:∃i:Nat,a.i=(i:Int):=⟨a.i.toNat,by omega⟩;have hiN:i<N:=by omega
 rw[hi,aQ];by_cases e1:a.k=1
 ·rw[e1,au rfl,au rfl]
  exact IL h i _ hiN
 rw[ai e1,ai e1];by_cases e2:a.k=2
 ·rw[e2,au rfl,au rfl]
  exact IU h i _ hiN
 rw[ai e2,ai e2];by_cases e3:a.k=3
 ·rw[e3,au rfl,au rfl]
  exact IW h i _ hiN hd hB hy
 rw[ai e3,ai e3];by_cases e4:a.k=4
 ·rw[e4,au rfl,au rfl]
  exact IY h i _ hiN
 omega
end
end
section
open Go.RowKit
end
section
open Go.RowKit
def Pr(B N x y:Nat)(t:Tb.T)(u:WM)(W:World):Prop:=∃D Rs,WAt B D N W x u/\RD D Rs N t W y u/\∀p,p∈D->B<=p
def PrA(B N x y:Nat)(t:Tb.T)(u u':WM)(W:World):Prop:=∃D Rs,WAt B D N W x u'/\RD D Rs N t W y u/\∀p,p∈D->B<=p
section
variable {B N x y:Nat}{t:Tb.T}{u u':WM}{W W':World}
theorem RD.lts{D Rs:List Nat}(h:RD D Rs N t W y u):∀p,p∈D->p<W.heap.size:=by
 obtain⟨q,e,h⟩:=h;rw[<-e];exact h.lt
theorem PrA.below(h:PrA B N x y t u u' W)(b:Below W W W'):PrA B N x y t u u' W':=by
 obtain⟨D,Rs,h1,h2,h3⟩:=h;exact⟨D,Rs,h1.below b,h2.below b,h3⟩
theorem Pr.below(h:Pr B N x y t u W)(b:Below W W W'):Pr B N x y t u W':=by
 obtain⟨D,Rs,h1,h2,h3⟩:=h;exact⟨D,Rs,h1.below b,h2.below b,h3⟩
theorem vw{k:Nat}(h:Pr B N x y t u W)(hb:WB N u k)(hk:k<=500)(a:Ac){dv fv:Value}(hd:iI W B dv a.d)(hy:iK a.d)(hf:ju W B fv a.f):
  Calls Tryz.prog 12 #[↑(x,0),.agg #[↑a.k,↑a.i,↑a.n,dv,fv]] W λe w'=>e=.returned ↑(u.kU N a)/\PrA B N x y t u (u.step N a) w'/\Below B W w':=by
 obtain⟨D,Rs,h1,h2,h3⟩:=h;refine(Jm a h1 (hb.ok hk) (by have:=hb.sl;omega) hd hy hf).mono ?_;rintro e w' ⟨rfl,hw,bw⟩;exact⟨rfl,⟨D,Rs,hw,h2.keep bw.b.size bw.k,h3⟩,bw.b⟩
theorem AA{k:Nat}(h:PrA B N x y t u u' W)(htN:t.ns.length=N)(hb:WB N u k)(hk:k<=500)(a:Ac)(hu:u'=u.step N a){dv fv:Value}(hd:iI W B dv a.d)(hy:iK a.d)(hf:ju W B fv a.f):
  Calls Tryz.prog 13 #[↑(y,0),.agg #[↑a.k,↑a.i,↑a.n,dv,fv]] W λe w'=>e=.returned ↑(u.kU N a)/\Pr B N x y t u' w'/\Below B W w':=by
 obtain⟨D,Rs,h1,h2,h3⟩:=h;have hB:=h1.base;refine(I3 a h2 (hb.ok hk) htN (λi hi=>by have:=hb.ty i hi;omega) (by have:=hb.sl;omega) hd hy hf hB h3).mono ?_;rintro e w' ⟨rfl,D',hr,he⟩;refine⟨rfl,⟨D',Rs,h1.foreign he.1 (λp hp=>hp) λp hp=>⟨hr.lts p hp,he.2 p hp⟩,by rw[hu];exact hr,λp hp=>?_⟩,he.1.below h3 hB⟩;rcases he.2 p hp with h4|h4
 ·exact h3 p h4
 ·omega
theorem Pr.made{C:Nat}{D Rs:List Nat}{W1 W2:World}(h:WAt C [] N W1 x u)(hB:B<=C)(b:Below W1 W1 W2)(hd:RD D Rs N t W2 y u)(hD:∀p,p∈D->W1.heap.size<=p):Pr B N x y t u W2:=by
 have hC:=h.base;refine⟨D,Rs,(h.lower hB).foreign (D:=[]) (yJ b) (λp hp=>hp) λp hp=>⟨hd.lts p hp,.inr (hD p hp)⟩,hd,λp hp=>?_⟩;have:=hD p hp;omega
end
end
section
open Go.RowKit
def bt(st:Nat->Nat)(but:Int)(k:Nat):List Nat:=(List.range k).filter (cC st but)
theorem mB(st:Nat->Nat)(but:Int)(k:Nat):bh st but k=(bt st but k).map λi=>((i:Nat):Int):=rfl
theorem qu(st:Nat->Nat)(but:Int)(k:Nat):(bt st but k).length<=k:=aW (List.length_filter_le _ _) (by simp)
theorem cI{st:Nat->Nat}{but:Int}{k i:Nat}(h:i∈bt st but k):i<k:=cA.1 (List.mem_filter.1 h).1
theorem ox{B N x y:Nat}{t:Tb.T}{u:WM}{W:World}(h:Pr B N x y t u W)(n8:N<=8)(but:Int):∃(r:Bool)(s:Int),∀W',Below W W W'->
  Calls Tryz.prog 18 #[↑(x,0),↑but] W' (λe w'=>e=.returned ↑r/\Below W' W' w')/\
  Calls Tryz.prog 19 #[↑(y,0),↑but] W' (λe w'=>e=.returned ↑r/\Below W' W' w')/\
  Calls Tryz.prog 20 #[↑(x,0),↑but] W' (λe w'=>e=.returned ↑s/\Below W' W' w')/\
  Calls Tryz.prog 21 #[↑(y,0),↑but] W' (λe w'=>e=.returned ↑s/\Below W' W' w'):=by
 obtain⟨st,hst⟩:∃st:Nat->Nat,∀i,st i=(u.ms i).st:=⟨_,λ_=>rfl⟩;obtain⟨V,hV⟩:∃V:Nat->Int×Nat×Nat,∀i,V i=((u.ms i).rd,(u.ms i).sl,(u.ms i).ty.m):=⟨_,λ_=>rfl⟩;obtain⟨T,hT⟩:∃T:Nat->Int,∀i,T i=(u.ms i).tm:=⟨_,λ_=>rfl⟩;refine⟨aq V (bt st but N) (bt st but N).length,spV T (bt st but N),λW0 b0=>?_⟩;have h:=h.below b0;clear b0;obtain⟨D,Rs,h1,⟨q,-,h2⟩,-⟩:=h;have lN:=qu st but N;have hact:=pH st (λW' b=>(h1.below b).Ao) (λW' b i hi=>by rw[hst];exact(h1.below b).I5 i hi) n8 but;rw[mB]at hact;have hVw:∀W',Below W0 W0 W'->∀i,i∈bt st but N->Calls Tryz.prog 42 #[↑(x,0),↑(i:Nat)] W' λe w'=>e=.returned (.agg #[↑(V i).1,↑((V i).2.1:Nat),↑((V i).2.2:Nat)])/\Below W' W' w':=λW' b i hi=>by
  rw[hV];exact(h1.below b).I6 i (cI hi)
 have hCk:∀W',Below W0 W0 W'->∀i,i∈bt st but N->Calls Tryz.prog 44 #[↑(x,0),↑(i:Nat)] W' λe w'=>e=.returned ↑(T i)/\Below W' W' w':=λW' b i hi=>by
  rw[hT];exact(h1.below b).I7 i (cI hi)
 have hX:DMem N y q.nb q.cap q.gp st T W0:=λW' b=>by
  have h:=h2.below b;refine⟨h.blk.cell 0 rfl,h.cap,λi hi=>⟨h.ptr i hi,?_⟩⟩;rw[hst,hT];exact z8 (h.nd i hi)
 have hDv:∀W',Below W0 W0 W'->∀i,i∈bt st but N->Calls Tryz.prog 43 #[↑(q.gp i,0)] W' λe w'=>e=.returned (.agg #[↑(V i).1,↑((V i).2.1:Nat),↑((V i).2.2:Nat)])/\Below W' W' w':=λW' b i hi=>by
  rw[hV];exact Ja ((h2.below b).nd i (cI hi))
 have hda:=pZ hX n8 but;rw[mB]at hda;exact⟨pN V _ (by omega) but hact hVw,qt V _ (by omega) but hX (λi hi=>cI hi) hda hDv,pT T _ (by omega) but hact hCk,dspread_u _ (by omega) but hX (λi hi=>cI hi) hda⟩
theorem fj{N:Nat}(N4:4<=N)(N8:N<=8)(g:Nat->Int)(i:Nat)(hi:i<N):NM.may (jA N 2) (i:Nat) ((dfs N g).getD i 0) []:=
 uP N 2 i _ [] N4 N8 (by omega) hi ⟨(uQ N g i).1,(uQ N g i).2.1⟩ (by simp) λk hk=>by simp at hk
theorem m9{N:Nat}(N4:4<=N)(N8:N<=8)(g:Nat->Int)(v dv:Value)(C:Nat)(W:World)(hv:jh W W.heap.size v (jQ N))(hdv:ja W W.heap.size dv (dfs N g))(hRv:∀k,v.ownBlock=some k->C<=k/\k<W.heap.size)(hC:C<=W.heap.size):
  Calls Tryz.prog 11 #[.agg #[v,.int .i64 2,.int .i64 14,.int .i64 17],dv,.slice none 0 0] W λe w'=>∃y,e=.returned (.tuple #[.pointer (some ⟨y,0,none⟩),.int .i64 0])/\(∃D Rs,RD D Rs N (jA N 2) w' y (WM.new (jA N 2) (dfs N g) [])/\∀p,p∈D->C<=p)/\Below W.heap.size W w':=by
 have e:(jA N 2).ns.length=N:=lB N;have h:=Ji v.ownBlock.toList (jA N 2) v dv (.slice none 0 0) (dfs N g) [] W hv hdv jl.nil (tC N 2 N4 N8 (by omega)) (by rw[e];exact yw N g) (λi hi=>fj N4 N8 g i (by rw[<-e];exact hi)) (.inl rfl) (λk hk=>by simp[hk]) (λk hk=>by simp[Value.ownBlock]at hk) (λf hf=>(hRv f (dO.1 hf)).2);refine h.mono ?_;rintro e' w' ⟨y,D,rfl,hd,hD,hb⟩;rw[e]at hd;refine⟨y,rfl,⟨D,_,hd,λp hp=>?_⟩,hb⟩;rcases hD p hp with h|h
 ·exact(hRv p (dO.1 h)).1
 ·omega
theorem j7.act{w:World}{A:Option Addr}{c:Nat}{l:List Ac}{B:Nat}(h:j7 w B (.slice A l.length c) l)(k:Nat)(hk:k<l.length):∃b off dv fv,A=some ⟨b,off,none⟩/\∀W,Below B w W->(W.cell? ⟨b,off+k*5,none⟩=some ↑(l.getD k default).k/\W.cell? ⟨b,off+k*5+1,none⟩=some ↑(l.getD k default).i/\W.cell? ⟨b,off+k*5+2,none⟩=some ↑(l.getD k default).n/\W.cell? ⟨b,off+k*5+3,none⟩=some dv/\W.cell? ⟨b,off+k*5+4,none⟩=some fv)/\iI W B dv (l.getD k default).d/\ju W B fv (l.getD k default).f:=by
 obtain⟨A',c',e,h1,h2,h3⟩:=h.at_
 cases e
 obtain⟨b,off,rfl,hb,hc⟩:=h3 (by omega);obtain⟨c0,c1,c2,⟨v3,c3,s3⟩,v4,c4,s4⟩:=hc k hk;exact⟨b,off,v3,v4,rfl,λW hW=>⟨⟨(hW.cell (p:=(b,off+k*5)) hb).trans c0,(hW.cell (p:=(b,off+k*5+1)) hb).trans c1,(hW.cell (p:=(b,off+k*5+2)) hb).trans c2,(hW.cell (p:=(b,off+k*5+3)) hb).trans c3,(hW.cell (p:=(b,off+k*5+4)) hb).trans c4⟩,s3.below hW,s4.below hW⟩⟩
theorem j7.bytes{w:World}{v:Value}{l:List Ac}{B:Nat}(h:j7 w B v l)(k:Nat)(hk:k<l.length):iK (l.getD k default).d:=h.by_ _ (F9 l k hk)
end
end Go.Proofs.YteadkhigkmijiaaGreat
