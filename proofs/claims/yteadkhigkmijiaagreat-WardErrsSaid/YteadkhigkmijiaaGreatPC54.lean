/- Texts DwE, DwK, DwP, WpC in one. -/
import Derived.Deep.RegionHeld3
import Derived.Test.YteadkhigkmijiaaGreatPC1
import Derived.Test.YteadkhigkmijiaaGreatPC40
import Derived.Test.YteadkhigkmijiaaGreatPC41
import Derived.Test.YteadkhigkmijiaaGreatPC47
import Derived.Test.YteadkhigkmijiaaGreatPC52
import Derived.Test.YteadkhigkmijiaaGreatPC53
set_option linter.all false
namespace Go.Proofs.YteadkhigkmijiaaGreat
section
set_option maxRecDepth 100000
set_option maxHeartbeats 4000000
open Go.RowKit
section
variable {D Rs:List Nat}{N x B:Nat}{t:Tb.T}{u:WM}{W:World}{Ad Af:Option Addr}{cd cf:Nat}{d:List Int}{fl:List Ft}
theorem IG{W1 W2:World}{r:Int}{u':WM}{e:Ending}(b:Below W W W1)(h:DwP D Rs N x t W1 r u' e W2):DwP D Rs N x t W r u' e W2:=by
 obtain⟨e1,D',hr,he⟩:=h;exact⟨e1,D',hr,(pI (Rs:=Rs) b).ow he⟩
theorem II(h:RD D Rs N t W x u)(ok:WOk N u)(htN:t.ns.length=N)(hty:∀i,i<N->(u.ms i).ty.a<900)(hsl:u.sl<=1000000)(nd n:Int)(hsf:ju W B (.slice Af fl.length cf) fl)(hB:B<=W.heap.size)(hD:∀p,p∈D->B<=p):
  Calls Tryz.prog 13 #[↑(x,0),.agg #[↑(5:Int),↑nd,↑n,.slice Ad d.length cd,.slice Af fl.length cf]] W λe w'=>DwP D Rs N x t W (if jc fl=true then 0 else 1) (if jc fl=true then u.slot N fl else u) e w':=by
 have hb:=(ah W W).alloc lr (.cells #[↑(5:Int),↑nd,↑n,.slice Ad d.length cd,.slice Af fl.length cf] 44);have hs:=af (IE (h.below hb) ok htN hty hsl (hsf.below (hb.mono hB)) (aW hB hb.size) hD);clear h hsf;generalize(if jc fl=true then u.slot N fl else u)=u' at *;generalize(if jc fl=true then(0:Int)else 1)=r at *
 go_enter Tryz.func13,Tryz.ntmps13
 go_wp2_with fail;refine hs.o.mono ?_;rintro e w2 ⟨rfl,hp⟩;have hp:=af (IG (r:=r) hb ⟨rfl,hp⟩);go_wp2_with fail;go_ret;exact hp.o
theorem IJ(h:RD D Rs N t W x u)(k nd n:Int)(hk:k<1\/5<k):
  Calls Tryz.prog 13 #[↑(x,0),.agg #[↑k,↑nd,↑n,.slice Ad d.length cd,.slice Af fl.length cf]] W λe w'=>DwP D Rs N x t W 1 u e w':=by
 have hb:=(ah W W).alloc lr (.cells #[↑k,↑nd,↑n,.slice Ad d.length cd,.slice Af fl.length cf] 44);have X:=aJ W W rfl #[↑k,↑nd,↑n,.slice Ad d.length cd,.slice Af fl.length cf] 44;have q5:(k==5)=false:=by rw[aB];omega
 have c0:=X.cell 0 (x:=↑k) rfl;have hw:=h.below hb;have hfin:∀w',Below (W.alloc (.cells #[↑k,↑nd,↑n,.slice Ad d.length cd,.slice Af fl.length cf] 44)).heap.size (W.alloc (.cells #[↑k,↑nd,↑n,.slice Ad d.length cd,.slice Af fl.length cf] 44)) w'->∃D',RD D' Rs N t w' x u/\Eff D D' W w':=λw' b=>⟨D,hw.below b,pI (Rs:=Rs) (hb.trans (b.mono hb.size))⟩;have hfin:=af hfin;clear h hb X hw;unfold DwP;by_cases h1:k<1
 ·have r1:decide (k<1)=true:=av h1
  go_enter Tryz.func13,Tryz.ntmps13
  go_wp2_with fail;generalize W.alloc (.cells #[↑k,↑nd,↑n,.slice Ad d.length cd,.slice Af fl.length cf] 44)=w0 at *
  go_quiet (fail)
  go_wp2;go_ret;exact⟨rfl,hfin.o _ (aC (ah _ _) _)⟩
 ·have r1:decide (k<1)=false:=aj h1
  have r5:decide (5<k)=true:=av (by omega)
  go_enter Tryz.func13,Tryz.ntmps13
  go_wp2_with fail;generalize W.alloc (.cells #[↑k,↑nd,↑n,.slice Ad d.length cd,.slice Af fl.length cf] 44)=w0 at *
  go_quiet (fail)
  go_wp2;go_ret;exact⟨rfl,hfin.o _ (aC (ah _ _) _)⟩
theorem IK(h:RD D Rs N t W x u)(k nd n:Int)(hk:1<=k/\k<=5)(hk5:k≠5)(hn:nd<0\/(N:Nat)<=nd):
  Calls Tryz.prog 13 #[↑(x,0),.agg #[↑k,↑nd,↑n,.slice Ad d.length cd,.slice Af fl.length cf]] W λe w'=>DwP D Rs N x t W 1 u e w':=by
 have hb:=(ah W W).alloc lr (.cells #[↑k,↑nd,↑n,.slice Ad d.length cd,.slice Af fl.length cf] 44);have X:=aJ W W rfl #[↑k,↑nd,↑n,.slice Ad d.length cd,.slice Af fl.length cf] 44;have q5:(k==5)=false:=by rw[aB];exact hk5
 have c0:=X.cell 0 (x:=↑k) rfl;have c1:=X.cell 1 (x:=↑nd) rfl;have hw:=h.below hb;have hfin:∀w',Below (W.alloc (.cells #[↑k,↑nd,↑n,.slice Ad d.length cd,.slice Af fl.length cf] 44)).heap.size (W.alloc (.cells #[↑k,↑nd,↑n,.slice Ad d.length cd,.slice Af fl.length cf] 44)) w'->∃D',RD D' Rs N t w' x u/\Eff D D' W w':=λw' b=>⟨D,hw.below b,pI (Rs:=Rs) (hb.trans (b.mono hb.size))⟩;have hfin:=af hfin;obtain⟨q,-,hq⟩:=hw;have x0:=hq.blk.cell 0 (x:=.slice (some (q.nb,0)) N q.cap) rfl;clear h hb X hq;unfold DwP;have r1:decide (k<1)=false:=aj (by omega);have r5:decide (5<k)=false:=aj (by omega);by_cases h1:nd<0
 ·have r2:decide (nd<0)=true:=av h1
  go_enter Tryz.func13,Tryz.ntmps13
  go_wp2_with fail;generalize W.alloc (.cells #[↑k,↑nd,↑n,.slice Ad d.length cd,.slice Af fl.length cf] 44)=w0 at *
  go_quiet (fail)
  go_wp2;go_ret;exact⟨rfl,hfin.o _ (aC (ah _ _) _)⟩
 ·have r2:decide (nd<0)=false:=aj h1
  have r3:decide ((N:Nat)<=nd)=true:=av (by omega)
  go_enter Tryz.func13,Tryz.ntmps13
  go_wp2_with fail;generalize W.alloc (.cells #[↑k,↑nd,↑n,.slice Ad d.length cd,.slice Af fl.length cf] 44)=w0 at *
  go_quiet (fail)
  go_wp2;go_ret;exact⟨rfl,hfin.o _ (aC (ah _ _) _)⟩
theorem DIn.one{q:DP}{W1 W2:World}(h:DIn (λ_=>jO) [] Rs N t q W1 x u)(hD:q.all x N=D){i:Nat}(hi:i<N){F':List Nat}{m':NM}(b:Below W W W1)(hn:RN jO F' Rs W2 (q.gp i) m')(he:Eff (q.F i) F' W1 W2):∃D',RD D' Rs N t W2 x (u.node1 i m')/\Eff D D' W W2:=by
 obtain⟨F'',hw,he2⟩:=h.eff hi hn he;rw[show je (λ_=>jO) i jO=λ_=>jO from funext λj=>by unfold je;split<;>rfl]at hw;have hea:=h.u7 hi he2;rw[hD]at hea;exact⟨_,⟨_,rfl,hw⟩,(pI (Rs:=Rs) b).ow hea⟩
theorem IL(h:RD D Rs N t W x u)(i:Nat)(n:Int)(hi:i<N):
  Calls Tryz.prog 13 #[↑(x,0),.agg #[↑(1:Int),↑(i:Nat),↑n,.slice Ad d.length cd,.slice Af fl.length cf]] W λe w'=>DwP D Rs N x t W ((u.ms i).onE n) (u.node1 i ((u.ms i).on n)) e w':=by
 have hb:=(ah W W).alloc lr (.cells #[↑(1:Int),↑(i:Nat),↑n,.slice Ad d.length cd,.slice Af fl.length cf] 44);have X:=aJ W W rfl #[↑(1:Int),↑(i:Nat),↑n,.slice Ad d.length cd,.slice Af fl.length cf] 44;have c0:=X.cell 0 (x:=↑(1:Int)) rfl;have c1:=X.cell 1 (x:=↑(i:Nat)) rfl;have c2:=X.cell 2 (x:=↑n) rfl;have c3:=X.cell 3 (x:=.slice Ad d.length cd) rfl;obtain⟨q,hD,h1⟩:=h.below hb;have x0:=h1.blk.cell 0 (x:=.slice (some (q.nb,0)) N q.cap) rfl;have ptr:=h1.ptr i hi;have hcp:=h1.cap;have hj:=(h1.nd i hi).j;have hs:=af (λm=>IQ n ((h1.below (aC (ah _ _) m)).nd i hi) (hj.on_ n));generalize(u.ms i).onE n=oe at *;unfold DwP;clear h X;have hNi:(i:Int)<(N:Nat):=by omega
 have r2:decide ((i:Int)<0)=false:=aj (by omega);have r3:decide ((N:Nat)<=(i:Int))=false:=aj (by omega)
 go_enter Tryz.func13,Tryz.ntmps13
 go_wp2_with fail;generalize W.alloc (.cells #[↑(1:Int),↑(i:Nat),↑n,.slice Ad d.length cd,.slice Af fl.length cf] 44)=w0 at *
 go_quiet (fail)
 go_wp2_with fail
 go_quiet (fail)
 go_wp2_with fail;refine(hs.o _).mono ?_;rintro _ w2 ⟨F',rfl,hn2,he⟩;have hp:=af (DIn.one (h1.below (aC (ah _ _) _)) hD hi (hb.trans ((aC (ah w0 w0) _).mono hb.size)) hn2 he);clear h1 hn2 he hs;go_wp2_with fail;go_ret;exact⟨rfl,hp.o⟩
theorem IU(h:RD D Rs N t W x u)(i:Nat)(n:Int)(hi:i<N):
  Calls Tryz.prog 13 #[↑(x,0),.agg #[↑(2:Int),↑(i:Nat),↑n,.slice Ad d.length cd,.slice Af fl.length cf]] W λe w'=>DwP D Rs N x t W (0) (u.node1 i ((u.ms i).off)) e w':=by
 have hb:=(ah W W).alloc lr (.cells #[↑(2:Int),↑(i:Nat),↑n,.slice Ad d.length cd,.slice Af fl.length cf] 44);have X:=aJ W W rfl #[↑(2:Int),↑(i:Nat),↑n,.slice Ad d.length cd,.slice Af fl.length cf] 44;have c0:=X.cell 0 (x:=↑(2:Int)) rfl;have c1:=X.cell 1 (x:=↑(i:Nat)) rfl;have c2:=X.cell 2 (x:=↑n) rfl;have c3:=X.cell 3 (x:=.slice Ad d.length cd) rfl;obtain⟨q,hD,h1⟩:=h.below hb;have x0:=h1.blk.cell 0 (x:=.slice (some (q.nb,0)) N q.cap) rfl;have ptr:=h1.ptr i hi;have hcp:=h1.cap;have hj:=(h1.nd i hi).j;have hs:=af (λm=>IV ((h1.below (aC (ah _ _) m)).nd i hi) hj.Ai);unfold DwP;clear h X;have hNi:(i:Int)<(N:Nat):=by omega
 have r2:decide ((i:Int)<0)=false:=aj (by omega);have r3:decide ((N:Nat)<=(i:Int))=false:=aj (by omega)
 go_enter Tryz.func13,Tryz.ntmps13
 go_wp2_with fail;generalize W.alloc (.cells #[↑(2:Int),↑(i:Nat),↑n,.slice Ad d.length cd,.slice Af fl.length cf] 44)=w0 at *
 go_quiet (fail)
 go_wp2_with fail
 go_quiet (fail)
 go_wp2_with fail;refine(hs.o _).mono ?_;rintro _ w2 ⟨F',rfl,hn2,he⟩;have hp:=af (DIn.one (h1.below (aC (ah _ _) _)) hD hi (hb.trans ((aC (ah w0 w0) _).mono hb.size)) hn2 he);clear h1 hn2 he hs;go_wp2_with fail;go_ret;exact⟨rfl,hp.o⟩
theorem IW(h:RD D Rs N t W x u)(i:Nat)(n:Int)(hi:i<N)(hv:iI W B (.slice Ad d.length cd) d)(hB:B<=W.heap.size)(hl:iK d):
  Calls Tryz.prog 13 #[↑(x,0),.agg #[↑(3:Int),↑(i:Nat),↑n,.slice Ad d.length cd,.slice Af fl.length cf]] W λe w'=>DwP D Rs N x t W ((u.ms i).kN d) (u.node1 i ((u.ms i).write d)) e w':=by
 have hb:=(ah W W).alloc lr (.cells #[↑(3:Int),↑(i:Nat),↑n,.slice Ad d.length cd,.slice Af fl.length cf] 44);have X:=aJ W W rfl #[↑(3:Int),↑(i:Nat),↑n,.slice Ad d.length cd,.slice Af fl.length cf] 44;have c0:=X.cell 0 (x:=↑(3:Int)) rfl;have c1:=X.cell 1 (x:=↑(i:Nat)) rfl;have c2:=X.cell 2 (x:=↑n) rfl;have c3:=X.cell 3 (x:=.slice Ad d.length cd) rfl;obtain⟨q,hD,h1⟩:=h.below hb;have x0:=h1.blk.cell 0 (x:=.slice (some (q.nb,0)) N q.cap) rfl;have ptr:=h1.ptr i hi;have hcp:=h1.cap;have hj:=(h1.nd i hi).j;have hs:=af (λm=>IX ((h1.below (aC (ah _ _) m)).nd i hi) ((hv.below (hb.mono hB)).below ((aC (ah (W.alloc (.cells #[↑(3:Int),↑(i:Nat),↑n,.slice Ad d.length cd,.slice Af fl.length cf] 44)).heap.size _) m).mono (aW hB hb.size))) (hj.Al d hl));generalize(u.ms i).kN d=oe at *;unfold DwP;clear h X;have hNi:(i:Int)<(N:Nat):=by omega
 have r2:decide ((i:Int)<0)=false:=aj (by omega);have r3:decide ((N:Nat)<=(i:Int))=false:=aj (by omega)
 go_enter Tryz.func13,Tryz.ntmps13
 go_wp2_with fail;generalize W.alloc (.cells #[↑(3:Int),↑(i:Nat),↑n,.slice Ad d.length cd,.slice Af fl.length cf] 44)=w0 at *
 go_quiet (fail)
 go_wp2_with fail
 go_quiet (fail)
 go_wp2_with fail;refine(hs.o _).mono ?_;rintro _ w2 ⟨F',rfl,hn2,he⟩;have hp:=af (DIn.one (h1.below (aC (ah _ _) _)) hD hi (hb.trans ((aC (ah w0 w0) _).mono hb.size)) hn2 he);clear h1 hn2 he hs;go_wp2_with fail;go_ret;exact⟨rfl,hp.o⟩
theorem IY(h:RD D Rs N t W x u)(i:Nat)(n:Int)(hi:i<N):
  Calls Tryz.prog 13 #[↑(x,0),.agg #[↑(4:Int),↑(i:Nat),↑n,.slice Ad d.length cd,.slice Af fl.length cf]] W λe w'=>DwP D Rs N x t W (jP (u.ms i).al (u.ms i).an (u.ms i).ar n) (u.node1 i ({u.ms i with ar:=jS (u.ms i).al (u.ms i).an (u.ms i).ar n})) e w':=by
 have hb:=(ah W W).alloc lr (.cells #[↑(4:Int),↑(i:Nat),↑n,.slice Ad d.length cd,.slice Af fl.length cf] 44);have X:=aJ W W rfl #[↑(4:Int),↑(i:Nat),↑n,.slice Ad d.length cd,.slice Af fl.length cf] 44;have c0:=X.cell 0 (x:=↑(4:Int)) rfl;have c1:=X.cell 1 (x:=↑(i:Nat)) rfl;have c2:=X.cell 2 (x:=↑n) rfl;have c3:=X.cell 3 (x:=.slice Ad d.length cd) rfl;obtain⟨q,hD,h1⟩:=h.below hb;have x0:=h1.blk.cell 0 (x:=.slice (some (q.nb,0)) N q.cap) rfl;have ptr:=h1.ptr i hi;have hcp:=h1.cap;have hj:=(h1.nd i hi).j;obtain⟨ga,g14,-⟩:=Am n (h1.nd i hi) (hj.ar_ _);have hs:∀m,Calls Tryz.prog 37 #[↑(ga,0),↑n] ((W.alloc (.cells #[↑(4:Int),↑(i:Nat),↑n,.slice Ad d.length cd,.slice Af fl.length cf] 44)).drewN m).drew λe w'=>∃F',e=.returned ↑(jP (u.ms i).al (u.ms i).an (u.ms i).ar n)/\RN jO F' Rs w' (q.gp i) {u.ms i with ar:=jS (u.ms i).al (u.ms i).an (u.ms i).ar n}/\Eff (q.F i) F' ((W.alloc (.cells #[↑(4:Int),↑(i:Nat),↑n,.slice Ad d.length cd,.slice Af fl.length cf] 44)).drewN m).drew w':=λm=>by
  have b:=(aC (ah (W.alloc (.cells #[↑(4:Int),↑(i:Nat),↑n,.slice Ad d.length cd,.slice Af fl.length cf] 44)).heap.size (W.alloc (.cells #[↑(4:Int),↑(i:Nat),↑n,.slice Ad d.length cd,.slice Af fl.length cf] 44))) m).drew;have hm:=(h1.below b).nd i hi;obtain⟨ga',IZ,hc⟩:=Am n hm (hj.ar_ _);have e:=(b.cell (p:=(q.gp i,14)) ((h1.nd i hi).lt)).symm.trans IZ;rw[g14]at e;simp only[bB,Value.pointer.injEq,Addr.mk.injEq,gu,true_and]at e;rw[e];exact hc
 have hs:=af hs;generalize jP (u.ms i).al (u.ms i).an (u.ms i).ar n=oe at *;unfold DwP;clear h X;have hNi:(i:Int)<(N:Nat):=by omega
 have r2:decide ((i:Int)<0)=false:=aj (by omega);have r3:decide ((N:Nat)<=(i:Int))=false:=aj (by omega)
 go_enter Tryz.func13,Tryz.ntmps13
 go_wp2_with fail;generalize W.alloc (.cells #[↑(4:Int),↑(i:Nat),↑n,.slice Ad d.length cd,.slice Af fl.length cf] 44)=w0 at *
 go_quiet (fail)
 go_wp2_with fail
 go_quiet (fail)
 go_wp2_with fail
 go_region_with (first
  |(go_at_call 37;refine(hs.o _).mono ?_;rintro _ w2 ⟨F',rfl,hn2,he⟩)
  |fail)
 all_goals
  have hp:=af (DIn.one (h1.below (aC (ah _ _) _).drew) hD hi (hb.trans ((aC (ah w0 w0) _).drew.mono hb.size)) hn2 he);clear h1 hn2 he hs;go_wp2_with fail;go_ret;exact⟨rfl,hp.o⟩
theorem I3(a:Ac){dv fv:Value}(h:RD D Rs N t W x u)(ok:WOk N u)(htN:t.ns.length=N)(hty:∀i,i<N->(u.ms i).ty.a<900)(hsl:u.sl<=1000000)(hd:iI W B dv a.d)(hy:iK a.d)(hf:ju W B fv a.f)(hB:B<=W.heap.size)(hD:∀p,p∈D->B<=p):
  Calls Tryz.prog 13 #[↑(x,0),.agg #[↑a.k,↑a.i,↑a.n,dv,fv]] W λe w'=>DwP D Rs N x t W (u.kU N a) (u.step N a) e w':=by
 obtain⟨Ad,cd,rfl,-⟩:=hd.at_;obtain⟨Af,cf,rfl,-⟩:=hf.at_;unfold WM.kU WM.step;by_cases e5:a.k=5
 ·rw[e5,au rfl,au rfl]
  exact II h ok htN hty hsl _ _ hf hB hD
 rw[ai e5,ai e5];by_cases ek:a.k<1\/5<a.k
 ·have h1:a.k≠1/\a.k≠2/\a.k≠3/\a.k≠4:=by omega
  rw[ai h1.1,ai h1.2.1,ai h1.2.2.1,ai h1.2.2.2,ai h1.1,ai h1.2.1,ai h1.2.2.1,ai h1.2.2.2];simp only[ite_self];exact IJ h _ _ _ ek
 by_cases eo:a.i<0\/(N:Int)<=a.i
 ·rw[au eo,au eo]
  exact IK h _ _ _ (by omega) e5 eo
 rw[ai eo,ai eo];obtain⟨i,hi⟩:∃i:Nat,a.i=(i:Int):=⟨a.i.toNat,by omega⟩;have hiN:i<N:=by omega
 rw[hi,aQ];by_cases e1:a.k=1
 ·rw[e1,au rfl,au rfl]
  exact IL h i _ hiN
 rw[ai e1,ai e1];by_cases e2:a.k=2
 ·rw[e2,au rfl,au rfl]
  exact IU h i _ hiN
 rw[ai e2,ai e2];by_cases e3:a.k=3
 ·rw[e3,au rfl,au rfl]
  exact IW h i _ hiN hd hB hy
 rw[ai e3,ai e3];by_cases e4:a.k=4
 ·rw[e4,au rfl,au rfl]
  exact IY h i _ hiN
 omega
end
end
section
set_option maxRecDepth 100000
set_option maxHeartbeats 8000000
open Go.RowKit
theorem I4{B:Nat}{P D Rs:List Nat}{N x y:Nat}{t:Tb.T}{u:WM}(w:World)(hw:WAt B P N w x u)(hd:RD D Rs N t w y u)(n8:N<=8):
  Calls Tryz.prog 14 #[↑(x,0),↑(y,0)] w λe w'=>e=.returned ↑true/\Below w w w':=by
 have K1:=λW(hW:Below w w W)=>hw.below hW;obtain⟨q,-,hd⟩:=hd;have K2:=λW(hW:Below w w W)=>hd.below hW;have HNo:=af (λW hW=>(K1 W hW).Ao);have HSl:=af (λW hW=>(K1 W hW).vo);have HSt:=af (λi(hi:i<N)W hW=>(K1 W hW).I5 i hi);have HVw:=af (λi(hi:i<N)W hW=>show Calls Tryz.prog 42 #[↑(x,0),↑(i:Nat)] W λe w'=>e=.returned (.agg #[↑(u.ms i).rd,↑((u.ms i).sl:Nat),↑((u.ms i).ty.m:Nat)])/\Below W W w' from(K1 W hW).I6 i hi);have HCl:=af (λi(hi:i<N)W hW=>(K1 W hW).I7 i hi);have HRd:=af (λi(hi:i<N)n W hW=>(K1 W hW).I9 i hi n);have HRi:=af (λi(hi:i<N)n W hW=>(K1 W hW).vu i hi n);have HV2:=af (λi(hi:i<N)W hW=>show Calls Tryz.prog 43 #[↑(q.gp i,0)] W λe w'=>e=.returned (.agg #[↑(u.ms i).rd,↑((u.ms i).sl:Nat),↑((u.ms i).ty.m:Nat)])/\Below W W w' from Ja ((K2 W hW).nd i hi));have HP:=af (λi(hi:i<N)=>Jb (hd.nd i hi));have HGd:=af (λi(hi:i<N)n=>(Jc (hd.nd i hi) n).2);have HX:=af (λW(hW:Below w w W)=>(show W.cell? (y,0)=some (.slice (some (q.nb,0)) N q.cap)/\W.cell? (y,2)=some ↑(u.sl:Nat)from⟨(K2 W hW).blk.cell 0 rfl,(K2 W hW).blk.cell 2 rfl⟩));have HN:=af (λi(hi:i<N)W(hW:Below w w W)=>(show W.cell? (q.nb,i)=some ↑(q.gp i,0)/\W.cell? (q.gp i,6)=some ↑((u.ms i).st:Nat)/\W.cell? (q.gp i,10)=some ↑(u.ms i).tm from⟨(K2 W hW).ptr i hi,z8 ((K2 W hW).nd i hi)⟩));have HGl:=af (λi(hi:i<N)=>(hd.nd i hi).lt);have hcp:=hd.cap;have b0:=(ah w w).drew;have S0:=af (HX.o _ b0);have e1:(((N:Nat):Int) != ((N:Nat):Int))=false:=by simp
 have e2:(((u.sl:Nat):Int) != ((u.sl:Nat):Int))=false:=by simp
 clear K1 K2 hw hd
 go_enter Tryz.func14,Tryz.ntmps14
 go_wp2_with fail
 go_region_held3 (λW=>W.cell? (y,0)=some (.slice (some (q.nb,0)) N q.cap)/\W.cell? (y,2)=some ↑(u.sl:Nat)) ((first|exact S0.o))
  (first
   |(go_at_call 39;refine(HNo.o _ b0).mono ?_;rintro _ _ ⟨rfl,rfl⟩)
   |(go_at_call 40;refine(HSl.o _ b0).mono ?_;rintro _ _ ⟨rfl,rfl⟩)
   |fail)
 have hb0:=af b0;clear S0 b0 HNo HSl e1 e2;go_wp2_with fail
 go_loopw [5] (λi wr=>∃k:Nat,k<=N/\i=↑k/\Below w w wr) (λi _=>N-(intOf i).toNat)
 case atStart=>exact⟨0,by omega,rfl,hb0.o⟩
 case round=>
  clear hb0;obtain⟨i,hiN,rfl,b⟩:=hrel;have x0:=(HX.o _ b).1;by_cases hlt:i<N
  ·have r1:decide ((i:Int)<(N:Nat))=true:=by simp;omega
   have p0:=(HN.o i hlt _ b).1;have b0:=b.drew;have HH:=af (HN.o i hlt);have S0:=af (HH.o _ b0).2;have HSt:=af (HSt.o i hlt);have HVw:=af (HVw.o i hlt);have HCl:=af (HCl.o i hlt);have HV2:=af (HV2.o i hlt);have HRd:=af (HRd.o i hlt);have HRi:=af (HRi.o i hlt);have HGd:=af (HGd.o i hlt);have hgl:=HGl.o i hlt;obtain⟨gs,ga,⟨c13,c14⟩,Ap,Aq⟩:=HP.o i hlt;have HGt:=af Ap;have HR2:=af Aq;have HT:=af (λW(hW:Below w w W)=>(show W.cell? (q.gp i,13)=some ↑(gs,0)/\W.cell? (q.gp i,14)=some ↑(ga,0)from⟨(hW.cell (p:=(q.gp i,13)) hgl).trans c13,(hW.cell (p:=(q.gp i,14)) hgl).trans c14⟩));clear Ap Aq c13 c14 HP HN HGl;generalize q.gp i=g2 at *;generalize u.ms i=m at *;have e1:(((m.st:Nat):Int) != ((m.st:Nat):Int))=false:=by simp
   have e2:(m.tm != m.tm)=false:=by simp
   go_wp2_with fail;clear x0 p0
   go_region_held3 (λW=>W.cell? (g2,6)=some ↑(m.st:Nat)/\W.cell? (g2,10)=some ↑m.tm) ((first|exact S0.o|exact S1.o|exact S2.o|exact S3.o|exact S4.o))
    (first
     |(go_at_call 41;refine(HSt.o _ b0).mono ?_;rintro _ w1 ⟨rfl,d1⟩;(have b1:=b0.trans (d1.mono b0.size));(have S1:=af (HH.o w1 b1).2))
     |(go_at_call 42;refine(HVw.o _ b1).mono ?_;rintro _ w2 ⟨rfl,d2⟩;(have b2:=b1.trans (d2.mono b1.size));(have S2:=af (HH.o w2 b2).2))
     |(go_at_call 43;refine(HV2.o _ b2).mono ?_;rintro _ w3 ⟨rfl,d3⟩;(have b3:=b2.trans (d3.mono b2.size));(have S3:=af (HH.o w3 b3).2))
     |(go_at_call 44;refine(HCl.o _ b3).mono ?_;rintro _ w4 ⟨rfl,d4⟩;(have b4:=b3.trans (d4.mono b3.size));(have S4:=af (HH.o w4 b4).2))
     |fail)
   have hb4:=af b4;clear S0 S1 S2 S3 S4 b0 b1 b2 b3 b4 b d1 d2 d3 d4 HSt HVw HCl HV2 HH e1 e2;go_wp2_with fail
   go_loopw [7] (λj wz=>∃k:Nat,k<=8/\j=↑k/\Below w w wz) (λj _=>8-(intOf j).toNat)
   case atStart=>exact⟨0,by omega,rfl,hb4.o⟩
   case round=>
    clear hb4;obtain⟨k,hk8,rfl,b⟩:=hrel;by_cases Ti:k<8
    ·have r8:decide ((k:Int)<8)=true:=av (by omega)
     have b0:=b.drew;have S0:=af (HT.o _ b0);have hRd:=HRd.o (k:Nat);have hGt:=λW hW=>HGt.o W hW (k:Nat);have hRi:=HRi.o (k:Nat);have hR2:=λW hW=>HR2.o W hW (k:Nat);have hbl:=HGd.o (k:Nat);obtain⟨rv,hrv⟩:∃rv:Int,((if isR m.al (k:Nat)then m.ar ((k:Nat):Int).toNat else 0:Nat):Int)=rv:=⟨_,rfl⟩;rw[hrv]at hRi hR2;obtain⟨da,hda⟩:∃da,m.so.gd (k:Nat)=da:=⟨_,rfl⟩;rw[hda]at hRd hGt hbl;generalize m.so.ga (k:Nat)=aa at *;generalize m.so.gg (k:Nat)=gg at *;have hRd:=af hRd;have hGt:=af hGt;have hRi:=af hRi;have hR2:=af hR2;clear hrv hda HRd HGt HRi HR2;have e3:(rv != rv)=false:=by simp
     go_wp2_with fail
     go_region_held3 (λW=>W.cell? (g2,13)=some ↑(gs,0)/\W.cell? (g2,14)=some ↑(ga,0)) ((first|exact S0.o|exact S1.o|exact S2.o|exact S3.o|exact S4.o))
      (first
       |(go_at_call 46;refine(hRd.o _ b0).mono ?_;rintro _ w1 ⟨v1,rfl,hv1,d1⟩;(have b1:=b0.trans (d1.mono b0.size));(have S1:=af (HT.o w1 b1)))
       |(go_at_call 47;refine(hGt.o _ b1).mono ?_;rintro _ w2 ⟨v2,rfl,hv2,d2⟩;(have b2:=b1.trans (d2.mono b1.size));(have S2:=af (HT.o w2 b2)))
       |(go_at_call 45;refine(Jd (hv1.below d2) hv2 hbl).mono ?_;rintro _ w3 ⟨rfl,d3⟩;(have b3:=b2.trans (d3.mono b2.size));(have S3:=af (HT.o w3 b3)))
       |(go_at_call 48;refine(hRi.o _ b3).mono ?_;rintro _ w4 ⟨rfl,d4⟩;(have b4:=b3.trans (d4.mono b3.size));(have S4:=af (HT.o w4 b4)))
       |(go_at_call 49;refine(hR2.o _ b4).mono ?_;rintro _ _ ⟨rfl,rfl⟩)
       |fail)
     have hb:=af b4;clear S0 S1 S2 S3 S4 b0 b1 b2 b3 b4 d1 d2 d3 d4 hv1 hv2;go_wp2;go_roundw
     case rel=>exact⟨k+1,by omega,by go_num,hb.o⟩
     case measure=>simp[intOf];omega
    ·obtain rfl:k=8:=by omega
     rw[show((8:Nat):Int)=8 from rfl];have hb:=af b;clear b;go_wp2_with fail;go_roundw
     case rel=>exact⟨i+1,by omega,by go_num,hb.o⟩
     case measure=>simp[intOf];omega
  ·obtain rfl:i=N:=by omega
   have r1:decide ((i:Int)<(i:Nat))=false:=by simp
   have hb:=af b;go_wp2;go_ret;exact⟨rfl,hb.o⟩
end
section
set_option maxRecDepth 100000
set_option maxHeartbeats 2000000
open Go.RowKit
def rlW:List R4:=[⟨1,10,90,1⟩,⟨2,0,200,0⟩]
theorem Az(w:World):
  Calls Tryz.prog 10 #[] w λe w'=>∃v,e=.returned v/\jl w' w' v rlW/\v.ownBlock=some w/\w.heap.size<w'.heap.size/\Below w w w':=by
 go_enter Tryz.func10,Tryz.ntmps10
 go_wp2;go_ret;refine⟨_,rfl,⟨_,2,rfl,by decide,by unfold maxLen;omega,λ_=>⟨w.heap.size,0,rfl,by simp,λk hk=>?_⟩,λh=>by cases h⟩,rfl,by simp,(ah w w).alloc lr _⟩;have hk:k<2:=hk;rcases(by omega:k=0\/k=1)with rfl|rfl<;>exact⟨by rw[aZ _ _ _ _ rfl];rfl,by rw[aZ _ _ _ _ rfl];rfl,by rw[aZ _ _ _ _ rfl];rfl,by rw[aZ _ _ _ _ rfl];rfl⟩
theorem nJ:rlW.length<=8/\∀k,k<rlW.length->(rlW.getD k default).may:=⟨by decide,λk hk=>by
  have hk:k<2:=hk;rcases(by omega:k=0\/k=1)with rfl|rfl<;>decide⟩
def Pr(B N x y:Nat)(t:Tb.T)(u:WM)(W:World):Prop:=∃D Rs,WAt B D N W x u/\RD D Rs N t W y u/\∀p,p∈D->B<=p
def PrA(B N x y:Nat)(t:Tb.T)(u u':WM)(W:World):Prop:=∃D Rs,WAt B D N W x u'/\RD D Rs N t W y u/\∀p,p∈D->B<=p
section
variable {B N x y:Nat}{t:Tb.T}{u u':WM}{W W':World}
theorem RD.lts{D Rs:List Nat}(h:RD D Rs N t W y u):∀p,p∈D->p<W.heap.size:=by
 obtain⟨q,e,h⟩:=h;rw[<-e];exact h.lt
theorem PrA.below(h:PrA B N x y t u u' W)(b:Below W W W'):PrA B N x y t u u' W':=by
 obtain⟨D,Rs,h1,h2,h3⟩:=h;exact⟨D,Rs,h1.below b,h2.below b,h3⟩
theorem Pr.below(h:Pr B N x y t u W)(b:Below W W W'):Pr B N x y t u W':=by
 obtain⟨D,Rs,h1,h2,h3⟩:=h;exact⟨D,Rs,h1.below b,h2.below b,h3⟩
theorem Pr.base(h:Pr B N x y t u W):B<=W.heap.size:=by
 obtain⟨D,Rs,h1,h2,h3⟩:=h;exact h1.base
theorem vw{k:Nat}(h:Pr B N x y t u W)(hb:WB N u k)(hk:k<=500)(a:Ac){dv fv:Value}(hd:iI W B dv a.d)(hy:iK a.d)(hf:ju W B fv a.f):
  Calls Tryz.prog 12 #[↑(x,0),.agg #[↑a.k,↑a.i,↑a.n,dv,fv]] W λe w'=>e=.returned ↑(u.kU N a)/\PrA B N x y t u (u.step N a) w'/\Below B W w':=by
 obtain⟨D,Rs,h1,h2,h3⟩:=h;refine(Jm a h1 (hb.ok hk) (by have:=hb.sl;omega) hd hy hf).mono ?_;rintro e w' ⟨rfl,hw,bw⟩;exact⟨rfl,⟨D,Rs,hw,h2.keep bw.b.size bw.k,h3⟩,bw.b⟩
theorem AA{k:Nat}(h:PrA B N x y t u u' W)(htN:t.ns.length=N)(hb:WB N u k)(hk:k<=500)(a:Ac)(hu:u'=u.step N a){dv fv:Value}(hd:iI W B dv a.d)(hy:iK a.d)(hf:ju W B fv a.f):
  Calls Tryz.prog 13 #[↑(y,0),.agg #[↑a.k,↑a.i,↑a.n,dv,fv]] W λe w'=>e=.returned ↑(u.kU N a)/\Pr B N x y t u' w'/\Below B W w':=by
 obtain⟨D,Rs,h1,h2,h3⟩:=h;have hB:=h1.base;refine(I3 a h2 (hb.ok hk) htN (λi hi=>by have:=hb.ty i hi;omega) (by have:=hb.sl;omega) hd hy hf hB h3).mono ?_;rintro e w' ⟨rfl,D',hr,he⟩;refine⟨rfl,⟨D',Rs,h1.foreign he.1 (λp hp=>hp) λp hp=>⟨hr.lts p hp,he.2 p hp⟩,by rw[hu];exact hr,λp hp=>?_⟩,he.1.below h3 hB⟩;rcases he.2 p hp with h4|h4
 ·exact h3 p h4
 ·omega
theorem sG(h:Pr B N x y t u W)(n8:N<=8):
  Calls Tryz.prog 14 #[↑(x,0),↑(y,0)] W λe w'=>e=.returned ↑true/\Pr B N x y t u w'/\Below B W w':=by
 have hB:=h.base;have h0:=h;obtain⟨D,Rs,h1,h2,h3⟩:=h;refine(I4 W h1 h2 n8).mono ?_;rintro e w' ⟨rfl,b⟩;exact⟨rfl,h0.below b,b.mono hB⟩
theorem Pr.made{C:Nat}{D Rs:List Nat}{W1 W2:World}(h:WAt C [] N W1 x u)(hB:B<=C)(b:Below W1 W1 W2)(hd:RD D Rs N t W2 y u)(hD:∀p,p∈D->W1.heap.size<=p):Pr B N x y t u W2:=by
 have hC:=h.base;refine⟨D,Rs,(h.lower hB).foreign (D:=[]) (yJ b) (λp hp=>hp) λp hp=>⟨hd.lts p hp,.inr (hD p hp)⟩,hd,λp hp=>?_⟩;have:=hD p hp;omega
theorem WM.Jo(u:WM)(N:Nat)(a:Ac)(h:u.kU N a≠0):u.step N a=u:=by
 have same:∀i m,m=u.ms i->u.node1 i m=u:=λi m e=>by
  refine WM.alike (λj=>?_) rfl rfl rfl;show je u.ms i m j=u.ms j;unfold je
  split
  ·rename_i ej
   rw[e,ej]
  ·rfl
 unfold WM.kU at h;unfold WM.step
 split
 ·rename_i e5
  rw[au e5]at h
  split
  ·rename_i hf
   rw[au hf]at h;exact absurd rfl h
  ·rfl
 rename_i e5;rw[ai e5]at h
 split
 ·rfl
 rename_i eo;rw[ai eo]at h
 split
 ·rename_i e1
  rw[au e1]at h;refine same _ _ ?_;unfold NM.on;rw[ai h]
 rename_i e1;rw[ai e1]at h
 split
 ·rename_i e2
  rw[au e2]at h;exact absurd rfl h
 rename_i e2;rw[ai e2]at h
 split
 ·rename_i e3
  rw[au e3]at h;refine same _ _ ?_;unfold NM.kN at h;unfold NM.write
  split
  ·rfl
  ·rename_i hw
   rw[ai hw]at h;exact absurd rfl h
 rename_i e3;rw[ai e3]at h
 split
 ·rename_i e4
  rw[au e4]at h;refine same _ _ ?_;have e:jS (u.ms a.i.toNat).al (u.ms a.i.toNat).an (u.ms a.i.toNat).ar a.n=(u.ms a.i.toNat).ar:=by
   unfold jP at h;unfold jS
   split
   ·rename_i hr
    rw[au hr]at h
    split
    ·rfl
    ·rename_i hz
     rw[ai hz]at h;exact absurd rfl h
   ·rfl
  rw[e]
 ·rfl
end
end
section
open Go.RowKit
theorem j7.act{w:World}{A:Option Addr}{c:Nat}{l:List Ac}{B:Nat}(h:j7 w B (.slice A l.length c) l)(k:Nat)(hk:k<l.length):∃b off dv fv,A=some ⟨b,off,none⟩/\∀W,Below B w W->(W.cell? ⟨b,off+k*5,none⟩=some ↑(l.getD k default).k/\W.cell? ⟨b,off+k*5+1,none⟩=some ↑(l.getD k default).i/\W.cell? ⟨b,off+k*5+2,none⟩=some ↑(l.getD k default).n/\W.cell? ⟨b,off+k*5+3,none⟩=some dv/\W.cell? ⟨b,off+k*5+4,none⟩=some fv)/\iI W B dv (l.getD k default).d/\ju W B fv (l.getD k default).f:=by
 obtain⟨A',c',e,h1,h2,h3⟩:=h.at_
 cases e
 obtain⟨b,off,rfl,hb,hc⟩:=h3 (by omega);obtain⟨c0,c1,c2,⟨v3,c3,s3⟩,v4,c4,s4⟩:=hc k hk;exact⟨b,off,v3,v4,rfl,λW hW=>⟨⟨(hW.cell (p:=(b,off+k*5)) hb).trans c0,(hW.cell (p:=(b,off+k*5+1)) hb).trans c1,(hW.cell (p:=(b,off+k*5+2)) hb).trans c2,(hW.cell (p:=(b,off+k*5+3)) hb).trans c3,(hW.cell (p:=(b,off+k*5+4)) hb).trans c4⟩,s3.below hW,s4.below hW⟩⟩
theorem j7.bytes{w:World}{v:Value}{l:List Ac}{B:Nat}(h:j7 w B v l)(k:Nat)(hk:k<l.length):iK (l.getD k default).d:=h.by_ _ (F9 l k hk)
theorem F7{N:Nat}(N4:4<=N)(N8:N<=8)(g:Nat->Int)(i:Nat)(hi:i<N):NM.may (jA N 2) (i:Nat) ((dfs N g).getD i 0) rlW:=
 uP N 2 i _ rlW N4 N8 (by omega) hi ⟨(uQ N g i).1,(uQ N g i).2.1⟩ nJ.1 nJ.2
theorem F5{N:Nat}(N4:4<=N)(N8:N<=8)(dl:List Int)(hdl:dl.length=N)(hm:∀i,i<N->NM.may (jA N 2) (i:Nat) (dl.getD i 0) rlW)(v dv rv:Value)(C:Nat)(W:World)(hv:jh W W v (jQ N))(hdv:ja W W dv dl)(hr:jl W W rv rlW)(hRv:∀k,v.ownBlock=some k->C<=k/\k<W.heap.size)(hRu:∀k,rv.ownBlock=some k->C<=k/\k<W.heap.size)(hC:C<=W.heap.size):
  Calls Tryz.prog 11 #[.agg #[v,↑(2:Int),↑(14:Int),↑(17:Int)],dv,rv] W λe w'=>∃y,e=.returned (.tuple #[.pointer (some ⟨y,0,none⟩),↑(0:Int)])/\(∃D Rs,RD D Rs N (jA N 2) w' y (WM.new (jA N 2) dl rlW)/\∀p,p∈D->C<=p)/\Below W W w':=by
 have e:(jA N 2).ns.length=N:=lB N;have h:=Ji (v.ownBlock.toList++rv.ownBlock.toList) (jA N 2) v dv rv dl rlW W hv hdv hr (tC N 2 N4 N8 (by omega)) (by rw[e];exact hdl) (λi hi=>hm i (by rw[<-e];exact hi)) rfl (λk hk=>by simp[hk]) (λk hk=>by simp[hk]) (λf hf=>by
  rcases bG.1 hf with h|h
  ·exact(hRv f (dO.1 h)).2
  ·exact(hRu f (dO.1 h)).2)
 refine h.mono ?_;rintro e' w' ⟨y,D,rfl,hd,hD,hb⟩;rw[e]at hd;refine⟨y,rfl,⟨D,_,hd,λp hp=>?_⟩,hb⟩;rcases hD p hp with h|h
 ·rcases bG.1 h with h|h
  ·exact(hRv p (dO.1 h)).1
  ·exact(hRu p (dO.1 h)).1
 ·omega
end
end Go.Proofs.YteadkhigkmijiaaGreat
