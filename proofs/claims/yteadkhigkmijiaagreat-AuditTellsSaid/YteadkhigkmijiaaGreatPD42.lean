/- Texts VdM, VdD, VdE, VdG in one. -/
import Derived.Test.YteadkhigkmijiaaGreatPD1
import Derived.Test.YteadkhigkmijiaaGreatPD18
import Derived.Test.YteadkhigkmijiaaGreatPD34
import Derived.Test.YteadkhigkmijiaaGreatPD35
import Derived.Test.YteadkhigkmijiaaGreatPD37
import Derived.Test.YteadkhigkmijiaaGreatPD41
set_option linter.all false
namespace Go.Proofs.YteadkhigkmijiaaGreat
section
open Go.RowKit
open Fr (St F)
theorem R9{b:Bool}{G:Nat->Prop}{W:World}{g:Nat}{s:NM}(h:NA b G W g s.iL)(hj:NJ s.iL):iK s.sent/\s.sent.length<=16:=by
 unfold NM.sent;by_cases e:s.jB=0
 ·rw[au e];exact⟨λx hx=>(by cases hx),by simp⟩
 ·rw[ai e]
  have hk:1<=s.jB/\s.jB<=3:=by
   unfold NM.jB at e ⊢
   repeat' split
   all_goals simp_all
  have hn8:=hj.may.n8;have his:(s.iL.frm s.jB).is=true:=by
   rw[F.l9];exact⟨hk,qW hj.rd (by have:=hj.sl;omega) h.tyo,hj.da.1⟩
  refine⟨F.pK his hj.da.2,?_⟩;rw[F.qJ];have h1:(s.iL.frm s.jB).hl<=6:=by unfold F.hl;split<;>omega
  have h2:(s.iL.frm s.jB).d.length<=8:=hj.da.1;omega
theorem RJ{F:List Nat}{W:World}{g:Nat}{s:NM}(h:NAt F W g s.iL):iK s.sent/\s.sent.length<=16:=by
 obtain⟨b,ha,hi⟩:=h.a;exact R9 ha hi.j
namespace WM
def bs(u:WM)(N i:Nat):List Int:=if i<N then(u.ms i).sent else []
def at_(u:WM)(N i:Nat):Int:=if i<N then(u.ms i).iL.tm else 0
def air(u:WM)(N:Nat)(fl:List Ft):Air:=fl.foldl (λx f=>x.fault f) (Air.start (u.bs N) (u.at_ N))
def said(u:WM)(N:Nat)(fl:List Ft):jy:=⟨(u.air N fl).ch N u.s 0,(u.air N fl).ch N u.t 1⟩
def hear(u:WM)(N:Nat)(fl:List Ft)(i:Nat):Hn:=(u.said N fl).hear (u.air N fl) (u.at_ N i) i
def slot(u:WM)(N:Nat)(fl:List Ft):WM:=⟨λi=>if i<N then(u.ms i).iL.take (u.hear N fl i)else u.ms i,u.s.ended (tl (u.said N fl).n (u.said N fl).c.q) ((u.air N fl).jq (u.said N fl).c.p),u.t.ended (tl (u.said N fl).n (u.said N fl).d.q) ((u.air N fl).jq (u.said N fl).d.p),u.sl+1⟩
end WM
structure GOk(N:Nat)(s:G):Prop where
 sn:s.n=N
 now:-10000000<=s.now/\s.now<=10000000
 slot:s.slot<N
 small:small s.l
 lm:0<=s.lm/\s.lm<=1000
 wi:0<=s.wi/\s.wi<=1000
 si:s.si<=1000
 si2:s.kn=true->s.si<2*s.n
structure WOk(N:Nat)(u:WM):Prop where
 n4:4<=N/\N<=8
 tm:∀i,i<N->-10000000<=(u.ms i).iL.tm/\(u.ms i).iL.tm<=10000000
 ty:∀i,i<N->(u.ms i).iL.ty.a<900/\(u.ms i).iL.ty.f<900
 s:GOk N u.s
 t:GOk N u.t
theorem WM.qA{N:Nat}{u:WM}(h:WOk N u)(i:Nat):-10000000<=u.at_ N i/\u.at_ N i<=10000000:=by
 unfold WM.at_
 split
 ·exact h.tm i (by assumption)
 ·omega
theorem sY{fl:List Ft}(h:jc fl=true):fl.length<=4/\∀f∈fl,f.may=true:=by
 unfold jc at h;simp only[bg,bC,List.all_eq_true]at h;exact h
theorem BG{fl:List Ft}(h:jc fl=true):∀f∈fl,-1000<=f.a/\f.a<=1000:=λf hf=>by
 have hm:=(sY h).2 f hf;unfold Ft.may at hm;rw[nu]at hm;omega
theorem Sb{fl:List Ft}(h:jc fl=true):∀f∈fl,f.d.length<=24:=λf hf=>by
 have hm:=(sY h).2 f hf;unfold Ft.may at hm;rw[nu]at hm;omega
section
variable {N:Nat}{u:WM}{fl:List Ft}
theorem WM.qC(h:WOk N u)(hf:jc fl=true)(i:Nat):-10004000<=((u.air N fl).s i).at_/\((u.air N fl).s i).at_<=10004000:=by
 have h1:=Air.vQ fl (Air.start (u.bs N) (u.at_ N)) i (BG hf);have h2:=WM.qA h i;have h3:=(sY hf).1;have e:((Air.start (u.bs N) (u.at_ N)).s i).at_=u.at_ N i:=rfl;rw[e]at h1;unfold WM.air;omega
theorem WM.nI(h:WOk N u)(hf:jc fl=true)(p:Int):-10004000<=(u.air N fl).jq p/\(u.air N fl).jq p<=10004000:=
 (u.air N fl).nI p 10004000 (by decide) λi=>WM.qC h hf i
theorem GOk.ok{s:G}{a:Int}(h:GOk N s)(h8:N<=8)(ha:-10004000<=a/\a<=10004000):s.Ok a:=by
 refine⟨by rw[h.sn];exact h8,by rw[h.sn];exact h.slot,h.small,?_,?_,?_,h.si⟩
 ·have:=h.lm;omega
 ·have:=h.now;omega
 ·have:=h.now;omega
theorem Air.pG(x:Air){s:G}(h:GOk N s)(c:Nat):(x.ch N s c).p=-1\/∃j:Nat,(x.ch N s c).p=j/\j<N:=by
 refine Pp ?_ ?_
 ·exact(qd (x.jR N) N).imp id λ⟨j,e,hj,_⟩=>⟨j,e,hj⟩
 ·have:=qc s (x.jR N) (λi=>(x.s i).at_) (by rw[h.sn];exact h.slot)
  rw[h.sn]at this;exact this.imp id λ⟨j,e,hj,_⟩=>⟨j,e,hj⟩
theorem Air.rZ(x:Air)(s:G)(c k:Nat)(hk:(x.ch N s c).n<=k):(x.ch N s c).q k=0:=by
 unfold Air.ch at hk ⊢;exact Air.Pq x N _ _ _ _ k hk
theorem Sc(h:∀i,i<N->iK (u.ms i).sent)(i:Nat):iK (u.bs N i):=by
 unfold WM.bs
 split
 ·exact h i (by assumption)
 ·exactλ_ hx=>by cases hx
def WM.sd(u:WM)(N:Nat)(fl:List Ft):List Sd:=strikes fl ((List.range N).map (sd0 (u.bs N) (u.at_ N)))
theorem WM.pu(u:WM)(N:Nat)(fl:List Ft):(u.sd N fl).length=N:=by
 unfold WM.sd;rw[xS,dQ,dW]
theorem WM.uO(hb:∀i,i<N->iK (u.ms i).sent)(hf:jc fl=true)(hy:∀f∈fl,iK f.d):jU (u.sd N fl) (u.air N fl):=by
 unfold WM.sd strikes WM.air;have h:=jU.strikes (fl:=fl) (jU.start N (u.bs N) (u.at_ N)) (Air.Ok.start (u.at_ N) λi=>Sc hb i) λf hf'=>⟨hy f hf',Sb hf f hf'⟩;exact h.1
theorem WM.Sg(hb:∀i,i<N->iK (u.ms i).sent)(hf:jc fl=true)(hy:∀f∈fl,iK f.d)(i:Nat):sF (u.sd N fl) i=(u.air N fl).jR N i:=by
 unfold Air.jR;by_cases h:i<N
 ·rw[av h,cK,(WM.uO hb hf hy).sF_ i (by rw[WM.pu];exact h)]
 ·rw[aj h,dD]
  unfold sF;rw[aY (by rw[WM.pu];omega)]
theorem Si{f:Nat->Bool}{n m:Nat}(h:∀i,n<=i->f i=false)(hm:n<=m):fst f m=fst f n:=by
 induction m with
 |zero=>rw[show n=0 by omega]
 |succ m ih=>
  by_cases e:n=m+1
  ·rw[e]
  ·rw[q9,ih (by omega),h m (by omega)]
   rcases qd f n with e|⟨j,e,-⟩
   ·rw[e,au (by decide),ai (by decide)]
   ·rw[e,ai (by omega)]
theorem WM.RO(h:WOk N u)(hb:∀i,i<N->iK (u.ms i).sent)(hf:jc fl=true)(hy:∀f∈fl,iK f.d):
  l6 (u.sd N fl) (fst (sF (u.sd N fl)) 8) (u.s.pass (sF (u.sd N fl)) (sA (u.sd N fl))) (u.t.pass (sF (u.sd N fl)) (sA (u.sd N fl))) (fl.any (blocks · 0)) (fl.any (blocks · 1)) (fl.any (leaks · 0)) (fl.any (leaks · 1))=u.said N fl:=by
 have hs:=WM.uO (N:=N) hb hf hy;have e1:sF (u.sd N fl)=(u.air N fl).jR N:=funext λi=>WM.Sg hb hf hy i;have e2:fst ((u.air N fl).jR N) 8=fst ((u.air N fl).jR N) N:=Si (λi hi=>by unfold Air.jR;rw[aj (by omega),dD]) h.n4.2;have hp:∀s:G,GOk N s->s.pass ((u.air N fl).jR N) (sA (u.sd N fl))=s.pass ((u.air N fl).jR N) (λi=>((u.air N fl).s i).at_):=λs hg=>
  PX (by rw[hg.sn];exact hg.slot) (λ_ _=>rfl) (hs.sA_ _ (by rw[WM.pu];exact hg.slot))
 have b0:∀i:Nat,fl.any (blocks · i)=(u.air N fl).bl i:=λi=>by
  unfold WM.air;rw[Air.Pk];show _=(false||_);rw[Bool.false_or]
  rfl
 have b1:∀i:Nat,fl.any (leaks · i)=(u.air N fl).lk i:=λi=>by
  unfold WM.air;rw[Air.Pm];show _=(false||_);rw[Bool.false_or]
  rfl
 have hr:∀s:G,GOk N s->s.pass ((u.air N fl).jR N) (λi=>((u.air N fl).s i).at_)<0\/(s.pass ((u.air N fl).jR N) (λi=>((u.air N fl).s i).at_)).toNat<(u.sd N fl).length:=λs hg=>by
  rw[WM.pu];rcases qc s ((u.air N fl).jR N) (λi=>((u.air N fl).s i).at_) (by rw[hg.sn];exact hg.slot)with e|⟨j,e,hj,-⟩
  ·rw[e];exact .inl (by decide)
  ·rw[e,aQ,<-hg.sn];exact .inr hj
 rw[e1,e2,hp _ h.s,hp _ h.t,b0 0,b0 1,b1 0,b1 1,hs.Po _ _ _ (hr _ h.s) (hr _ h.t),WM.pu]
 rfl
theorem WM.yt(hb:∀i,i<N->iK (u.ms i).sent)(hf:jc fl=true)(hy:∀f∈fl,iK f.d){p:Int}(hp:p=-1\/∃j:Nat,p=j/\j<N):jG (u.sd N fl) p=(u.air N fl).jq p:=
 (WM.uO hb hf hy).jq p (hp.imp (λe=>by rw[e];decide) λ⟨j,e,hj⟩=>by rw[e,aQ,WM.pu];exact hj)
end
end
section
open Go.RowKit
def WM.ko(u:WM)(k:Nat):WM:={u with ms:=λi=>if i<k then(u.ms i).iL else u.ms i}
def WM.bsK(u:WM)(k i:Nat):List Int:=if i<k then(u.ms i).sent else []
def WM.atK(u:WM)(k i:Nat):Int:=if i<k then(u.ms i).iL.tm else 0
theorem WM.alike{a b:WM}(h1:∀i,a.ms i=b.ms i)(h2:a.s=b.s)(h2':a.t=b.t)(h3:a.sl=b.sl):a=b:=by
 obtain⟨m,s,t,l⟩:=a;obtain⟨m',s',t',l'⟩:=b;obtain rfl:m=m':=funext h1;obtain rfl:s=s':=h2;obtain rfl:t=t':=h2';obtain rfl:l=l':=h3
 rfl
theorem WM.zZ(u:WM):u.ko 0=u:=by unfold WM.ko;simp
theorem WM.vl(u:WM)(k:Nat):(u.ko k).ms k=u.ms k:=by unfold WM.ko;simp
theorem WM.zN(u:WM)(k:Nat):({u.ko k with ms:=je (u.ko k).ms k (u.ms k).iL}:WM)=u.ko (k+1):=by
 refine WM.alike (λi=>?_) rfl rfl rfl;show je (λi=>if i<k then(u.ms i).iL else u.ms i) k (u.ms k).iL i=if i<k+1 then(u.ms i).iL else u.ms i;unfold je;by_cases e:i=k
 ·subst e;simp
 ·rw[ai e]
  show(if i<k then(u.ms i).iL else u.ms i)=if i<k+1 then(u.ms i).iL else u.ms i;by_cases h:i<k
  ·rw[au h,au (by omega)]
  ·rw[ai h,ai (by omega)]
theorem WM.rY(u:WM)(k:Nat):kX (u.bsK k) k (u.ms k).sent=u.bsK (k+1):=by
 funext i
 unfold kX WM.bsK;by_cases e:i=k
 ·subst e;simp
 ·rw[ai e]
  by_cases h:i<k
  ·rw[au h,au (by omega)]
  ·rw[ai h,ai (by omega)]
theorem WM.zM(u:WM)(k:Nat)(hk:k<8):(i8 (u.atK k)).setIfInBounds k (.int .i64 (u.ms k).iL.tm)=i8 (u.atK (k+1)):=by
 have e:∀i,u.atK (k+1) i=if i=k then(u.ms k).iL.tm else u.atK k i:=λi=>by
  unfold WM.atK;by_cases e:i=k
  ·subst e;simp
  ·rw[ai e]
   by_cases h:i<k
   ·rw[au h,au (by omega)]
   ·rw[ai h,ai (by omega)]
 rw[show u.atK (k+1)=λi=>if i=k then(u.ms k).iL.tm else u.atK k i from funext e];rcases(by omega:k=0\/k=1\/k=2\/k=3\/k=4\/k=5\/k=6\/k=7)with rfl|rfl|rfl|rfl|rfl|rfl|rfl|rfl<;>simp[i8]
def WM.took(u:WM)(N:Nat)(fl:List Ft)(k:Nat):WM:=⟨λi=>if i<k then(u.ms i).iL.take (u.hear N fl i)else(u.ko N).ms i,(u.slot N fl).s,(u.slot N fl).t,u.sl⟩
theorem WM.qB(u:WM)(N:Nat)(fl:List Ft):u.took N fl 0=⟨(u.ko N).ms,(u.slot N fl).s,(u.slot N fl).t,u.sl⟩:=by unfold WM.took;simp
theorem WM.zR(u:WM)(fl:List Ft){N k:Nat}(hk:k<N):(u.took N fl k).ms k=(u.ms k).iL:=by unfold WM.took WM.ko;simp[hk]
theorem WM.zW(u:WM)(N:Nat)(fl:List Ft)(k:Nat):({u.took N fl k with ms:=je (u.took N fl k).ms k ((u.ms k).iL.take (u.hear N fl k))}:WM)=u.took N fl (k+1):=by
 refine WM.alike (λi=>?_) rfl rfl rfl;show je (λi=>if i<k then(u.ms i).iL.take (u.hear N fl i)else(u.ko N).ms i) k ((u.ms k).iL.take (u.hear N fl k)) i=if i<k+1 then(u.ms i).iL.take (u.hear N fl i)else(u.ko N).ms i;unfold je;by_cases e:i=k
 ·subst e;simp
 ·rw[ai e]
  show(if i<k then(u.ms i).iL.take (u.hear N fl i)else(u.ko N).ms i)=if i<k+1 then(u.ms i).iL.take (u.hear N fl i)else(u.ko N).ms i;by_cases h:i<k
  ·rw[au h,au (by omega)]
  ·rw[ai h,ai (by omega)]
theorem WM.zX(u:WM)(N:Nat)(fl:List Ft):({u.took N fl N with sl:=u.sl+1}:WM)=u.slot N fl:=by
 refine WM.alike (λi=>?_) rfl rfl rfl;show(if i<N then(u.ms i).iL.take (u.hear N fl i)else if i<N then(u.ms i).iL else u.ms i)=if i<N then(u.ms i).iL.take (u.hear N fl i)else u.ms i;by_cases h:i<N
 ·simp[h]
 ·simp[h]
theorem WM.Ae(u:WM)(N:Nat):u.bsK N=u.bs N:=rfl
theorem WM.Ag(u:WM)(N:Nat):u.atK N=u.at_ N:=rfl
theorem WM.xP{N:Nat}{u:WM}{fl:List Ft}(ok:WOk N u):(u.said N fl).who=-1\/∃j:Nat,(u.said N fl).who=j/\j<N:=by
 unfold jy.who
 split
 ·exact Air.pG _ ok.t 1
 ·exact Air.pG _ ok.s 0
theorem FR{W:World}{Bs N i:Nat}{u:WM}{fl:List Ft}{h:Hd}(ok:WOk N u)(hb:∀j,j<N->iK (u.ms j).sent)(hf:jc fl=true)(hy:∀f∈fl,iK f.d)(hi:i<N)(H:jH W Bs (u.sd N fl) (u.said N fl).n (u.said N fl).c.q (u.said N fl).d.q (u.said N fl).who (u.at_ N) i h):
  h.A=(u.hear N fl i).a/\h.B=(u.hear N fl i).b/\iJ W Bs h.X (u.hear N fl i).x/\iJ W Bs h.Y (u.hear N fl i).y/\h.o=(u.hear N fl i).o:=by
 have hl:i<(u.sd N fl).length:=by rw[WM.pu];exact hi
 have hd:((u.sd N fl)[i]?.map Sd.df≠some true)↔¬(((u.air N fl).s i).df=true):=by
  have h1:=(WM.uO (N:=N) hb hf hy).mD_ i hl;unfold mD at h1;rw[<-h1,aP hl];simp
 obtain⟨h1,h2,h3,h4,h5⟩:=H;unfold WM.hear jy.hear;simp only;have ho:h.o=if(u.said N fl).who<0 then 0 else(u.air N fl).jq (u.said N fl).who-u.at_ N i:=by
  rw[h5];by_cases e:(u.said N fl).who<0
  ·rw[ai (λh=>by omega),au e]
  ·rw[au ⟨hl,by omega⟩,ai e,WM.yt hb hf hy (WM.xP ok)]
 by_cases e:((u.air N fl).s i).df=true
 ·have hn:¬(i<(u.sd N fl).length/\((u.sd N fl)[i]?.map Sd.df)≠some true):=λh=>(hd.1 h.2) e
  rw[ai hn]at h1 h2 h3 h4;rw[au e,au e,au e,au e];exact⟨h1,h2,h3,h4,ho⟩
 ·have hn:(i<(u.sd N fl).length/\((u.sd N fl)[i]?.map Sd.df)≠some true):=⟨hl,hd.2 e⟩
  rw[au hn]at h1 h2 h3 h4;rw[ai e,ai e,ai e,ai e];exact⟨h1,h2,h3,h4,ho⟩
end
section
open Go.RowKit
theorem Eff.bw{F F':List Nat}{B:Nat}{P:List Nat}{w w':World}(e:Eff F F' w w')(hF:∀f,f∈F->B<=f/\f∉P)(hB:B<=w.heap.size)(hP:∀p,p∈P->p<w.heap.size):Bw B P w w':=
 ⟨e.1.below (λf hf=>(hF f hf).1) hB,λp hp=>e.1.block p (hP p hp) λhm=>(hF p hm).2 hp⟩
theorem Bw.trans{B:Nat}{P:List Nat}{a b c:World}(h:Bw B P a b)(k:Bw B P b c):Bw B P a c:=⟨h.b.trans k.b,λp hp=>(k.k p hp).trans (h.k p hp)⟩
theorem Bw.less{B:Nat}{P P':List Nat}{a b:World}(h:Bw B P a b)(hP:∀p,p∈P'->p∈P):Bw B P' a b:=⟨h.b,λp hp=>h.k p (hP p hp)⟩
theorem Bw.rR{B p:Nat}{P:List Nat}{a b:World}(o:Only p a b)(hB:B<=p)(hs:p<a.heap.size)(hP:∀r,r∈P->r<a.heap.size/\r≠p):Bw B P a b:=
 ⟨o.below hB hs,λr hr=>o.block r (hP r hr).1 (by intro e;cases e;exact(hP _ hr).2 rfl)⟩
section
variable {B:Nat}{P:List Nat}{N:Nat}{q:WP}{W W':World}{x:Nat}{u:WM}
theorem WIn.qw(h:WIn B P N q W x u){i:Nat}(hi:i<N){F':List Nat}(e:Eff (q.F i) F' W W'):Bw B P W W':=
 e.bw (λf hf=>⟨h.bas.2.2.2 i hi f hf,λhp=>h.own i hi f (.inr (.inr (.inr hp))) hf⟩) (by have:=h.bas.1;have:=h.blk.lt;omega) (λp hp=>(h.o p hp).1)
theorem WIn.lD(h:WIn B P N q W x u)(b:Below W W W'):Bw B P W W':=
 Bw.of b (by have:=h.bas.1;have:=h.blk.lt;omega) (λp hp=>(h.o p hp).1)
end
structure SA(B:Nat)(P:List Nat)(N x:Nat)(u:WM)(nb gs ps:Nat)(w0:World)(k:Nat)(q:WP)(V:Nat->Option Addr)(c:Nat->Nat)(W:World):Prop where
 nb:q.nb=nb
 gs:q.gs=gs
 win:WIn B ((ps+1)::ps::P) N q W x (u.ko k)
 Y:Blk W ps (sl8 V c (u.bsK k)) 150
 Z:Blk W (ps+1) (i8 (u.atK k)) 22
 own:∀i,i<8->iJ W (ps+2) (.slice (V i) (u.bsK k i).length (c i)) (u.bsK k i)
 ok:∀i,i<8->iK (u.bsK k i)/\(u.bsK k i).length<=16
 far:∀i,i<k->∀b,(Value.slice (V i) (u.bsK k i).length (c i)).ownBlock=some b->∀j,k<=j->j<N->b∉q.F j
 rest:∀i,k<=i->V i=none/\c i=0
 bw:Bw B P w0 W
 pB:B<=ps
 pP:∀r,r∈P->r<ps
structure SB(B:Nat)(P:List Nat)(N x:Nat)(u:WM)(nb gs ps:Nat)(w0:World)(k:Nat)(q:WP)(V:Nat->Option Addr)(c:Nat->Nat)(A':Option Addr)(c':Nat)(W:World):Prop where
 nb:q.nb=nb
 gs:q.gs=gs
 win:WIn B ((ps+1)::ps::P) N q W x (u.ko (k+1))
 Y:Blk W ps (sl8 V c (u.bsK k)) 150
 Z:Blk W (ps+1) (i8 (u.atK k)) 22
 own:∀i,i<8->iJ W (ps+2) (.slice (V i) (u.bsK k i).length (c i)) (u.bsK k i)
 new:iJ W (ps+2) (.slice A' (u.ms k).sent.length c') (u.ms k).sent
 ok:∀i,i<8->iK (u.bsK k i)/\(u.bsK k i).length<=16
 okn:iK (u.ms k).sent/\(u.ms k).sent.length<=16
 far:∀i,i<k->∀b,(Value.slice (V i) (u.bsK k i).length (c i)).ownBlock=some b->∀j,k+1<=j->j<N->b∉q.F j
 rX:∀b,(Value.slice A' (u.ms k).sent.length c').ownBlock=some b->∀j,k+1<=j->j<N->b∉q.F j
 rest:∀i,k<=i->V i=none/\c i=0
 bw:Bw B P w0 W
 pB:B<=ps
 pP:∀r,r∈P->r<ps
section
variable {B:Nat}{P:List Nat}{N x:Nat}{u:WM}{nb gs ps:Nat}{w0 W W':World}{k:Nat}{q:WP}{V:Nat->Option Addr}{c:Nat->Nat}{A':Option Addr}{c':Nat}
theorem SA.below(h:SA B P N x u nb gs ps w0 k q V c W)(b:Below W W W'):SA B P N x u nb gs ps w0 k q V c W':=
 ⟨h.nb,h.gs,h.win.below b,h.Y.below b h.Y.lt,h.Z.below b h.Z.lt,λi hi=>(h.own i hi).below b lr,h.ok,h.far,h.rest,h.bw.trans ((h.win.less (λ_ hp=>aT _ (aT _ hp))).lD b),h.pB,h.pP⟩
theorem SB.below(h:SB B P N x u nb gs ps w0 k q V c A' c' W)(b:Below W W W'):SB B P N x u nb gs ps w0 k q V c A' c' W':=
 ⟨h.nb,h.gs,h.win.below b,h.Y.below b h.Y.lt,h.Z.below b h.Z.lt,λi hi=>(h.own i hi).below b lr,h.new.below b lr,h.ok,h.okn,h.far,h.rX,h.rest,h.bw.trans ((h.win.less (λ_ hp=>aT _ (aT _ hp))).lD b),h.pB,h.pP⟩
theorem SA.send(h:SA B P N x u nb gs ps w0 k q V c W)(hk:k<N):Calls Tryz.prog 67 #[↑(q.gp k,0)] W λe w'=>∃A' c' q',e=.returned (.slice A' (u.ms k).sent.length c')/\q'.gp=q.gp/\NAt (q'.F k) w' (q.gp k) (u.ms k).iL/\SB B P N x u nb gs ps w0 k q' V c A' c' w':=by
 have hn:=h.win.nd k hk;rw[u.vl k]at hn;refine(Mt hn).mono ?_;rintro _ w' ⟨v,F',rfl,ho,hn',he⟩;obtain⟨A',c',rfl,-⟩:=ho.sees.at_;have hY:=h.Y.lt;have hZ:=h.Z.lt;have nY:ps∉q.F k:=h.win.own k hk ps (.inr (.inr (.inr (by simp))));have nZ:ps+1∉q.F k:=h.win.own k hk (ps+1) (.inr (.inr (.inr (by simp))));have hw:=h.win.eff hk hn' he;rw[WM.zN]at hw;have hold:∀i,i<8->iJ w' (ps+2) (.slice (V i) (u.bsK k i).length (c i)) (u.bsK k i):=λi hi=>by
  have ho:=h.own i hi;by_cases e:i<k
  ·exact ho.same λb hb=>he.1.block b (ho.lt b hb).2 (h.far i e b hb k lr hk)
  ·obtain⟨e1,e2⟩:=h.rest i (by omega)
   rw[show u.bsK k i=[] by unfold WM.bsK;rw[ai e],e1,e2];exact bR
 refine⟨A',c',{q with F:=je q.F k F'},rfl,rfl,by show NAt (je q.F k F' k) w' (q.gp k) _;rw[j9];exact hn',⟨h.nb,h.gs,hw,(he.1.block _ hY nY).trans h.Y,(he.1.block _ hZ nZ).trans h.Z,hold,ho.base (by have:=hZ;omega),h.ok,RJ hn',λi hi b hb j hj hjN=>?_,λb hb j hj hjN=>?_,h.rest,h.bw.trans ((h.win.less (λ_ hp=>aT _ (aT _ hp))).qw hk he),h.pB,h.pP⟩⟩
 ·show b∉je q.F k F' j
  rw[kB _ _ _ (show j≠k by omega)];exact h.far i hi b hb j (by omega) hjN
 ·show b∉je q.F k F' j
  rw[kB _ _ _ (show j≠k by omega)];intro hm;have h1:=(ho.lt b hb).1;have h2:=(h.win.nd j hjN).lt b hm;omega
theorem SB.store(h:SB B P N x u nb gs ps w0 k q V c A' c' W)(hk:k<N)(hN:N<=8):SA B P N x u nb gs ps w0 (k+1) q (kX V k A') (kX c k c') ((W.setCell (ps,k) (.slice A' (u.ms k).sent.length c')).setCell (ps+1,k) ↑(u.ms k).iL.tm):=by
 have o1:Only ps W (W.setCell (ps,k) (.slice A' (u.ms k).sent.length c')):=(aE _ _).set k _;have o2:Only (ps+1) (W.setCell (ps,k) (.slice A' (u.ms k).sent.length c')) ((W.setCell (ps,k) (.slice A' (u.ms k).sent.length c')).setCell (ps+1,k) ↑(u.ms k).iL.tm):=(aE _ _).set k _;have Y1:=(h.Y.set k (.slice A' (u.ms k).sent.length c')).eq (zP V c (u.bsK k) k (by omega) A' c' (u.ms k).sent);rw[WM.rY]at Y1;have Y2:=Y1.other (ps+1,k) (by show ps≠ps+1;omega) ↑(u.ms k).iL.tm;have Z2:=((h.Z.other (ps,k) (by show ps+1≠ps;omega) (.slice A' (u.ms k).sent.length c')).set k ↑(u.ms k).iL.tm).eq (WM.zM u k (by omega));have kp:∀{v l},iJ W (ps+2) v l->iJ ((W.setCell (ps,k) (.slice A' (u.ms k).sent.length c')).setCell (ps+1,k) ↑(u.ms k).iL.tm) (ps+2) v l:=λho=>(ho.only o1 (by omega)).only o2 (by omega);have hz1:=o1.size;have hYl:=h.Y.lt;have hZl:=h.Z.lt;have e:∀i,u.bsK (k+1) i=if i=k then(u.ms k).sent else u.bsK k i:=λi=>by rw[<-WM.rY];rfl
 refine⟨h.nb,h.gs,(h.win.only (.inl (by simp)) o1).only (.inl (by simp)) o2,Y2,Z2,λi hi=>?_,λi hi=>?_,λi hi b hb=>?_,λi hi=>?_,?_,h.pB,h.pP⟩
 ·rw[e i]
  unfold kX;by_cases ei:i=k
  ·subst ei;simp only[dG];exact kp h.new
  ·simp only[ai ei];exact kp (h.own i hi)
 ·rw[e i]
  by_cases ei:i=k
  ·rw[au ei];exact h.okn
  ·rw[ai ei];exact h.ok i hi
 ·rw[e i]at hb
  unfold kX at hb;by_cases ei:i=k
  ·simp only[au ei]at hb
   exact h.rX b hb
  ·simp only[ai ei]at hb
   exact h.far i (by omega) b hb
 ·unfold kX
  rw[ai (by omega),ai (by omega)];exact h.rest i (by omega)
 ·have hP:∀r,r∈P->r<W.heap.size/\r≠ps/\r≠ps+1:=λr hr=>by
   obtain⟨h1,-⟩:=h.win.o r (by simp[hr]);refine⟨h1,λer=>?_,λer=>?_⟩
   ·have:=h.pP r hr;omega
   ·have:=h.pP r hr;omega
  exact h.bw.trans ((Bw.rR o1 h.pB hYl λr hr=>⟨(hP r hr).1,(hP r hr).2.1⟩).trans (Bw.rR o2 (by have:=h.pB;omega) (by omega) λr hr=>⟨aN (hP r hr).1 hz1,(hP r hr).2.2⟩))
end
end
section
open Go.RowKit
theorem WIn.boxes{B:Nat}{E:List Nat}{N:Nat}{q:WP}{W W':World}{x:Nat}{u u':WM}(h:WIn B E N q W x u)(h':WIn B E N q W' x u')(xs:List Nat)(hx:∀b,b∈xs->W.heap.size<=b/\b<W'.heap.size):WIn B (xs++E) N q W' x u':=by
 obtain⟨l1,l2,l3⟩:=h.lt;refine⟨h'.blk,h'.nlt,h'.ptr,h'.star,h'.nd,λi hi p hp=>?_,h'.dis,h'.ne,λp hp=>?_,h'.cap,h'.bas⟩
 ·rcases hp with e|e|e|hp
  ·exact h'.own i hi p (.inl e)
  ·exact h'.own i hi p (.inr (.inl e))
  ·exact h'.own i hi p (.inr (.inr (.inl e)))
  ·rcases bG.1 hp with e|hp
   ·exactλhm=>by
     have:=(h.nd i hi).lt p hm;have:=(hx p e).1;omega
   ·exact h'.own i hi p (.inr (.inr (.inr hp)))
 ·rcases bG.1 hp with e|hp
  ·obtain⟨e1,e2⟩:=hx p e
   exact⟨e2,by omega,by omega,by omega⟩
  ·exact h'.o p hp
def hdB(f:Nat->Hd):List Nat:=(List.range 8).flatMap λi=>(f i).X.ownBlock.toList++(f i).Y.ownBlock.toList
theorem oC{f:Nat->Hd}{b:Nat}:b∈hdB f↔∃i,i<8/\((f i).X.ownBlock=some b\/(f i).Y.ownBlock=some b):=by
 unfold hdB;simp only[fY,cA,bG,dO]
structure SC(N:Nat)(u:WM)(fl:List Ft)(f:Nat->Hd)(S:Nat)(W:World):Prop where
 eq:∀i,i<N->(f i).A=(u.hear N fl i).a/\(f i).B=(u.hear N fl i).b/\(f i).o=(u.hear N fl i).o
 own:∀i,i<N->iJ W S (f i).X (u.hear N fl i).x/\iJ W S (f i).Y (u.hear N fl i).y
 all:∀i,i<8->(∃l,iJ W S (f i).X l)/\∃l,iJ W S (f i).Y l
 n8:N<=8
theorem SC.forms{N:Nat}{u:WM}{fl:List Ft}{f:Nat->Hd}{S:Nat}{W:World}(h:SC N u fl f S W)(i:Nat)(hi:i<8):(∃A n c,(f i).X=.slice A n c)/\∃A n c,(f i).Y=.slice A n c:=by
 obtain⟨⟨l,h1⟩,l',h2⟩:=h.all i hi;obtain⟨A,c,e,-⟩:=h1.sees.at_;obtain⟨A',c',e',-⟩:=h2.sees.at_;exact⟨⟨A,_,c,e⟩,A',_,c',e'⟩
theorem SC.keep{N:Nat}{u:WM}{fl:List Ft}{f:Nat->Hd}{S:Nat}{W W':World}(h:SC N u fl f S W)(hb:∀b,b∈hdB f->W'.heap[b]?=W.heap[b]?):SC N u fl f S W':=by
 refine⟨h.eq,λi hi=>?_,λi hi=>?_,h.n8⟩
 ·have h8:i<8:=aN hi h.n8
  exact⟨(h.own i hi).1.same λb hb'=>hb b (oC.2 ⟨i,h8,.inl hb'⟩),(h.own i hi).2.same λb hb'=>hb b (oC.2 ⟨i,h8,.inr hb'⟩)⟩
 ·obtain⟨⟨l,h1⟩,l',h2⟩:=h.all i hi
  exact⟨⟨l,h1.same λb hb'=>hb b (oC.2 ⟨i,hi,.inl hb'⟩)⟩,l',h2.same λb hb'=>hb b (oC.2 ⟨i,hi,.inr hb'⟩)⟩
theorem FT{B:Nat}{E:List Nat}{N x:Nat}{u:WM}{fl:List Ft}{fv:Value}{q:WP}{W:World}{V:Nat->Option Addr}{c:Nat->Nat}(ok:WOk N u)(h:WIn B E N q W x (u.ko N))(hv:∀i,i<8->iI W W (.slice (V i) (u.bs N i).length (c i)) (u.bs N i))(hg:∀i,i<8->iK (u.bs N i)/\(u.bs N i).length<=16)
  (hsf:ju W W fv fl) (hf:jc fl=true) (hy:∀f∈fl,iK f.d):
  Calls Tryz.prog 69 #[↑(q.gs,0),s8 λi=>.slice (V i) (u.bs N i).length (c i),jK (u.at_ N),fv] W λe w'=>∃f,e=.returned (.tuple #[.agg (hdC f),↑(0:Int)])/\SC N u fl f W w'/\WIn B (hdB f++E) N q w' x (u.took N fl 0)/\Bw B E W w':=by
 obtain⟨n4,n8⟩:=ok.n4;have hb:∀j,j<N->iK (u.ms j).sent:=λj hj=>by
  have:=(hg j (by omega)).1;unfold WM.bs at this;rw[au hj]at this;exact this
 have hat:=λi=>WM.qA ok i;have hsaid:=WM.RO (fl:=fl) ok hb hf hy;have p0:(u.said N fl).c.p=-1\/∃j:Nat,(u.said N fl).c.p=j/\j<N:=Air.pG _ ok.s 0;have p1:(u.said N fl).d.p=-1\/∃j:Nat,(u.said N fl).d.p=j/\j<N:=Air.pG _ ok.t 1;have w0:=WM.yt (fl:=fl) hb hf hy p0;have w1:=WM.yt (fl:=fl) hb hf hy p1;have hS:=Qg q.gs N u.s u.t V c (u.bs N) (u.at_ N) fv fl _ _ _ _ (u.sd N fl) (u.said N fl) W h.star n8 (λi hi=>⟨hv i hi,(hg i hi).1⟩) (λi=>by have:=hat i;omega) hsf hf rfl rfl rfl rfl rfl hsaid p0 p1
  (λk hk=>Air.rZ _ _ _ k hk) (λk hk=>Air.rZ _ _ _ k hk)
  ok.s.sn (by rw[ok.s.sn];exact ok.s.slot) (by have:=ok.s.now;unfold time;omega) (by have:=ok.s.wi;omega) ok.t.sn (by rw[ok.t.sn];exact ok.t.slot) (by have:=ok.t.now;unfold time;omega) (by have:=ok.t.wi;omega)
  (by rw[w0];exact ok.s.ok n8 (WM.nI ok hf _)) (by rw[w1];exact ok.t.ok n8 (WM.nI ok hf _))
 rw[w0,w1]at hS;refine hS.mono ?_;rintro e w' ⟨f,rfl,hH,hG,hO⟩;have hgl:=h.star.lt;have hSC:SC N u fl f W w':=⟨λi hi=>by
   obtain⟨a1,a2,-,-,a5⟩:=FR ok hb hf hy hi (hH i (by omega));exact⟨a1,a2,a5⟩,λi hi=>by
   obtain⟨-,-,a3,a4,-⟩:=FR ok hb hf hy hi (hH i (by omega));exact⟨a3,a4⟩,λi hi=>⟨⟨_,(hH i hi).X⟩,_,(hH i hi).Y⟩,n8⟩
 have hw:WIn B E N q w' x (u.took N fl 0):=by
  have:=h.vg hO hG;rw[WM.qB];exact this
 refine⟨f,rfl,hSC,h.boxes hw (hdB f) λb hb'=>?_,Bw.rR hO h.bas.2.2.1 hgl λr hr=>⟨(h.o r hr).1,(h.o r hr).2.2.2⟩⟩;obtain⟨i,hi,hm⟩:=oC.1 hb';obtain⟨⟨l,o1⟩,l',o2⟩:=hSC.all i hi;rcases hm with hm|hm
 ·exact o1.lt b hm
 ·exact o2.lt b hm
structure TA(B:Nat)(P:List Nat)(N x:Nat)(u:WM)(fl:List Ft)(nb:Nat)(gp:Nat->Nat)(ph:Nat)(f:Nat->Hd)(S:Nat)(w0:World)(k:Nat)(E:List Nat)(q:WP)(W:World):Prop where
 nb:q.nb=nb
 gp:q.gp=gp
 win:WIn B E N q W x (u.took N fl k)
 phE:ph∈E
 xs:∀b,b∈hdB f->b∈E
 ps:∀p,p∈P->p∈E
 H:HAt W ph f
 sc:SC N u fl f S W
 bw:Bw B P w0 W
theorem TA.take{B:Nat}{P:List Nat}{N x:Nat}{u:WM}{fl:List Ft}{nb:Nat}{gp:Nat->Nat}{ph:Nat}{f:Nat->Hd}{S:Nat}{w0 W:World}{k:Nat}{E:List Nat}{q:WP}(h:TA B P N x u fl nb gp ph f S w0 k E q W)(ok:WOk N u)(hf:jc fl=true)(hk:k<N):
  Calls Tryz.prog 70 #[↑(gp k,0),.agg #[↑(f k).A,↑(f k).B,(f k).X,(f k).Y,↑(f k).o]] W λe w'=>∃q',e=.returned (.tuple #[])/\TA B P N x u fl nb gp ph f S w0 (k+1) E q' w':=by
 have hn:=h.win.nd k hk;rw[u.zR fl hk,h.gp]at hn;obtain⟨e1,e2,e3⟩:=h.sc.eq k hk;obtain⟨o1,o2⟩:=h.sc.own k hk;rw[e1,e2,e3];have hby:iK (u.hear N fl k).x/\iK (u.hear N fl k).y:=jy.zT _ _ _ _;have hof:-1099511627776<=(u.hear N fl k).o/\(u.hear N fl k).o<=1099511627776:=by
  have a1:=(u.said N fl).zU (u.air N fl) (u.at_ N k) k 10004000 (by decide) (λi=>WM.qC ok hf i) (by have:=WM.qA ok k;omega);unfold WM.hear;omega
 obtain⟨y1,y2⟩:=ok.ty k hk;have ytm:=ok.tm k hk;refine(oP.take (u.hear N fl k) hn o1.sees hby.1 o2.sees hby.2 y1 y2 (by omega) hof).mono ?_;rintro _ w' ⟨F',rfl,hn',he⟩;have hw:=h.win.eff hk (by rw[h.gp];exact hn') he;rw[WM.zW]at hw;have hold:∀b,b∈E->w'.heap[b]?=W.heap[b]?:=λb hb=>he.1.block b (h.win.o b hb).1 (h.win.own k hk b (.inr (.inr (.inr hb))));exact⟨{q with F:=je q.F k F'},rfl,h.nb,h.gp,hw,h.phE,h.xs,h.ps,h.H.same (hold _ h.phE),h.sc.keep λb hb=>hold b (h.xs b hb),h.bw.trans ((h.win.qw hk he).less h.ps)⟩
theorem Bw.lQ{B:Nat}{P:List Nat}{a b:World}(h:Below a a b)(hB:B<=a.heap.size)(hP:∀p,p∈P->p<a.heap.size):Bw B P a b:=Bw.of h hB hP
theorem Bw.RP{B:Nat}{P:List Nat}(a:World):Bw B P a a.drew:=⟨(ah _ _).drew,λ_ _=>rfl⟩
theorem Bw.box{B x:Nat}{P:List Nat}(a:World)(o:Obj)(h1:B<=x)(h2:x<a.heap.size)(hP:∀p,p∈P->p<a.heap.size):Bw B P a (a.alloc o).drew:=Bw.of (((ah a a).alloc lr o).drew) (by omega) hP
theorem TA.behind{B:Nat}{P E:List Nat}{N x:Nat}{u:WM}{fl:List Ft}{q:WP}{f:Nat->Hd}{S:Nat}{w0 w5:World}(hw:WIn B (hdB f++E) N q w5 x (u.took N fl 0))(sc:SC N u fl f S w5)(hP:∀p,p∈P->p∈E)(bw:Bw B P w0 w5):
  TA B P N x u fl q.nb q.gp w5 f S w0 0 (w5.heap.size::(hdB f++E)) q ((w5.alloc (.cells (hdC λ_=>hdz) 154)).setCells w5 0 (hdC f).toList):=by
 obtain⟨hH,hB⟩:=r9 w5 w5 rfl f 154;have hl:=hw.lt;have hbs:=hw.bas;refine⟨rfl,rfl,(hw.box (.cells (hdC λ_=>hdz) 154)).only (.inl (by simp)) (Only.setCells _ 0 (aE _ _)),by simp,λb hb=>by simp[hb],λp hp=>by simp[hP p hp],hH,sc.keep λb hb=>hB.block b (hw.o b (by simp[hb])).1,bw.trans (Bw.lQ hB (by omega) λp hp=>(hw.o p (by simp[hP p hp])).1)⟩
theorem TA.ahead{B:Nat}{P E:List Nat}{N x:Nat}{u:WM}{fl:List Ft}{q:WP}{f:Nat->Hd}{S ph:Nat}{w0 w5:World}(hw:WIn B (hdB f++E) N q w5 x (u.took N fl 0))(sc:SC N u fl f S w5)(hph:ph∈E)(hS:ph<S)(hP:∀p,p∈P->p∈E/\p≠ph)(hB:B<=ph)(bw:Bw B P w0 w5)(ht:w5.there ph 0 (hdC f).size):
  TA B P N x u fl q.nb q.gp ph f S w0 0 (hdB f++E) q (w5.setCells ph 0 (hdC f).toList):=by
 have o:Only ph w5 (w5.setCells ph 0 (hdC f).toList):=Only.setCells _ 0 (aE _ _);refine⟨rfl,rfl,hw.only (.inl (by simp[hph])) o,by simp[hph],λb hb=>by simp[hb],λp hp=>by simp[(hP p hp).1],cO _ _ _ _ (by rw[Array.length_toList];exact ht),sc.keep λb hb=>o.block b (hw.o b (by simp[hb])).1 (λe=>?_),bw.trans (Bw.rR o hB (hw.o ph (by simp[hph])).1 λr hr=>⟨(hw.o r (by simp[(hP r hr).1])).1,(hP r hr).2⟩)⟩
 cases e
 obtain⟨i,hi,hm⟩:=oC.1 hb;obtain⟨⟨l,o1⟩,l',o2⟩:=sc.all i hi;rcases hm with hm|hm
 ·have:=(o1.lt _ hm).1;omega
 ·have:=(o2.lt _ hm).1;omega
end
end Go.Proofs.YteadkhigkmijiaaGreat
