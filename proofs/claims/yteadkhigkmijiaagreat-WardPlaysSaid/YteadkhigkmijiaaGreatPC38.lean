/- Texts VdA, VdM, VdD, VdB in one. -/
import Derived.Test.YteadkhigkmijiaaGreatPC1
import Derived.Test.YteadkhigkmijiaaGreatPC23
import Derived.Test.YteadkhigkmijiaaGreatPC27
import Derived.Test.YteadkhigkmijiaaGreatPC30
import Derived.Test.YteadkhigkmijiaaGreatPC36
import Derived.Test.YteadkhigkmijiaaGreatPC37
set_option linter.all false
namespace Go.Proofs.YteadkhigkmijiaaGreat
section
open Go.RowKit
structure WM where
 ms:Nat->NM
 s:G
 t:G
 sl:Nat
def je{α:Type}(f:Nat->α)(k:Nat)(x:α)(i:Nat):α:=if i=k then x else f i
theorem j9{α:Type}(f:Nat->α)(k:Nat)(x:α):je f k x k=x:=au rfl
theorem kB{α:Type}(f:Nat->α)(k:Nat)(x:α){i:Nat}(h:i≠k):je f k x i=f i:=ai h
structure WP where
 nb:Nat
 gs:Nat
 cap:Nat
 gp:Nat->Nat
 F:Nat->List Nat
structure WIn(B:Nat)(P:List Nat)(N:Nat)(q:WP)(W:World)(x:Nat)(u:WM):Prop where
 blk:Blk W x #[.slice (some (q.nb,0)) N q.cap,↑(q.gs,0),↑(u.sl:Nat)] 62
 nlt:q.nb<W.heap.size
 ptr:∀i,i<N->W.cell? ⟨q.nb,i,none⟩=some ↑(q.gp i,0)
 star:jL W q.gs N u.s u.t
 nd:∀i,i<N->NAt (q.F i) W (q.gp i) (u.ms i)
 own:∀i,i<N->∀p,p=x\/p=q.nb\/p=q.gs\/p∈P->p∉q.F i
 dis:∀i j,i<N->j<N->i≠j->∀f,f∈q.F i->f∉q.F j
 ne:x≠q.nb/\x≠q.gs/\q.nb≠q.gs
 o:∀p,p∈P->p<W.heap.size/\p≠x/\p≠q.nb/\p≠q.gs
 cap:N<=q.cap
 bas:B<=x/\B<=q.nb/\B<=q.gs/\∀i,i<N->∀f,f∈q.F i->B<=f
section
variable {B:Nat}{P:List Nat}{N:Nat}{q:WP}{W W':World}{x:Nat}{u:WM}
theorem WIn.lt(h:WIn B P N q W x u):x<W.heap.size/\q.nb<W.heap.size/\q.gs<W.heap.size:=⟨h.blk.lt,h.nlt,h.star.lt⟩
theorem nG{W W':World}{b o:Nat}(h:W'.heap[b]?=W.heap[b]?):W'.cell? (b,o)=W.cell? (b,o):=by simp only[World.cell?,h]
theorem WIn.keep(h:WIn B P N q W x u)(hs:W.heap.size<=W'.heap.size)(hb:∀b,b<W.heap.size->(b=x\/b=q.nb\/b=q.gs\/∃i,i<N/\b∈q.F i)->W'.heap[b]?=W.heap[b]?):WIn B P N q W' x u:=by
 obtain⟨l1,l2,l3⟩:=h.lt;refine⟨(hb x l1 (.inl rfl)).trans h.blk,aN h.nlt hs,λi hi=>(nG (hb _ l2 (.inr (.inl rfl)))).trans (h.ptr i hi),⟨(hb _ l3 (.inr (.inr (.inl rfl)))).trans h.star.1,h.star.2⟩,λi hi=>(h.nd i hi).keep hs λf hf=>hb f ((h.nd i hi).lt f hf) (.inr (.inr (.inr ⟨i,hi,hf⟩))),h.own,h.dis,h.ne,λp hp=>?_,h.cap,h.bas⟩;obtain⟨a,b⟩:=h.o p hp;exact⟨aN a hs,b⟩
theorem WIn.below(h:WIn B P N q W x u)(b:Below W W W'):WIn B P N q W' x u:=h.keep b.size λk hk _=>b.block k hk
theorem WIn.only(h:WIn B P N q W x u){p:Nat}(hp:p∈P\/W.heap.size<=p)(o:Only p W W'):WIn B P N q W' x u:=by
 refine h.keep o.size λk hk hw=>o.block k hk λe=>?_
 cases e
 rcases hp with hp|hp
 ·obtain⟨-,b1,b2,b3⟩:=h.o p hp
  rcases hw with e|e|e|⟨i,hi,hm⟩
  ·exact b1 e
  ·exact b2 e
  ·exact b3 e
  ·exact h.own i hi p (.inr (.inr (.inr hp))) hm
 ·omega
theorem WIn.box(h:WIn B P N q W x u)(o:Obj):WIn B (W.heap.size::P) N q (W.alloc o) x u:=by
 obtain⟨l1,l2,l3⟩:=h.lt;have h':=h.below ((ah W W).alloc lr o);refine⟨h'.blk,h'.nlt,h'.ptr,h'.star,h'.nd,λi hi p hp=>?_,h.dis,h.ne,λp hp=>?_,h.cap,h.bas⟩
 ·rcases hp with e|e|e|hp
  ·exact h.own i hi p (.inl e)
  ·exact h.own i hi p (.inr (.inl e))
  ·exact h.own i hi p (.inr (.inr (.inl e)))
  ·rcases bq.1 hp with e|hp
   ·subst e;exactλhm=>absurd ((h.nd i hi).lt _ hm) (fD _)
   ·exact h.own i hi p (.inr (.inr (.inr hp)))
 ·rcases bq.1 hp with e|hp
  ·subst e;exact⟨by simp,by omega,by omega,by omega⟩
  ·exact h'.o p hp
theorem WIn.less{P':List Nat}(h:WIn B P N q W x u)(hP:∀p,p∈P'->p∈P):WIn B P' N q W x u:=
 ⟨h.blk,h.nlt,h.ptr,h.star,h.nd,λi hi p hp=>h.own i hi p (by
  rcases hp with e|e|e|hp
  ·exact .inl e
  ·exact .inr (.inl e)
  ·exact .inr (.inr (.inl e))
  ·exact .inr (.inr (.inr (hP p hp)))),h.dis,h.ne,λp hp=>h.o p (hP p hp),h.cap,h.bas⟩
theorem WIn.foreign{D P':List Nat}(h:WIn B P N q W x u)(k:Kq D W W')(hD:∀p,p∈D->p∈P)(hP:∀p,p∈P'->p<W'.heap.size/\(p∈P\/W.heap.size<=p)):WIn B P' N q W' x u:=by
 obtain⟨l1,l2,l3⟩:=h.lt;have h':=h.keep k.size λb hb hw=>k.block b hb λhm=>by
  obtain⟨-,b1,b2,b3⟩:=h.o b (hD b hm);rcases hw with e|e|e|⟨i,hi,hf⟩
  ·exact b1 e
  ·exact b2 e
  ·exact b3 e
  ·exact h.own i hi b (.inr (.inr (.inr (hD b hm)))) hf
 refine⟨h'.blk,h'.nlt,h'.ptr,h'.star,h'.nd,λi hi p hp=>?_,h.dis,h.ne,λp hp=>?_,h.cap,h.bas⟩
 ·rcases hp with e|e|e|hp
  ·exact h.own i hi p (.inl e)
  ·exact h.own i hi p (.inr (.inl e))
  ·exact h.own i hi p (.inr (.inr (.inl e)))
  ·rcases(hP p hp).2 with hq|hq
   ·exact h.own i hi p (.inr (.inr (.inr hq)))
   ·exactλhm=>by have:=(h.nd i hi).lt p hm;omega
 ·obtain⟨a,hq⟩:=hP p hp
  rcases hq with hq|hq
  ·exact⟨a,(h.o p hq).2⟩
  ·exact⟨a,by omega,by omega,by omega⟩
theorem WIn.eff(h:WIn B P N q W x u){i:Nat}(hi:i<N){F':List Nat}{m':NM}(hn:NAt F' W' (q.gp i) m')(e:Eff (q.F i) F' W W'):WIn B P N {q with F:=je q.F i F'} W' x {u with ms:=je u.ms i m'}:=by
 obtain⟨l1,l2,l3⟩:=h.lt;have hsz:=e.1.size;have old:∀b,b<W.heap.size->b∉q.F i->W'.heap[b]?=W.heap[b]?:=λb hb hn=>e.1.block b hb hn;have fresh:∀p,p<W.heap.size->p∉q.F i->p∉F':=λp hp hn hm=>by
  rcases e.2 p hm with h1|h1
  ·exact hn h1
  ·omega
 refine⟨(old x l1 (h.own i hi x (.inl rfl))).trans h.blk,aN h.nlt hsz,λj hj=>(nG (old _ l2 (h.own i hi _ (.inr (.inl rfl))))).trans (h.ptr j hj),⟨(old _ l3 (h.own i hi _ (.inr (.inr (.inl rfl))))).trans h.star.1,h.star.2⟩,λj hj=>?_,λj hj p hp=>?_,λj k hj hk hne f hf=>?_,h.ne,λp hp=>?_,h.cap,h.bas.1,h.bas.2.1,h.bas.2.2.1,λj hj f hf=>?_⟩
 ·by_cases ej:j=i
  ·subst ej;simp only[j9];exact hn
  ·simp only[kB _ _ _ ej]
   exact(h.nd j hj).keep hsz λf hf=>old f ((h.nd j hj).lt f hf) (h.dis j i hj hi ej f hf)
 ·by_cases ej:j=i
  ·subst ej
   simp only[j9];have hp':p<W.heap.size:=by
    rcases hp with e|e|e|hp
    ·rw[e];exact l1
    ·rw[e];exact l2
    ·rw[e];exact l3
    ·exact(h.o p hp).1
   exact fresh p hp' (h.own j hj p hp)
  ·simp only[kB _ _ _ ej];exact h.own j hj p hp
 ·by_cases ej:j=i
  ·subst ej
   simp only[j9]at hf;simp only[kB _ _ _ (show k≠j from λe=>hne e.symm)];intro hk';rcases e.2 f hf with h1|h1
   ·exact h.dis j k hj hk hne f h1 hk'
   ·have:=(h.nd k hk).lt f hk';omega
  ·simp only[kB _ _ _ ej]at hf
   by_cases ek:k=i
   ·subst ek
    simp only[j9];exact fresh f ((h.nd j hj).lt f hf) (h.dis j k hj hk hne f hf)
   ·simp only[kB _ _ _ ek];exact h.dis j k hj hk hne f hf
 ·obtain⟨a,b⟩:=h.o p hp
  exact⟨aN a hsz,b⟩
 ·by_cases ej:j=i
  ·subst ej
   simp only[j9]at hf;rcases e.2 f hf with h1|h1
   ·exact h.bas.2.2.2 j hj f h1
   ·have:=h.bas.1;omega
  ·simp only[kB _ _ _ ej]at hf;exact h.bas.2.2.2 j hj f hf
theorem WIn.vg(h:WIn B P N q W x u){s' t':G}(o:Only q.gs W W')(hs:jL W' q.gs N s' t'):WIn B P N q W' x {u with s:=s',t:=t'}:=by
 obtain⟨l1,l2,l3⟩:=h.lt;have old:∀b,b<W.heap.size->b≠q.gs->W'.heap[b]?=W.heap[b]?:=λb hb hn=>o.block b hb (by intro e;cases e;exact hn rfl);refine⟨(old x l1 h.ne.2.1).trans h.blk,aN h.nlt o.size,λj hj=>(nG (old _ l2 h.ne.2.2)).trans (h.ptr j hj),hs,λj hj=>(h.nd j hj).keep o.size λf hf=>old f ((h.nd j hj).lt f hf) (λe=>h.own j hj _ (.inr (.inr (.inl rfl))) (e▸hf)),h.own,h.dis,h.ne,λp hp=>?_,h.cap,h.bas⟩;obtain⟨a,b⟩:=h.o p hp;exact⟨aN a o.size,b⟩
theorem WIn.slots(h:WIn B P N q W x u)(k:Nat):WIn B P N q (W.setCell (x,2) ↑(k:Nat)) x {u with sl:=k}:=by
 have o:Only x W (W.setCell (x,2) ↑(k:Nat)):=(aE x W).set 2 _;obtain⟨l1,l2,l3⟩:=h.lt;have old:∀b,b<W.heap.size->b≠x->(W.setCell (x,2) ↑(k:Nat)).heap[b]?=W.heap[b]?:=λb hb hn=>o.block b hb (by intro e;cases e;exact hn rfl);refine⟨(h.blk.set 2 _).eq (by simp),aN h.nlt o.size,λj hj=>(nG (old _ l2 h.ne.1.symm)).trans (h.ptr j hj),⟨(old _ l3 h.ne.2.1.symm).trans h.star.1,h.star.2⟩,λj hj=>(h.nd j hj).keep o.size λf hf=>old f ((h.nd j hj).lt f hf) (λe=>h.own j hj _ (.inl rfl) (e▸hf)),h.own,h.dis,h.ne,λp hp=>?_,h.cap,h.bas⟩;obtain⟨a,b⟩:=h.o p hp;exact⟨aN a o.size,b⟩
end
def WAt(B:Nat)(P:List Nat)(N:Nat)(W:World)(x:Nat)(u:WM):Prop:=∃q,WIn B P N q W x u
section
variable {B:Nat}{P:List Nat}{N:Nat}{W W':World}{x:Nat}{u:WM}
theorem WAt.below(h:WAt B P N W x u)(b:Below W W W'):WAt B P N W' x u:=by obtain⟨q,h⟩:=h;exact⟨q,h.below b⟩
theorem WAt.box(h:WAt B P N W x u)(o:Obj):WAt B (W.heap.size::P) N (W.alloc o) x u:=by obtain⟨q,h⟩:=h;exact⟨q,h.box o⟩
theorem WAt.foreign{D P':List Nat}(h:WAt B P N W x u)(k:Kq D W W')(hD:∀p,p∈D->p∈P)(hP:∀p,p∈P'->p<W'.heap.size/\(p∈P\/W.heap.size<=p)):WAt B P' N W' x u:=by obtain⟨q,h⟩:=h;exact⟨q,h.foreign k hD hP⟩
theorem WAt.less{P':List Nat}(h:WAt B P N W x u)(hP:∀p,p∈P'->p∈P):WAt B P' N W x u:=by obtain⟨q,h⟩:=h;exact⟨q,h.less hP⟩
end
theorem iJ.same{W W':World}{B:Nat}{v:Value}{l:List Int}(h:iJ W B v l)(hb:∀b,v.ownBlock=some b->W'.heap[b]?=W.heap[b]?):iJ W' B v l:=by
 refine⟨h.1,?_⟩;rcases h.2 with hn|⟨g,cap,cur,rfl,hB,hg,rest⟩
 ·exact .inl hn
 ·exact .inr ⟨g,cap,cur,rfl,hB,(hb g rfl).trans hg,rest⟩
end
section
open Go.RowKit
open Fr (St F)
theorem R9{b:Bool}{G:Nat->Prop}{W:World}{g:Nat}{s:NM}(h:NA b G W g s.iL)(hj:NJ s.iL):iK s.sent/\s.sent.length<=16:=by
 unfold NM.sent;by_cases e:s.jB=0
 ·rw[au e];exact⟨λx hx=>(by cases hx),by simp⟩
 ·rw[ai e]
  have hk:1<=s.jB/\s.jB<=3:=by
   unfold NM.jB at e ⊢
   repeat' split
   all_goals simp_all
  have hn8:=hj.may.n8;have his:(s.iL.frm s.jB).is=true:=by
   rw[F.l9];exact⟨hk,qW hj.rd (by have:=hj.sl;omega) h.tyo,hj.da.1⟩
  refine⟨F.pK his hj.da.2,?_⟩;rw[F.qJ];have h1:(s.iL.frm s.jB).hl<=6:=by unfold F.hl;split<;>omega
  have h2:(s.iL.frm s.jB).d.length<=8:=hj.da.1;omega
theorem RJ{F:List Nat}{W:World}{g:Nat}{s:NM}(h:NAt F W g s.iL):iK s.sent/\s.sent.length<=16:=by
 obtain⟨b,ha,hi⟩:=h.a;exact R9 ha hi.j
namespace WM
def bs(u:WM)(N i:Nat):List Int:=if i<N then(u.ms i).sent else []
def at_(u:WM)(N i:Nat):Int:=if i<N then(u.ms i).iL.tm else 0
def air(u:WM)(N:Nat)(fl:List Ft):Air:=fl.foldl (λx f=>x.fault f) (Air.start (u.bs N) (u.at_ N))
def said(u:WM)(N:Nat)(fl:List Ft):jy:=⟨(u.air N fl).ch N u.s 0,(u.air N fl).ch N u.t 1⟩
def hear(u:WM)(N:Nat)(fl:List Ft)(i:Nat):Hn:=(u.said N fl).hear (u.air N fl) (u.at_ N i) i
def slot(u:WM)(N:Nat)(fl:List Ft):WM:=⟨λi=>if i<N then(u.ms i).iL.take (u.hear N fl i)else u.ms i,u.s.ended (tl (u.said N fl).n (u.said N fl).c.q) ((u.air N fl).jq (u.said N fl).c.p),u.t.ended (tl (u.said N fl).n (u.said N fl).d.q) ((u.air N fl).jq (u.said N fl).d.p),u.sl+1⟩
end WM
structure GOk(N:Nat)(s:G):Prop where
 sn:s.n=N
 now:-10000000<=s.now/\s.now<=10000000
 slot:s.slot<N
 small:small s.l
 lm:0<=s.lm/\s.lm<=1000
 wi:0<=s.wi/\s.wi<=1000
 si:s.si<=1000
 si2:s.kn=true->s.si<2*s.n
structure WOk(N:Nat)(u:WM):Prop where
 n4:4<=N/\N<=8
 tm:∀i,i<N->-10000000<=(u.ms i).iL.tm/\(u.ms i).iL.tm<=10000000
 ty:∀i,i<N->(u.ms i).iL.ty.a<900/\(u.ms i).iL.ty.f<900
 s:GOk N u.s
 t:GOk N u.t
theorem WM.qA{N:Nat}{u:WM}(h:WOk N u)(i:Nat):-10000000<=u.at_ N i/\u.at_ N i<=10000000:=by
 unfold WM.at_
 split
 ·exact h.tm i (by assumption)
 ·omega
theorem sY{fl:List Ft}(h:jc fl=true):fl.length<=4/\∀f∈fl,f.may=true:=by
 unfold jc at h;simp only[bg,bC,List.all_eq_true]at h;exact h
theorem BG{fl:List Ft}(h:jc fl=true):∀f∈fl,-1000<=f.a/\f.a<=1000:=λf hf=>by
 have hm:=(sY h).2 f hf;unfold Ft.may at hm;rw[nu]at hm;omega
theorem Sb{fl:List Ft}(h:jc fl=true):∀f∈fl,f.d.length<=24:=λf hf=>by
 have hm:=(sY h).2 f hf;unfold Ft.may at hm;rw[nu]at hm;omega
section
variable {N:Nat}{u:WM}{fl:List Ft}
theorem WM.qC(h:WOk N u)(hf:jc fl=true)(i:Nat):-10004000<=((u.air N fl).s i).at_/\((u.air N fl).s i).at_<=10004000:=by
 have h1:=Air.vQ fl (Air.start (u.bs N) (u.at_ N)) i (BG hf);have h2:=WM.qA h i;have h3:=(sY hf).1;have e:((Air.start (u.bs N) (u.at_ N)).s i).at_=u.at_ N i:=rfl;rw[e]at h1;unfold WM.air;omega
theorem WM.nI(h:WOk N u)(hf:jc fl=true)(p:Int):-10004000<=(u.air N fl).jq p/\(u.air N fl).jq p<=10004000:=
 (u.air N fl).nI p 10004000 (by decide) λi=>WM.qC h hf i
theorem GOk.ok{s:G}{a:Int}(h:GOk N s)(h8:N<=8)(ha:-10004000<=a/\a<=10004000):s.Ok a:=by
 refine⟨by rw[h.sn];exact h8,by rw[h.sn];exact h.slot,h.small,?_,?_,?_,h.si⟩
 ·have:=h.lm;omega
 ·have:=h.now;omega
 ·have:=h.now;omega
theorem Air.pG(x:Air){s:G}(h:GOk N s)(c:Nat):(x.ch N s c).p=-1\/∃j:Nat,(x.ch N s c).p=j/\j<N:=by
 refine Pp ?_ ?_
 ·exact(qd (x.jR N) N).imp id λ⟨j,e,hj,_⟩=>⟨j,e,hj⟩
 ·have:=qc s (x.jR N) (λi=>(x.s i).at_) (by rw[h.sn];exact h.slot)
  rw[h.sn]at this;exact this.imp id λ⟨j,e,hj,_⟩=>⟨j,e,hj⟩
theorem Air.rZ(x:Air)(s:G)(c k:Nat)(hk:(x.ch N s c).n<=k):(x.ch N s c).q k=0:=by
 unfold Air.ch at hk ⊢;exact Air.Pq x N _ _ _ _ k hk
theorem Sc(h:∀i,i<N->iK (u.ms i).sent)(i:Nat):iK (u.bs N i):=by
 unfold WM.bs
 split
 ·exact h i (by assumption)
 ·exactλ_ hx=>by cases hx
def WM.sd(u:WM)(N:Nat)(fl:List Ft):List Sd:=strikes fl ((List.range N).map (sd0 (u.bs N) (u.at_ N)))
theorem WM.pu(u:WM)(N:Nat)(fl:List Ft):(u.sd N fl).length=N:=by
 unfold WM.sd;rw[xS,dQ,dW]
theorem WM.uO(hb:∀i,i<N->iK (u.ms i).sent)(hf:jc fl=true)(hy:∀f∈fl,iK f.d):jU (u.sd N fl) (u.air N fl):=by
 unfold WM.sd strikes WM.air;have h:=jU.strikes (fl:=fl) (jU.start N (u.bs N) (u.at_ N)) (Air.Ok.start (u.at_ N) λi=>Sc hb i) λf hf'=>⟨hy f hf',Sb hf f hf'⟩;exact h.1
theorem WM.Sg(hb:∀i,i<N->iK (u.ms i).sent)(hf:jc fl=true)(hy:∀f∈fl,iK f.d)(i:Nat):sF (u.sd N fl) i=(u.air N fl).jR N i:=by
 unfold Air.jR;by_cases h:i<N
 ·rw[av h,cK,(WM.uO hb hf hy).sF_ i (by rw[WM.pu];exact h)]
 ·rw[aj h,dD]
  unfold sF;rw[aY (by rw[WM.pu];omega)]
theorem Si{f:Nat->Bool}{n m:Nat}(h:∀i,n<=i->f i=false)(hm:n<=m):fst f m=fst f n:=by
 induction m with
 |zero=>rw[show n=0 by omega]
 |succ m ih=>
  by_cases e:n=m+1
  ·rw[e]
  ·rw[q9,ih (by omega),h m (by omega)]
   rcases qd f n with e|⟨j,e,-⟩
   ·rw[e,au (by decide),ai (by decide)]
   ·rw[e,ai (by omega)]
theorem WM.RO(h:WOk N u)(hb:∀i,i<N->iK (u.ms i).sent)(hf:jc fl=true)(hy:∀f∈fl,iK f.d):
  l6 (u.sd N fl) (fst (sF (u.sd N fl)) 8) (u.s.pass (sF (u.sd N fl)) (sA (u.sd N fl))) (u.t.pass (sF (u.sd N fl)) (sA (u.sd N fl))) (fl.any (blocks · 0)) (fl.any (blocks · 1)) (fl.any (leaks · 0)) (fl.any (leaks · 1))=u.said N fl:=by
 have hs:=WM.uO (N:=N) hb hf hy;have e1:sF (u.sd N fl)=(u.air N fl).jR N:=funext λi=>WM.Sg hb hf hy i;have e2:fst ((u.air N fl).jR N) 8=fst ((u.air N fl).jR N) N:=Si (λi hi=>by unfold Air.jR;rw[aj (by omega),dD]) h.n4.2;have hp:∀s:G,GOk N s->s.pass ((u.air N fl).jR N) (sA (u.sd N fl))=s.pass ((u.air N fl).jR N) (λi=>((u.air N fl).s i).at_):=λs hg=>
  PX (by rw[hg.sn];exact hg.slot) (λ_ _=>rfl) (hs.sA_ _ (by rw[WM.pu];exact hg.slot))
 have b0:∀i:Nat,fl.any (blocks · i)=(u.air N fl).bl i:=λi=>by
  unfold WM.air;rw[Air.Pk];show _=(false||_);rw[Bool.false_or]
  rfl
 have b1:∀i:Nat,fl.any (leaks · i)=(u.air N fl).lk i:=λi=>by
  unfold WM.air;rw[Air.Pm];show _=(false||_);rw[Bool.false_or]
  rfl
 have hr:∀s:G,GOk N s->s.pass ((u.air N fl).jR N) (λi=>((u.air N fl).s i).at_)<0\/(s.pass ((u.air N fl).jR N) (λi=>((u.air N fl).s i).at_)).toNat<(u.sd N fl).length:=λs hg=>by
  rw[WM.pu];rcases qc s ((u.air N fl).jR N) (λi=>((u.air N fl).s i).at_) (by rw[hg.sn];exact hg.slot)with e|⟨j,e,hj,-⟩
  ·rw[e];exact .inl (by decide)
  ·rw[e,aQ,<-hg.sn];exact .inr hj
 rw[e1,e2,hp _ h.s,hp _ h.t,b0 0,b0 1,b1 0,b1 1,hs.Po _ _ _ (hr _ h.s) (hr _ h.t),WM.pu]
 rfl
theorem WM.yt(hb:∀i,i<N->iK (u.ms i).sent)(hf:jc fl=true)(hy:∀f∈fl,iK f.d){p:Int}(hp:p=-1\/∃j:Nat,p=j/\j<N):jG (u.sd N fl) p=(u.air N fl).jq p:=
 (WM.uO hb hf hy).jq p (hp.imp (λe=>by rw[e];decide) λ⟨j,e,hj⟩=>by rw[e,aQ,WM.pu];exact hj)
end
end
section
open Go.RowKit
def WM.ko(u:WM)(k:Nat):WM:={u with ms:=λi=>if i<k then(u.ms i).iL else u.ms i}
def WM.bsK(u:WM)(k i:Nat):List Int:=if i<k then(u.ms i).sent else []
def WM.atK(u:WM)(k i:Nat):Int:=if i<k then(u.ms i).iL.tm else 0
theorem WM.alike{a b:WM}(h1:∀i,a.ms i=b.ms i)(h2:a.s=b.s)(h2':a.t=b.t)(h3:a.sl=b.sl):a=b:=by
 obtain⟨m,s,t,l⟩:=a;obtain⟨m',s',t',l'⟩:=b;obtain rfl:m=m':=funext h1;obtain rfl:s=s':=h2;obtain rfl:t=t':=h2';obtain rfl:l=l':=h3
 rfl
theorem WM.zZ(u:WM):u.ko 0=u:=by unfold WM.ko;simp
theorem WM.vl(u:WM)(k:Nat):(u.ko k).ms k=u.ms k:=by unfold WM.ko;simp
theorem WM.zN(u:WM)(k:Nat):({u.ko k with ms:=je (u.ko k).ms k (u.ms k).iL}:WM)=u.ko (k+1):=by
 refine WM.alike (λi=>?_) rfl rfl rfl;show je (λi=>if i<k then(u.ms i).iL else u.ms i) k (u.ms k).iL i=if i<k+1 then(u.ms i).iL else u.ms i;unfold je;by_cases e:i=k
 ·subst e;simp
 ·rw[ai e]
  show(if i<k then(u.ms i).iL else u.ms i)=if i<k+1 then(u.ms i).iL else u.ms i;by_cases h:i<k
  ·rw[au h,au (by omega)]
  ·rw[ai h,ai (by omega)]
theorem WM.rY(u:WM)(k:Nat):kX (u.bsK k) k (u.ms k).sent=u.bsK (k+1):=by
 funext i
 unfold kX WM.bsK;by_cases e:i=k
 ·subst e;simp
 ·rw[ai e]
  by_cases h:i<k
  ·rw[au h,au (by omega)]
  ·rw[ai h,ai (by omega)]
theorem WM.zM(u:WM)(k:Nat)(hk:k<8):(i8 (u.atK k)).setIfInBounds k (.int .i64 (u.ms k).iL.tm)=i8 (u.atK (k+1)):=by
 have e:∀i,u.atK (k+1) i=if i=k then(u.ms k).iL.tm else u.atK k i:=λi=>by
  unfold WM.atK;by_cases e:i=k
  ·subst e;simp
  ·rw[ai e]
   by_cases h:i<k
   ·rw[au h,au (by omega)]
   ·rw[ai h,ai (by omega)]
 rw[show u.atK (k+1)=λi=>if i=k then(u.ms k).iL.tm else u.atK k i from funext e];rcases(by omega:k=0\/k=1\/k=2\/k=3\/k=4\/k=5\/k=6\/k=7)with rfl|rfl|rfl|rfl|rfl|rfl|rfl|rfl<;>simp[i8]
def WM.took(u:WM)(N:Nat)(fl:List Ft)(k:Nat):WM:=⟨λi=>if i<k then(u.ms i).iL.take (u.hear N fl i)else(u.ko N).ms i,(u.slot N fl).s,(u.slot N fl).t,u.sl⟩
theorem WM.qB(u:WM)(N:Nat)(fl:List Ft):u.took N fl 0=⟨(u.ko N).ms,(u.slot N fl).s,(u.slot N fl).t,u.sl⟩:=by unfold WM.took;simp
theorem WM.zR(u:WM)(fl:List Ft){N k:Nat}(hk:k<N):(u.took N fl k).ms k=(u.ms k).iL:=by unfold WM.took WM.ko;simp[hk]
theorem WM.zW(u:WM)(N:Nat)(fl:List Ft)(k:Nat):({u.took N fl k with ms:=je (u.took N fl k).ms k ((u.ms k).iL.take (u.hear N fl k))}:WM)=u.took N fl (k+1):=by
 refine WM.alike (λi=>?_) rfl rfl rfl;show je (λi=>if i<k then(u.ms i).iL.take (u.hear N fl i)else(u.ko N).ms i) k ((u.ms k).iL.take (u.hear N fl k)) i=if i<k+1 then(u.ms i).iL.take (u.hear N fl i)else(u.ko N).ms i;unfold je;by_cases e:i=k
 ·subst e;simp
 ·rw[ai e]
  show(if i<k then(u.ms i).iL.take (u.hear N fl i)else(u.ko N).ms i)=if i<k+1 then(u.ms i).iL.take (u.hear N fl i)else(u.ko N).ms i;by_cases h:i<k
  ·rw[au h,au (by omega)]
  ·rw[ai h,ai (by omega)]
theorem WM.zX(u:WM)(N:Nat)(fl:List Ft):({u.took N fl N with sl:=u.sl+1}:WM)=u.slot N fl:=by
 refine WM.alike (λi=>?_) rfl rfl rfl;show(if i<N then(u.ms i).iL.take (u.hear N fl i)else if i<N then(u.ms i).iL else u.ms i)=if i<N then(u.ms i).iL.take (u.hear N fl i)else u.ms i;by_cases h:i<N
 ·simp[h]
 ·simp[h]
theorem WM.Ae(u:WM)(N:Nat):u.bsK N=u.bs N:=rfl
theorem WM.Ag(u:WM)(N:Nat):u.atK N=u.at_ N:=rfl
theorem WM.xP{N:Nat}{u:WM}{fl:List Ft}(ok:WOk N u):(u.said N fl).who=-1\/∃j:Nat,(u.said N fl).who=j/\j<N:=by
 unfold jy.who
 split
 ·exact Air.pG _ ok.t 1
 ·exact Air.pG _ ok.s 0
theorem FR{W:World}{Bs N i:Nat}{u:WM}{fl:List Ft}{h:Hd}(ok:WOk N u)(hb:∀j,j<N->iK (u.ms j).sent)(hf:jc fl=true)(hy:∀f∈fl,iK f.d)(hi:i<N)(H:jH W Bs (u.sd N fl) (u.said N fl).n (u.said N fl).c.q (u.said N fl).d.q (u.said N fl).who (u.at_ N) i h):
  h.A=(u.hear N fl i).a/\h.B=(u.hear N fl i).b/\iJ W Bs h.X (u.hear N fl i).x/\iJ W Bs h.Y (u.hear N fl i).y/\h.o=(u.hear N fl i).o:=by
 have hl:i<(u.sd N fl).length:=by rw[WM.pu];exact hi
 have hd:((u.sd N fl)[i]?.map Sd.df≠some true)↔¬(((u.air N fl).s i).df=true):=by
  have h1:=(WM.uO (N:=N) hb hf hy).mD_ i hl;unfold mD at h1;rw[<-h1,aP hl];simp
 obtain⟨h1,h2,h3,h4,h5⟩:=H;unfold WM.hear jy.hear;simp only;have ho:h.o=if(u.said N fl).who<0 then 0 else(u.air N fl).jq (u.said N fl).who-u.at_ N i:=by
  rw[h5];by_cases e:(u.said N fl).who<0
  ·rw[ai (λh=>by omega),au e]
  ·rw[au ⟨hl,by omega⟩,ai e,WM.yt hb hf hy (WM.xP ok)]
 by_cases e:((u.air N fl).s i).df=true
 ·have hn:¬(i<(u.sd N fl).length/\((u.sd N fl)[i]?.map Sd.df)≠some true):=λh=>(hd.1 h.2) e
  rw[ai hn]at h1 h2 h3 h4;rw[au e,au e,au e,au e];exact⟨h1,h2,h3,h4,ho⟩
 ·have hn:(i<(u.sd N fl).length/\((u.sd N fl)[i]?.map Sd.df)≠some true):=⟨hl,hd.2 e⟩
  rw[au hn]at h1 h2 h3 h4;rw[ai e,ai e,ai e,ai e];exact⟨h1,h2,h3,h4,ho⟩
end
section
set_option maxRecDepth 100000
set_option maxHeartbeats 1000000
open Go.RowKit
section
variable {B:Nat}{P:List Nat}{N:Nat}{q:WP}{W:World}{x:Nat}{u:WM}
theorem yp(h:WIn B P N q W x u):Calls Tryz.prog 39 #[↑(x,0)] W λe w'=>e=.returned ↑(N:Nat)/\w'=W:=by
 have x0:=h.blk.cell 0 (x:=.slice (some (q.nb,0)) N q.cap) rfl
 go_enter Tryz.func39,Tryz.ntmps39
 go_wp2;go_ret;exact⟨rfl,rfl⟩
theorem Ry(h:WIn B P N q W x u):Calls Tryz.prog 40 #[↑(x,0)] W λe w'=>e=.returned ↑(u.sl:Nat)/\w'=W:=by
 have x2:=h.blk.cell 2 (x:=↑(u.sl:Nat)) rfl
 go_enter Tryz.func40,Tryz.ntmps40
 go_wp2;go_ret;exact⟨rfl,rfl⟩
theorem mG(h:WIn B P N q W x u)(i:Nat)(hi:i<N):Calls Tryz.prog 29 #[↑(x,0),↑(i:Nat)] W λe w'=>e=.returned ↑(q.gp i,0)/\w'=W:=by
 have x0:=h.blk.cell 0 (x:=.slice (some (q.nb,0)) N q.cap) rfl;have p0:=h.ptr i hi;have hn:=af (yp h);have q1:decide (((i:Nat):Int)<0)=false:=aj (by omega);have q2:decide (((N:Nat):Int)<=((i:Nat):Int))=false:=aj (by omega);clear h
 go_enter Tryz.func29,Tryz.ntmps29
 go_wp2_with fail;refine hn.o.mono ?_;rintro _ _ ⟨rfl,rfl⟩;go_wp2;go_ret;exact⟨rfl,rfl⟩
theorem Rz(h:WIn B P N q W x u)(i:Int)(hi:i<0\/(N:Nat)<=i):Calls Tryz.prog 29 #[↑(x,0),↑i] W λe w'=>e=.returned (.pointer none)/\w'=W:=by
 have hn:=af (yp h);clear h;by_cases h0:i<0
 ·have q1:decide (i<0)=true:=av h0
  go_enter Tryz.func29,Tryz.ntmps29
  go_wp2;go_ret;exact⟨rfl,rfl⟩
 ·have q1:decide (i<0)=false:=aj h0
  have q2:decide (((N:Nat):Int)<=i)=true:=av (by omega)
  go_enter Tryz.func29,Tryz.ntmps29
  go_wp2_with fail;refine hn.o.mono ?_;rintro _ _ ⟨rfl,rfl⟩;go_wp2;go_ret;exact⟨rfl,rfl⟩
theorem RB(h:WIn B P N q W x u)(i:Nat)(hi:i<N):Calls Tryz.prog 41 #[↑(x,0),↑(i:Nat)] W λe w'=>e=.returned ↑((u.ms i).st:Nat)/\Below W W w':=by
 have hn:=af (mG h i hi);have hs:=af (oP.state (h.nd i hi));clear h
 go_enter Tryz.func41,Tryz.ntmps41
 go_wp2_with fail;refine hn.o.mono ?_;rintro _ _ ⟨rfl,rfl⟩;go_wp2_with fail;refine hs.o.mono ?_;rintro _ w1 ⟨rfl,hb⟩;go_wp2_with fail;go_ret;exact⟨rfl,hb⟩
theorem RE(p np:Option Addr)(i a b c:Int)(W:World)(hn:∀z,Calls Tryz.prog 29 #[.pointer p,↑i] (W.alloc z) λe w'=>e=.returned (.pointer np)/\w'=W.alloc z)(hs:∀z,Calls Tryz.prog 79 #[.pointer np] (W.alloc z) λe w'=>e=.returned (.agg #[↑a,↑b,↑c])/\Below (W.alloc z).heap.size (W.alloc z) w'):
  Calls Tryz.prog 42 #[.pointer p,↑i] W λe w'=>e=.returned (.agg #[↑a,↑b,↑c])/\Below W W w':=by
 have hX:=aJ W W rfl #[↑(0:Int),↑(0:Int),↑(0:Int)] 96;have hb0:=(ah W W).alloc lr (.cells #[↑(0:Int),↑(0:Int),↑(0:Int)] 96);have hn:=af (hn (.cells #[↑(0:Int),↑(0:Int),↑(0:Int)] 96));have hs:=af (hs (.cells #[↑(0:Int),↑(0:Int),↑(0:Int)] 96))
 go_enter Tryz.func42,Tryz.ntmps42
 go_wp2_with fail;refine hn.o.mono ?_;rintro _ _ ⟨rfl,rfl⟩;go_wp2_with fail;refine hs.o.mono ?_;rintro _ w3 ⟨rfl,hb⟩;have hX:=hX.below hb (by simp);have x0:=hX.cell 0 (x:=↑(0:Int)) rfl;have x1:=hX.cell 1 (x:=↑(0:Int)) rfl;have x2:=hX.cell 2 (x:=↑(0:Int)) rfl;have f0:=hX.frozen 0;have f1:=hX.frozen 1;have f2:=hX.frozen 2;have HB:=af ((((hb0.trans (hb.mono (by simp))).setCell (p:=(W.heap.size,0)) (by simp) ↑a).setCell (p:=(W.heap.size,1)) (by simp) ↑b).setCell (p:=(W.heap.size,2)) (by simp) ↑c);clear hX hb hb0 hn hs;go_wp2;refine aK (v:=.agg #[↑a,↑b,↑c]) ?_ rfl ?_
 ·rw[j4 rfl]
  go_simp
 ·exact⟨rfl,HB.o⟩
theorem RF(h:WIn B P N q W x u)(i:Nat)(hi:i<N):Calls Tryz.prog 42 #[↑(x,0),↑(i:Nat)] W λe w'=>e=.returned (csV (u.ms i).rd (u.ms i).sl (u.ms i).ty.m)/\Below W W w':=
 RE _ _ _ _ _ _ W (λz=>mG (h.below ((ah _ _).alloc lr z)) i hi) (λz=>oP.view ((h.below ((ah _ _).alloc lr z)).nd i hi))
theorem RH(h:WIn B P N q W x u)(i:Nat)(hi:i<N):Calls Tryz.prog 44 #[↑(x,0),↑(i:Nat)] W λe w'=>e=.returned ↑(u.ms i).tm/\Below W W w':=by
 have hn:=af (mG h i hi);have hs:=af (oP.clock (h.nd i hi));clear h
 go_enter Tryz.func44,Tryz.ntmps44
 go_wp2_with fail;refine hn.o.mono ?_;rintro _ _ ⟨rfl,rfl⟩;go_wp2_with fail;refine hs.o.mono ?_;rintro _ w1 ⟨rfl,hb⟩;go_wp2_with fail;go_ret;exact⟨rfl,hb⟩
theorem RI(h:WIn B P N q W x u)(i:Nat)(hi:i<N)(n:Int):Calls Tryz.prog 48 #[↑(x,0),↑(i:Nat),↑n] W λe w'=>e=.returned ↑((if isR (u.ms i).al n then(u.ms i).ar n.toNat else 0:Nat):Int)/\Below W W w':=by
 have hn:=af (mG h i hi);have hs:=af (qX.rings n (h.nd i hi));clear h;generalize(if isR (u.ms i).al n then(u.ms i).ar n.toNat else 0:Nat)=R at *
 go_enter Tryz.func48,Tryz.ntmps48
 go_wp2_with fail;refine hn.o.mono ?_;rintro _ _ ⟨rfl,rfl⟩;go_wp2_with fail;refine hs.o.mono ?_;rintro _ w1 ⟨rfl,hb⟩;go_wp2_with fail;go_ret;exact⟨rfl,hb⟩
end
end
end Go.Proofs.YteadkhigkmijiaaGreat
