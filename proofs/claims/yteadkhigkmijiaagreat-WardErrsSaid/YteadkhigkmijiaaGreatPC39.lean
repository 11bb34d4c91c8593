/- Texts VdE, VdG, VdH in one. -/
import Derived.Test.YteadkhigkmijiaaGreatPC1
import Derived.Test.YteadkhigkmijiaaGreatPC8
import Derived.Test.YteadkhigkmijiaaGreatPC38
set_option linter.all false
namespace Go.Proofs.YteadkhigkmijiaaGreat
section
open Go.RowKit
theorem Eff.bw{F F':List Nat}{B:Nat}{P:List Nat}{w w':World}(e:Eff F F' w w')(hF:∀f,f∈F->B<=f/\f∉P)(hB:B<=w.heap.size)(hP:∀p,p∈P->p<w.heap.size):Bw B P w w':=
 ⟨e.1.below (λf hf=>(hF f hf).1) hB,λp hp=>e.1.block p (hP p hp) λhm=>(hF p hm).2 hp⟩
theorem Bw.trans{B:Nat}{P:List Nat}{a b c:World}(h:Bw B P a b)(k:Bw B P b c):Bw B P a c:=⟨h.b.trans k.b,λp hp=>(k.k p hp).trans (h.k p hp)⟩
theorem Bw.less{B:Nat}{P P':List Nat}{a b:World}(h:Bw B P a b)(hP:∀p,p∈P'->p∈P):Bw B P' a b:=⟨h.b,λp hp=>h.k p (hP p hp)⟩
theorem Bw.rR{B p:Nat}{P:List Nat}{a b:World}(o:Only p a b)(hB:B<=p)(hs:p<a.heap.size)(hP:∀r,r∈P->r<a.heap.size/\r≠p):Bw B P a b:=
 ⟨o.below hB hs,λr hr=>o.block r (hP r hr).1 (by intro e;cases e;exact(hP _ hr).2 rfl)⟩
section
variable {B:Nat}{P:List Nat}{N:Nat}{q:WP}{W W':World}{x:Nat}{u:WM}
theorem WIn.qw(h:WIn B P N q W x u){i:Nat}(hi:i<N){F':List Nat}(e:Eff (q.F i) F' W W'):Bw B P W W':=
 e.bw (λf hf=>⟨h.bas.2.2.2 i hi f hf,λhp=>h.own i hi f (.inr (.inr (.inr hp))) hf⟩) (by have:=h.bas.1;have:=h.blk.lt;omega) (λp hp=>(h.o p hp).1)
theorem WIn.lD(h:WIn B P N q W x u)(b:Below W W W'):Bw B P W W':=
 Bw.of b (by have:=h.bas.1;have:=h.blk.lt;omega) (λp hp=>(h.o p hp).1)
end
structure SA(B:Nat)(P:List Nat)(N x:Nat)(u:WM)(nb gs ps:Nat)(w0:World)(k:Nat)(q:WP)(V:Nat->Option Addr)(c:Nat->Nat)(W:World):Prop where
 nb:q.nb=nb
 gs:q.gs=gs
 win:WIn B ((ps+1)::ps::P) N q W x (u.ko k)
 Y:Blk W ps (sl8 V c (u.bsK k)) 150
 Z:Blk W (ps+1) (i8 (u.atK k)) 22
 own:∀i,i<8->iJ W (ps+2) (.slice (V i) (u.bsK k i).length (c i)) (u.bsK k i)
 ok:∀i,i<8->iK (u.bsK k i)/\(u.bsK k i).length<=16
 far:∀i,i<k->∀b,(Value.slice (V i) (u.bsK k i).length (c i)).ownBlock=some b->∀j,k<=j->j<N->b∉q.F j
 rest:∀i,k<=i->V i=none/\c i=0
 bw:Bw B P w0 W
 pB:B<=ps
 pP:∀r,r∈P->r<ps
structure SB(B:Nat)(P:List Nat)(N x:Nat)(u:WM)(nb gs ps:Nat)(w0:World)(k:Nat)(q:WP)(V:Nat->Option Addr)(c:Nat->Nat)(A':Option Addr)(c':Nat)(W:World):Prop where
 nb:q.nb=nb
 gs:q.gs=gs
 win:WIn B ((ps+1)::ps::P) N q W x (u.ko (k+1))
 Y:Blk W ps (sl8 V c (u.bsK k)) 150
 Z:Blk W (ps+1) (i8 (u.atK k)) 22
 own:∀i,i<8->iJ W (ps+2) (.slice (V i) (u.bsK k i).length (c i)) (u.bsK k i)
 new:iJ W (ps+2) (.slice A' (u.ms k).sent.length c') (u.ms k).sent
 ok:∀i,i<8->iK (u.bsK k i)/\(u.bsK k i).length<=16
 okn:iK (u.ms k).sent/\(u.ms k).sent.length<=16
 far:∀i,i<k->∀b,(Value.slice (V i) (u.bsK k i).length (c i)).ownBlock=some b->∀j,k+1<=j->j<N->b∉q.F j
 rX:∀b,(Value.slice A' (u.ms k).sent.length c').ownBlock=some b->∀j,k+1<=j->j<N->b∉q.F j
 rest:∀i,k<=i->V i=none/\c i=0
 bw:Bw B P w0 W
 pB:B<=ps
 pP:∀r,r∈P->r<ps
section
variable {B:Nat}{P:List Nat}{N x:Nat}{u:WM}{nb gs ps:Nat}{w0 W W':World}{k:Nat}{q:WP}{V:Nat->Option Addr}{c:Nat->Nat}{A':Option Addr}{c':Nat}
theorem SA.below(h:SA B P N x u nb gs ps w0 k q V c W)(b:Below W W W'):SA B P N x u nb gs ps w0 k q V c W':=
 ⟨h.nb,h.gs,h.win.below b,h.Y.below b h.Y.lt,h.Z.below b h.Z.lt,λi hi=>(h.own i hi).below b lr,h.ok,h.far,h.rest,h.bw.trans ((h.win.less (λ_ hp=>aT _ (aT _ hp))).lD b),h.pB,h.pP⟩
theorem SB.below(h:SB B P N x u nb gs ps w0 k q V c A' c' W)(b:Below W W W'):SB B P N x u nb gs ps w0 k q V c A' c' W':=
 ⟨h.nb,h.gs,h.win.below b,h.Y.below b h.Y.lt,h.Z.below b h.Z.lt,λi hi=>(h.own i hi).below b lr,h.new.below b lr,h.ok,h.okn,h.far,h.rX,h.rest,h.bw.trans ((h.win.less (λ_ hp=>aT _ (aT _ hp))).lD b),h.pB,h.pP⟩
theorem SA.send(h:SA B P N x u nb gs ps w0 k q V c W)(hk:k<N):Calls Tryz.prog 67 #[↑(q.gp k,0)] W λe w'=>∃A' c' q',e=.returned (.slice A' (u.ms k).sent.length c')/\q'.gp=q.gp/\NAt (q'.F k) w' (q.gp k) (u.ms k).iL/\SB B P N x u nb gs ps w0 k q' V c A' c' w':=by
 have hn:=h.win.nd k hk;rw[u.vl k]at hn;refine(Mt hn).mono ?_;rintro _ w' ⟨v,F',rfl,ho,hn',he⟩;obtain⟨A',c',rfl,-⟩:=ho.sees.at_;have hY:=h.Y.lt;have hZ:=h.Z.lt;have nY:ps∉q.F k:=h.win.own k hk ps (.inr (.inr (.inr (by simp))));have nZ:ps+1∉q.F k:=h.win.own k hk (ps+1) (.inr (.inr (.inr (by simp))));have hw:=h.win.eff hk hn' he;rw[WM.zN]at hw;have hold:∀i,i<8->iJ w' (ps+2) (.slice (V i) (u.bsK k i).length (c i)) (u.bsK k i):=λi hi=>by
  have ho:=h.own i hi;by_cases e:i<k
  ·exact ho.same λb hb=>he.1.block b (ho.lt b hb).2 (h.far i e b hb k lr hk)
  ·obtain⟨e1,e2⟩:=h.rest i (by omega)
   rw[show u.bsK k i=[] by unfold WM.bsK;rw[ai e],e1,e2];exact bR
 refine⟨A',c',{q with F:=je q.F k F'},rfl,rfl,by show NAt (je q.F k F' k) w' (q.gp k) _;rw[j9];exact hn',⟨h.nb,h.gs,hw,(he.1.block _ hY nY).trans h.Y,(he.1.block _ hZ nZ).trans h.Z,hold,ho.base (by have:=hZ;omega),h.ok,RJ hn',λi hi b hb j hj hjN=>?_,λb hb j hj hjN=>?_,h.rest,h.bw.trans ((h.win.less (λ_ hp=>aT _ (aT _ hp))).qw hk he),h.pB,h.pP⟩⟩
 ·show b∉je q.F k F' j
  rw[kB _ _ _ (show j≠k by omega)];exact h.far i hi b hb j (by omega) hjN
 ·show b∉je q.F k F' j
  rw[kB _ _ _ (show j≠k by omega)];intro hm;have h1:=(ho.lt b hb).1;have h2:=(h.win.nd j hjN).lt b hm;omega
theorem SB.store(h:SB B P N x u nb gs ps w0 k q V c A' c' W)(hk:k<N)(hN:N<=8):SA B P N x u nb gs ps w0 (k+1) q (kX V k A') (kX c k c') ((W.setCell (ps,k) (.slice A' (u.ms k).sent.length c')).setCell (ps+1,k) ↑(u.ms k).iL.tm):=by
 have o1:Only ps W (W.setCell (ps,k) (.slice A' (u.ms k).sent.length c')):=(aE _ _).set k _;have o2:Only (ps+1) (W.setCell (ps,k) (.slice A' (u.ms k).sent.length c')) ((W.setCell (ps,k) (.slice A' (u.ms k).sent.length c')).setCell (ps+1,k) ↑(u.ms k).iL.tm):=(aE _ _).set k _;have Y1:=(h.Y.set k (.slice A' (u.ms k).sent.length c')).eq (zP V c (u.bsK k) k (by omega) A' c' (u.ms k).sent);rw[WM.rY]at Y1;have Y2:=Y1.other (ps+1,k) (by show ps≠ps+1;omega) ↑(u.ms k).iL.tm;have Z2:=((h.Z.other (ps,k) (by show ps+1≠ps;omega) (.slice A' (u.ms k).sent.length c')).set k ↑(u.ms k).iL.tm).eq (WM.zM u k (by omega));have kp:∀{v l},iJ W (ps+2) v l->iJ ((W.setCell (ps,k) (.slice A' (u.ms k).sent.length c')).setCell (ps+1,k) ↑(u.ms k).iL.tm) (ps+2) v l:=λho=>(ho.only o1 (by omega)).only o2 (by omega);have hz1:=o1.size;have hYl:=h.Y.lt;have hZl:=h.Z.lt;have e:∀i,u.bsK (k+1) i=if i=k then(u.ms k).sent else u.bsK k i:=λi=>by rw[<-WM.rY];rfl
 refine⟨h.nb,h.gs,(h.win.only (.inl (by simp)) o1).only (.inl (by simp)) o2,Y2,Z2,λi hi=>?_,λi hi=>?_,λi hi b hb=>?_,λi hi=>?_,?_,h.pB,h.pP⟩
 ·rw[e i]
  unfold kX;by_cases ei:i=k
  ·subst ei;simp only[dG];exact kp h.new
  ·simp only[ai ei];exact kp (h.own i hi)
 ·rw[e i]
  by_cases ei:i=k
  ·rw[au ei];exact h.okn
  ·rw[ai ei];exact h.ok i hi
 ·rw[e i]at hb
  unfold kX at hb;by_cases ei:i=k
  ·simp only[au ei]at hb
   exact h.rX b hb
  ·simp only[ai ei]at hb
   exact h.far i (by omega) b hb
 ·unfold kX
  rw[ai (by omega),ai (by omega)];exact h.rest i (by omega)
 ·have hP:∀r,r∈P->r<W.heap.size/\r≠ps/\r≠ps+1:=λr hr=>by
   obtain⟨h1,-⟩:=h.win.o r (by simp[hr]);refine⟨h1,λer=>?_,λer=>?_⟩
   ·have:=h.pP r hr;omega
   ·have:=h.pP r hr;omega
  exact h.bw.trans ((Bw.rR o1 h.pB hYl λr hr=>⟨(hP r hr).1,(hP r hr).2.1⟩).trans (Bw.rR o2 (by have:=h.pB;omega) (by omega) λr hr=>⟨aN (hP r hr).1 hz1,(hP r hr).2.2⟩))
end
end
section
open Go.RowKit
theorem WIn.boxes{B:Nat}{E:List Nat}{N:Nat}{q:WP}{W W':World}{x:Nat}{u u':WM}(h:WIn B E N q W x u)(h':WIn B E N q W' x u')(xs:List Nat)(hx:∀b,b∈xs->W.heap.size<=b/\b<W'.heap.size):WIn B (xs++E) N q W' x u':=by
 obtain⟨l1,l2,l3⟩:=h.lt;refine⟨h'.blk,h'.nlt,h'.ptr,h'.star,h'.nd,λi hi p hp=>?_,h'.dis,h'.ne,λp hp=>?_,h'.cap,h'.bas⟩
 ·rcases hp with e|e|e|hp
  ·exact h'.own i hi p (.inl e)
  ·exact h'.own i hi p (.inr (.inl e))
  ·exact h'.own i hi p (.inr (.inr (.inl e)))
  ·rcases bG.1 hp with e|hp
   ·exactλhm=>by
     have:=(h.nd i hi).lt p hm;have:=(hx p e).1;omega
   ·exact h'.own i hi p (.inr (.inr (.inr hp)))
 ·rcases bG.1 hp with e|hp
  ·obtain⟨e1,e2⟩:=hx p e
   exact⟨e2,by omega,by omega,by omega⟩
  ·exact h'.o p hp
def hdB(f:Nat->Hd):List Nat:=(List.range 8).flatMap λi=>(f i).X.ownBlock.toList++(f i).Y.ownBlock.toList
theorem oC{f:Nat->Hd}{b:Nat}:b∈hdB f↔∃i,i<8/\((f i).X.ownBlock=some b\/(f i).Y.ownBlock=some b):=by
 unfold hdB;simp only[fY,cA,bG,dO]
structure SC(N:Nat)(u:WM)(fl:List Ft)(f:Nat->Hd)(S:Nat)(W:World):Prop where
 eq:∀i,i<N->(f i).A=(u.hear N fl i).a/\(f i).B=(u.hear N fl i).b/\(f i).o=(u.hear N fl i).o
 own:∀i,i<N->iJ W S (f i).X (u.hear N fl i).x/\iJ W S (f i).Y (u.hear N fl i).y
 all:∀i,i<8->(∃l,iJ W S (f i).X l)/\∃l,iJ W S (f i).Y l
 n8:N<=8
theorem SC.forms{N:Nat}{u:WM}{fl:List Ft}{f:Nat->Hd}{S:Nat}{W:World}(h:SC N u fl f S W)(i:Nat)(hi:i<8):(∃A n c,(f i).X=.slice A n c)/\∃A n c,(f i).Y=.slice A n c:=by
 obtain⟨⟨l,h1⟩,l',h2⟩:=h.all i hi;obtain⟨A,c,e,-⟩:=h1.sees.at_;obtain⟨A',c',e',-⟩:=h2.sees.at_;exact⟨⟨A,_,c,e⟩,A',_,c',e'⟩
theorem SC.keep{N:Nat}{u:WM}{fl:List Ft}{f:Nat->Hd}{S:Nat}{W W':World}(h:SC N u fl f S W)(hb:∀b,b∈hdB f->W'.heap[b]?=W.heap[b]?):SC N u fl f S W':=by
 refine⟨h.eq,λi hi=>?_,λi hi=>?_,h.n8⟩
 ·have h8:i<8:=aN hi h.n8
  exact⟨(h.own i hi).1.same λb hb'=>hb b (oC.2 ⟨i,h8,.inl hb'⟩),(h.own i hi).2.same λb hb'=>hb b (oC.2 ⟨i,h8,.inr hb'⟩)⟩
 ·obtain⟨⟨l,h1⟩,l',h2⟩:=h.all i hi
  exact⟨⟨l,h1.same λb hb'=>hb b (oC.2 ⟨i,hi,.inl hb'⟩)⟩,l',h2.same λb hb'=>hb b (oC.2 ⟨i,hi,.inr hb'⟩)⟩
theorem FT{B:Nat}{E:List Nat}{N x:Nat}{u:WM}{fl:List Ft}{fv:Value}{q:WP}{W:World}{V:Nat->Option Addr}{c:Nat->Nat}(ok:WOk N u)(h:WIn B E N q W x (u.ko N))(hv:∀i,i<8->iI W W (.slice (V i) (u.bs N i).length (c i)) (u.bs N i))(hg:∀i,i<8->iK (u.bs N i)/\(u.bs N i).length<=16)
  (hsf:ju W W fv fl) (hf:jc fl=true) (hy:∀f∈fl,iK f.d):
  Calls Tryz.prog 69 #[↑(q.gs,0),s8 λi=>.slice (V i) (u.bs N i).length (c i),jK (u.at_ N),fv] W λe w'=>∃f,e=.returned (.tuple #[.agg (hdC f),↑(0:Int)])/\SC N u fl f W w'/\WIn B (hdB f++E) N q w' x (u.took N fl 0)/\Bw B E W w':=by
 obtain⟨n4,n8⟩:=ok.n4;have hb:∀j,j<N->iK (u.ms j).sent:=λj hj=>by
  have:=(hg j (by omega)).1;unfold WM.bs at this;rw[au hj]at this;exact this
 have hat:=λi=>WM.qA ok i;have hsaid:=WM.RO (fl:=fl) ok hb hf hy;have p0:(u.said N fl).c.p=-1\/∃j:Nat,(u.said N fl).c.p=j/\j<N:=Air.pG _ ok.s 0;have p1:(u.said N fl).d.p=-1\/∃j:Nat,(u.said N fl).d.p=j/\j<N:=Air.pG _ ok.t 1;have w0:=WM.yt (fl:=fl) hb hf hy p0;have w1:=WM.yt (fl:=fl) hb hf hy p1;have hS:=Qg q.gs N u.s u.t V c (u.bs N) (u.at_ N) fv fl _ _ _ _ (u.sd N fl) (u.said N fl) W h.star n8 (λi hi=>⟨hv i hi,(hg i hi).1⟩) (λi=>by have:=hat i;omega) hsf hf rfl rfl rfl rfl rfl hsaid p0 p1
  (λk hk=>Air.rZ _ _ _ k hk) (λk hk=>Air.rZ _ _ _ k hk)
  ok.s.sn (by rw[ok.s.sn];exact ok.s.slot) (by have:=ok.s.now;unfold time;omega) (by have:=ok.s.wi;omega) ok.t.sn (by rw[ok.t.sn];exact ok.t.slot) (by have:=ok.t.now;unfold time;omega) (by have:=ok.t.wi;omega)
  (by rw[w0];exact ok.s.ok n8 (WM.nI ok hf _)) (by rw[w1];exact ok.t.ok n8 (WM.nI ok hf _))
 rw[w0,w1]at hS;refine hS.mono ?_;rintro e w' ⟨f,rfl,hH,hG,hO⟩;have hgl:=h.star.lt;have hSC:SC N u fl f W w':=⟨λi hi=>by
   obtain⟨a1,a2,-,-,a5⟩:=FR ok hb hf hy hi (hH i (by omega));exact⟨a1,a2,a5⟩,λi hi=>by
   obtain⟨-,-,a3,a4,-⟩:=FR ok hb hf hy hi (hH i (by omega));exact⟨a3,a4⟩,λi hi=>⟨⟨_,(hH i hi).X⟩,_,(hH i hi).Y⟩,n8⟩
 have hw:WIn B E N q w' x (u.took N fl 0):=by
  have:=h.vg hO hG;rw[WM.qB];exact this
 refine⟨f,rfl,hSC,h.boxes hw (hdB f) λb hb'=>?_,Bw.rR hO h.bas.2.2.1 hgl λr hr=>⟨(h.o r hr).1,(h.o r hr).2.2.2⟩⟩;obtain⟨i,hi,hm⟩:=oC.1 hb';obtain⟨⟨l,o1⟩,l',o2⟩:=hSC.all i hi;rcases hm with hm|hm
 ·exact o1.lt b hm
 ·exact o2.lt b hm
structure TA(B:Nat)(P:List Nat)(N x:Nat)(u:WM)(fl:List Ft)(nb:Nat)(gp:Nat->Nat)(ph:Nat)(f:Nat->Hd)(S:Nat)(w0:World)(k:Nat)(E:List Nat)(q:WP)(W:World):Prop where
 nb:q.nb=nb
 gp:q.gp=gp
 win:WIn B E N q W x (u.took N fl k)
 phE:ph∈E
 xs:∀b,b∈hdB f->b∈E
 ps:∀p,p∈P->p∈E
 H:HAt W ph f
 sc:SC N u fl f S W
 bw:Bw B P w0 W
theorem TA.take{B:Nat}{P:List Nat}{N x:Nat}{u:WM}{fl:List Ft}{nb:Nat}{gp:Nat->Nat}{ph:Nat}{f:Nat->Hd}{S:Nat}{w0 W:World}{k:Nat}{E:List Nat}{q:WP}(h:TA B P N x u fl nb gp ph f S w0 k E q W)(ok:WOk N u)(hf:jc fl=true)(hk:k<N):
  Calls Tryz.prog 70 #[↑(gp k,0),.agg #[↑(f k).A,↑(f k).B,(f k).X,(f k).Y,↑(f k).o]] W λe w'=>∃q',e=.returned (.tuple #[])/\TA B P N x u fl nb gp ph f S w0 (k+1) E q' w':=by
 have hn:=h.win.nd k hk;rw[u.zR fl hk,h.gp]at hn;obtain⟨e1,e2,e3⟩:=h.sc.eq k hk;obtain⟨o1,o2⟩:=h.sc.own k hk;rw[e1,e2,e3];have hby:iK (u.hear N fl k).x/\iK (u.hear N fl k).y:=jy.zT _ _ _ _;have hof:-1099511627776<=(u.hear N fl k).o/\(u.hear N fl k).o<=1099511627776:=by
  have a1:=(u.said N fl).zU (u.air N fl) (u.at_ N k) k 10004000 (by decide) (λi=>WM.qC ok hf i) (by have:=WM.qA ok k;omega);unfold WM.hear;omega
 obtain⟨y1,y2⟩:=ok.ty k hk;have ytm:=ok.tm k hk;refine(oP.take (u.hear N fl k) hn o1.sees hby.1 o2.sees hby.2 y1 y2 (by omega) hof).mono ?_;rintro _ w' ⟨F',rfl,hn',he⟩;have hw:=h.win.eff hk (by rw[h.gp];exact hn') he;rw[WM.zW]at hw;have hold:∀b,b∈E->w'.heap[b]?=W.heap[b]?:=λb hb=>he.1.block b (h.win.o b hb).1 (h.win.own k hk b (.inr (.inr (.inr hb))));exact⟨{q with F:=je q.F k F'},rfl,h.nb,h.gp,hw,h.phE,h.xs,h.ps,h.H.same (hold _ h.phE),h.sc.keep λb hb=>hold b (h.xs b hb),h.bw.trans ((h.win.qw hk he).less h.ps)⟩
theorem Bw.lQ{B:Nat}{P:List Nat}{a b:World}(h:Below a a b)(hB:B<=a.heap.size)(hP:∀p,p∈P->p<a.heap.size):Bw B P a b:=Bw.of h hB hP
theorem Bw.RP{B:Nat}{P:List Nat}(a:World):Bw B P a a.drew:=⟨(ah _ _).drew,λ_ _=>rfl⟩
theorem Bw.box{B x:Nat}{P:List Nat}(a:World)(o:Obj)(h1:B<=x)(h2:x<a.heap.size)(hP:∀p,p∈P->p<a.heap.size):Bw B P a (a.alloc o).drew:=Bw.of (((ah a a).alloc lr o).drew) (by omega) hP
theorem TA.behind{B:Nat}{P E:List Nat}{N x:Nat}{u:WM}{fl:List Ft}{q:WP}{f:Nat->Hd}{S:Nat}{w0 w5:World}(hw:WIn B (hdB f++E) N q w5 x (u.took N fl 0))(sc:SC N u fl f S w5)(hP:∀p,p∈P->p∈E)(bw:Bw B P w0 w5):
  TA B P N x u fl q.nb q.gp w5 f S w0 0 (w5.heap.size::(hdB f++E)) q ((w5.alloc (.cells (hdC λ_=>hdz) 154)).setCells w5 0 (hdC f).toList):=by
 obtain⟨hH,hB⟩:=r9 w5 w5 rfl f 154;have hl:=hw.lt;have hbs:=hw.bas;refine⟨rfl,rfl,(hw.box (.cells (hdC λ_=>hdz) 154)).only (.inl (by simp)) (Only.setCells _ 0 (aE _ _)),by simp,λb hb=>by simp[hb],λp hp=>by simp[hP p hp],hH,sc.keep λb hb=>hB.block b (hw.o b (by simp[hb])).1,bw.trans (Bw.lQ hB (by omega) λp hp=>(hw.o p (by simp[hP p hp])).1)⟩
theorem TA.ahead{B:Nat}{P E:List Nat}{N x:Nat}{u:WM}{fl:List Ft}{q:WP}{f:Nat->Hd}{S ph:Nat}{w0 w5:World}(hw:WIn B (hdB f++E) N q w5 x (u.took N fl 0))(sc:SC N u fl f S w5)(hph:ph∈E)(hS:ph<S)(hP:∀p,p∈P->p∈E/\p≠ph)(hB:B<=ph)(bw:Bw B P w0 w5)(ht:w5.there ph 0 (hdC f).size):
  TA B P N x u fl q.nb q.gp ph f S w0 0 (hdB f++E) q (w5.setCells ph 0 (hdC f).toList):=by
 have o:Only ph w5 (w5.setCells ph 0 (hdC f).toList):=Only.setCells _ 0 (aE _ _);refine⟨rfl,rfl,hw.only (.inl (by simp[hph])) o,by simp[hph],λb hb=>by simp[hb],λp hp=>by simp[(hP p hp).1],cO _ _ _ _ (by rw[Array.length_toList];exact ht),sc.keep λb hb=>o.block b (hw.o b (by simp[hb])).1 (λe=>?_),bw.trans (Bw.rR o hB (hw.o ph (by simp[hph])).1 λr hr=>⟨(hw.o r (by simp[(hP r hr).1])).1,(hP r hr).2⟩)⟩
 cases e
 obtain⟨i,hi,hm⟩:=oC.1 hb;obtain⟨⟨l,o1⟩,l',o2⟩:=sc.all i hi;rcases hm with hm|hm
 ·have:=(o1.lt _ hm).1;omega
 ·have:=(o2.lt _ hm).1;omega
end
section
set_option maxRecDepth 100000
set_option maxHeartbeats 8000000
open Go.RowKit
theorem su{W:World}{b:Nat}{f:Nat->Hd}(ht:W.there b 0 (hdC f).size)(h1:(hdC f).all (·.oneCell')=true):(storeCells (b,0) (hdC f).toList).run Tryz.prog W=.ok () (W.setCells b 0 (hdC f).toList):=
 run_storeCells_cells (P:=Tryz.prog) b 0 (hdC f).toList 0 W (λj hj=>by simpa using(ht j (by simpa using hj)).1) (λj hj=>by simpa using(ht j (by simpa using hj)).2) (λv hv=>(Array.all_eq_true_iff_forall_mem.1 h1) v (by simpa using hv))
theorem RQ{B:Nat}{P:List Nat}{N x:Nat}{u:WM}{fl:List Ft}{Af:Option Addr}{cf:Nat}{W:World}(h:WAt B P N W x u)(ok:WOk N u)(hsl:u.sl<=1000000)(hsf:ju W B (.slice Af fl.length cf) fl):
  Calls Tryz.prog 28 #[↑(x,0),.slice Af fl.length cf] W λe w'=>e=.returned (.int .i64 (if jc fl=true then 0 else 1))/\WAt B P N w' x (if jc fl=true then u.slot N fl else u)/\Bw B P W w':=by
 obtain⟨q0,h⟩:=h;obtain⟨n4,n8⟩:=ok.n4;have hBW:B<=W.heap.size:=by have:=h.bas.1;have:=h.blk.lt;omega
 have hIs:=af (show Calls Tryz.prog 66 #[.slice Af fl.length cf] W λe w'=>e=.returned ↑(jc fl)/\Below W W w' from EY _ fl W (hsf.more hBW));by_cases his:jc fl=true
 case neg=>
  rw[ai his,ai his];have hno:jc fl=false:=by cases e:jc fl<;>simp_all
  go_enter Tryz.func28,Tryz.ntmps28
  go_wp2_with fail;refine hIs.o.mono ?_;rintro e w1 ⟨rfl,hb1⟩;have hfin:=af (show WAt B P N w1 x u/\Bw B P W w1 from⟨⟨q0,h.below hb1⟩,h.lD hb1⟩);rw[hno];clear h hb1 hIs;go_wp2_with fail;go_ret;exact⟨rfl,hfin.o.1,hfin.o.2⟩
 rw[au his,au his]
 go_enter Tryz.func28,Tryz.ntmps28
 go_wp2_with fail;refine hIs.o.mono ?_;rintro e w1 ⟨rfl,hb1⟩;have h1:=h.below hb1;have hw1:=h.lD hb1;have RU:=hsf.below hw1.b;rw[his];have h2:=(h1.box (.cells zS 150)).box (.cells zI 22);have hw2:Bw B P w1 ((w1.alloc (.cells zS 150)).alloc (.cells zI 22)):=h1.lD (((ah _ _).alloc lr (.cells zS 150)).alloc (by simp) (.cells zI 22));have Y2:=(aJ w1 w1 rfl (sl8 (λ_=>none) (λ_=>0) (u.bsK 0)) 150).alloc (.cells zI 22);have Z2:=aJ (w1.alloc (.cells zS 150)) (w1.heap.size+1) (by simp) (i8 (u.atK 0)) 22;have eY:sl8 (λ_=>none) (λ_=>0) (u.bsK 0)=zS:=by simp[sl8,WM.bsK]
 have eZ:i8 (u.atK 0)=zI:=by simp[i8,WM.atK]
 rw[show(w1.alloc (.cells zS 150)).heap.size=w1.heap.size+1 by simp]at h2;have x0:=h2.blk.cell 0 (x:=.slice (some (q0.nb,0)) N q0.cap) rfl;have hA:SA B P N x u q0.nb q0.gs w1 W 0 q0 (λ_=>none) (λ_=>0) ((w1.alloc (.cells zS 150)).alloc (.cells zI 22)):=by
  refine⟨rfl,rfl,by rw[WM.zZ];exact h2,by rw[eY]at Y2 ⊢;exact Y2,by rw[eZ]at Z2 ⊢;exact Z2,λi hi=>?_,λi hi=>?_,λi hi=>by omega,λi hi=>⟨rfl,rfl⟩,hw1.trans hw2,?_,λr hr=>(h1.o r hr).1⟩
  ·rw[show u.bsK 0 i=[] by simp[WM.bsK]];exact bR
  ·rw[show u.bsK 0 i=[] by simp[WM.bsK]];exact⟨λx hx=>(by cases hx),by simp⟩
  ·have:=h1.bas.1;have:=h1.blk.lt;omega
 have hA:=af hA;have hsF:=af (show ∀W1,Bw B P W W1->ju W1 B (.slice Af fl.length cf) fl from λW1 b=>hsf.below b.b);clear h h1 hw1 hw2 hb1 hIs Y2 Z2 eY eZ h2 hsf RU;go_wp2_with fail;generalize(w1.alloc (.cells zS 150)).alloc (.cells zI 22)=w2 at *;have q3:(0:Int)<=(N:Nat):=by omega
 go_loopw [21] (λi wr=>∃(k:Nat)(q:WP)(V:Nat->Option Addr)(c:Nat->Nat),k<=N/\i=↑(k:Nat)/\SA B P N x u q0.nb q0.gs w1 W k q V c wr) (λi _=>N-(intOf i).toNat)
 case atStart=>exact⟨0,q0,_,_,by omega,rfl,hA.o⟩
 case round=>
  clear hA x0;obtain⟨k,q,V,c,hk,rfl,h⟩:=hrel;by_cases hlt:k<N
  ·have r1:decide ((k:Int)<(N:Nat))=true:=by simp;omega
   have i8':(k:Int)<8:=by omega
   have ptr:=h.win.ptr k hlt;rw[h.nb]at ptr;have hcp:=h.win.cap;have hd:=h.below ((ah wr wr).drew);have HS:=af (hd.send hlt);clear h hd;go_wp2_with fail
   go_region_with (first
    |(go_at_call 67;refine HS.o.mono ?_;rintro e w4 ⟨A',c',q',rfl,eg,hn',hB⟩;have HC:=af (oP.clock hn'))
    |(go_at_call 68;refine HC.o.mono ?_;rintro e w5 ⟨rfl,hb5⟩;have hB5:=hB.below hb5;have a0:=hB5.Y.cell k (Aa V c (u.bsK k) k (by omega));have a1:=hB5.Y.frozen k;have a2:=hB5.Z.cell k (l7 (u.atK k) k (by omega));have a3:=hB5.Z.frozen k;have hS5:=af (hB5.store hlt n8);clear hB hB5)
    |fail)
   all_goals
    go_wp2_with fail;go_roundw
    case rel=>exact⟨k+1,q',_,_,by omega,by go_num,hS5.o⟩
    case measure=>simp[intOf];omega
  ·obtain rfl:k=N:=by omega
   have r1:decide ((k:Int)<(k:Nat))=false:=by simp
   have hSW:∀W,Blk W w1 (sl8 V c (u.bsK k)) 150->Blk W (w1.heap.size+1) (i8 (u.atK k)) 22->W.cell? (x,1)=some ↑(q.gs,0)->W.cell? (x,1)=some ↑(q.gs,0)/\W.cell? (w1,0)=some (.slice (V 0) (u.bsK k 0).length (c 0))/\W.cell? (w1,1)=some (.slice (V 1) (u.bsK k 1).length (c 1))/\W.cell? (w1,2)=some (.slice (V 2) (u.bsK k 2).length (c 2))/\W.cell? (w1,3)=some (.slice (V 3) (u.bsK k 3).length (c 3))/\W.cell? (w1,4)=some (.slice (V 4) (u.bsK k 4).length (c 4))/\W.cell? (w1,5)=some (.slice (V 5) (u.bsK k 5).length (c 5))/\W.cell? (w1,6)=some (.slice (V 6) (u.bsK k 6).length (c 6))/\W.cell? (w1,7)=some (.slice (V 7) (u.bsK k 7).length (c 7))/\W.cell? (w1.heap.size+1,0)=some ↑(u.atK k 0)/\W.cell? (w1.heap.size+1,1)=some ↑(u.atK k 1)/\W.cell? (w1.heap.size+1,2)=some ↑(u.atK k 2)/\W.cell? (w1.heap.size+1,3)=some ↑(u.atK k 3)/\W.cell? (w1.heap.size+1,4)=some ↑(u.atK k 4)/\W.cell? (w1.heap.size+1,5)=some ↑(u.atK k 5)/\W.cell? (w1.heap.size+1,6)=some ↑(u.atK k 6)/\W.cell? (w1.heap.size+1,7)=some ↑(u.atK k 7):=λW Y Z e1=>⟨e1,Y.cell 0 rfl,Y.cell 1 rfl,Y.cell 2 rfl,Y.cell 3 rfl,Y.cell 4 rfl,Y.cell 5 rfl,Y.cell 6 rfl,Y.cell 7 rfl,Z.cell 0 rfl,Z.cell 1 rfl,Z.cell 2 rfl,Z.cell 3 rfl,Z.cell 4 rfl,Z.cell 5 rfl,Z.cell 6 rfl,Z.cell 7 rfl⟩;have hSW:=af hSW;have e1:=h.win.blk.cell 1 (x:=↑(q.gs,0)) rfl;have T0:=hSW.o wr.drew h.Y.drew h.Z.drew e1;have T0':=T0;obtain⟨x1,y0,y1,y2,y3,y4,y5,y6,y7,z0,z1,z2,z3,z4,z5,z6,z7⟩:=T0';have hd:=h.below ((ah wr wr).drew);have HS1:=FT ok hd.win (λi hi=>(hd.own i hi).sees) hd.ok ((hsF.o _ hd.bw).more (by have:=hd.win.bas.1;have:=hd.win.blk.lt;omega)) his (hsF.o _ hd.bw).by_;have hx:=(h.win.box (.cells (hdC λ_=>hdz) 154)).below ((ah (wr.alloc (.cells (hdC λ_=>hdz) 154)).heap.size (wr.alloc (.cells (hdC λ_=>hdz) 154))).drew);have HS2:=FT ok hx (λi hi=>((h.own i hi).alloc (.cells (hdC λ_=>hdz) 154)).drew.sees) hd.ok ((hsF.o _ (h.bw.trans (Bw.box wr (.cells (hdC λ_=>hdz) 154) h.win.bas.1 h.win.lt.1 λp hp=>(h.win.o p (by simp[hp])).1))).more (by have:=hx.bas.1;have:=hx.blk.lt;omega)) his (hsF.o _ h.bw).by_;have T1:=hSW.o (wr.alloc (.cells (hdC λ_=>hdz) 154)).drew (h.Y.alloc (.cells (hdC λ_=>hdz) 154)).drew (h.Z.alloc (.cells (hdC λ_=>hdz) 154)).drew (hx.blk.cell 1 rfl);rw[<-WM.Ae u k,<-WM.Ag u k]at HS1 HS2;unfold s8 jK at HS1 HS2;have hin:=λp(hp:p∈P)=>(h.win.o p (by simp[hp])).1;have HS1:=af (HS1.mono (R':=λe w5=>∃f,e=.returned (.tuple #[.agg (hdC f),↑(0:Int)])/\Hid (((hdC f).all (·.oneCell')=true)/\(w5.cell? (x,1)=some ↑(q.gs,0)/\w5.cell? (w1,0)=some (.slice (V 0) (u.bsK k 0).length (c 0))/\w5.cell? (w1,1)=some (.slice (V 1) (u.bsK k 1).length (c 1))/\w5.cell? (w1,2)=some (.slice (V 2) (u.bsK k 2).length (c 2))/\w5.cell? (w1,3)=some (.slice (V 3) (u.bsK k 3).length (c 3))/\w5.cell? (w1,4)=some (.slice (V 4) (u.bsK k 4).length (c 4))/\w5.cell? (w1,5)=some (.slice (V 5) (u.bsK k 5).length (c 5))/\w5.cell? (w1,6)=some (.slice (V 6) (u.bsK k 6).length (c 6))/\w5.cell? (w1,7)=some (.slice (V 7) (u.bsK k 7).length (c 7))/\w5.cell? (w1.heap.size+1,0)=some ↑(u.atK k 0)/\w5.cell? (w1.heap.size+1,1)=some ↑(u.atK k 1)/\w5.cell? (w1.heap.size+1,2)=some ↑(u.atK k 2)/\w5.cell? (w1.heap.size+1,3)=some ↑(u.atK k 3)/\w5.cell? (w1.heap.size+1,4)=some ↑(u.atK k 4)/\w5.cell? (w1.heap.size+1,5)=some ↑(u.atK k 5)/\w5.cell? (w1.heap.size+1,6)=some ↑(u.atK k 6)/\w5.cell? (w1.heap.size+1,7)=some ↑(u.atK k 7))/\((w5.alloc (.cells (hdC λ_=>hdz) 154)).cell? (x,1)=some ↑(q.gs,0)/\(w5.alloc (.cells (hdC λ_=>hdz) 154)).cell? (w1,0)=some (.slice (V 0) (u.bsK k 0).length (c 0))/\(w5.alloc (.cells (hdC λ_=>hdz) 154)).cell? (w1,1)=some (.slice (V 1) (u.bsK k 1).length (c 1))/\(w5.alloc (.cells (hdC λ_=>hdz) 154)).cell? (w1,2)=some (.slice (V 2) (u.bsK k 2).length (c 2))/\(w5.alloc (.cells (hdC λ_=>hdz) 154)).cell? (w1,3)=some (.slice (V 3) (u.bsK k 3).length (c 3))/\(w5.alloc (.cells (hdC λ_=>hdz) 154)).cell? (w1,4)=some (.slice (V 4) (u.bsK k 4).length (c 4))/\(w5.alloc (.cells (hdC λ_=>hdz) 154)).cell? (w1,5)=some (.slice (V 5) (u.bsK k 5).length (c 5))/\(w5.alloc (.cells (hdC λ_=>hdz) 154)).cell? (w1,6)=some (.slice (V 6) (u.bsK k 6).length (c 6))/\(w5.alloc (.cells (hdC λ_=>hdz) 154)).cell? (w1,7)=some (.slice (V 7) (u.bsK k 7).length (c 7))/\(w5.alloc (.cells (hdC λ_=>hdz) 154)).cell? (w1.heap.size+1,0)=some ↑(u.atK k 0)/\(w5.alloc (.cells (hdC λ_=>hdz) 154)).cell? (w1.heap.size+1,1)=some ↑(u.atK k 1)/\(w5.alloc (.cells (hdC λ_=>hdz) 154)).cell? (w1.heap.size+1,2)=some ↑(u.atK k 2)/\(w5.alloc (.cells (hdC λ_=>hdz) 154)).cell? (w1.heap.size+1,3)=some ↑(u.atK k 3)/\(w5.alloc (.cells (hdC λ_=>hdz) 154)).cell? (w1.heap.size+1,4)=some ↑(u.atK k 4)/\(w5.alloc (.cells (hdC λ_=>hdz) 154)).cell? (w1.heap.size+1,5)=some ↑(u.atK k 5)/\(w5.alloc (.cells (hdC λ_=>hdz) 154)).cell? (w1.heap.size+1,6)=some ↑(u.atK k 6)/\(w5.alloc (.cells (hdC λ_=>hdz) 154)).cell? (w1.heap.size+1,7)=some ↑(u.atK k 7))/\∃w6,(storeCells (w5,0) (hdC f).toList).run Tryz.prog (w5.alloc (.cells (hdC λ_=>hdz) 154))=.ok () w6/\(w6.cell? (x,1)=some ↑(q.gs,0)/\w6.cell? (w1,0)=some (.slice (V 0) (u.bsK k 0).length (c 0))/\w6.cell? (w1,1)=some (.slice (V 1) (u.bsK k 1).length (c 1))/\w6.cell? (w1,2)=some (.slice (V 2) (u.bsK k 2).length (c 2))/\w6.cell? (w1,3)=some (.slice (V 3) (u.bsK k 3).length (c 3))/\w6.cell? (w1,4)=some (.slice (V 4) (u.bsK k 4).length (c 4))/\w6.cell? (w1,5)=some (.slice (V 5) (u.bsK k 5).length (c 5))/\w6.cell? (w1,6)=some (.slice (V 6) (u.bsK k 6).length (c 6))/\w6.cell? (w1,7)=some (.slice (V 7) (u.bsK k 7).length (c 7))/\w6.cell? (w1.heap.size+1,0)=some ↑(u.atK k 0)/\w6.cell? (w1.heap.size+1,1)=some ↑(u.atK k 1)/\w6.cell? (w1.heap.size+1,2)=some ↑(u.atK k 2)/\w6.cell? (w1.heap.size+1,3)=some ↑(u.atK k 3)/\w6.cell? (w1.heap.size+1,4)=some ↑(u.atK k 4)/\w6.cell? (w1.heap.size+1,5)=some ↑(u.atK k 5)/\w6.cell? (w1.heap.size+1,6)=some ↑(u.atK k 6)/\w6.cell? (w1.heap.size+1,7)=some ↑(u.atK k 7))/\TA B P k x u fl q.nb q.gp w5 f wr.drew W 0 (w5.heap.size::(hdB f++((w1.heap.size+1)::w1.heap.size::P))) q w6)) λe w5⟨f,e0,hsc,hw5,hbw⟩=>⟨f,e0,af (by
    have hY5:Blk w5 w1 (sl8 V c (u.bsK k)) 150:=(hbw.k w1 (by simp)).trans h.Y.drew;have hZ5:Blk w5 (w1.heap.size+1) (i8 (u.atK k)) 22:=(hbw.k (w1.heap.size+1) (by simp)).trans h.Z.drew;have hl:=r9 w5 w5 rfl f 154;have hth:=vn w5 w5 rfl 154;have hTA:=TA.behind (P:=P) hw5 hsc (λp hp=>by simp[hp]) ((h.bw.trans (Bw.RP wr)).trans (hbw.less (λp hp=>by simp[hp])));have T3:=hSW.o (w5.alloc (.cells (hdC λ_=>hdz) 154)) (hY5.alloc _) (hZ5.alloc _) ((hw5.box (.cells (hdC λ_=>hdz) 154)).blk.cell 1 rfl);have T4:=hSW.o _ (hY5.below hl.2 hY5.lt) (hZ5.below hl.2 hZ5.lt) ((hw5.below hl.2).blk.cell 1 rfl);rw[show(40:Nat)=(hdC f).size from rfl]at hth;exact⟨lH f (λi hi=>(hsc.forms i hi).1) (λi hi=>(hsc.forms i hi).2),hSW.o w5 hY5 hZ5 (hw5.blk.cell 1 rfl),T3,_,su hth (lH f (λi hi=>(hsc.forms i hi).1) (λi hi=>(hsc.forms i hi).2)),T4,hTA⟩)⟩)
   have HS2:=af (HS2.mono (R':=λe w5=>∃f,e=.returned (.tuple #[.agg (hdC f),↑(0:Int)])/\Hid (((hdC f).all (·.oneCell')=true)/\(w5.cell? (x,1)=some ↑(q.gs,0)/\w5.cell? (w1,0)=some (.slice (V 0) (u.bsK k 0).length (c 0))/\w5.cell? (w1,1)=some (.slice (V 1) (u.bsK k 1).length (c 1))/\w5.cell? (w1,2)=some (.slice (V 2) (u.bsK k 2).length (c 2))/\w5.cell? (w1,3)=some (.slice (V 3) (u.bsK k 3).length (c 3))/\w5.cell? (w1,4)=some (.slice (V 4) (u.bsK k 4).length (c 4))/\w5.cell? (w1,5)=some (.slice (V 5) (u.bsK k 5).length (c 5))/\w5.cell? (w1,6)=some (.slice (V 6) (u.bsK k 6).length (c 6))/\w5.cell? (w1,7)=some (.slice (V 7) (u.bsK k 7).length (c 7))/\w5.cell? (w1.heap.size+1,0)=some ↑(u.atK k 0)/\w5.cell? (w1.heap.size+1,1)=some ↑(u.atK k 1)/\w5.cell? (w1.heap.size+1,2)=some ↑(u.atK k 2)/\w5.cell? (w1.heap.size+1,3)=some ↑(u.atK k 3)/\w5.cell? (w1.heap.size+1,4)=some ↑(u.atK k 4)/\w5.cell? (w1.heap.size+1,5)=some ↑(u.atK k 5)/\w5.cell? (w1.heap.size+1,6)=some ↑(u.atK k 6)/\w5.cell? (w1.heap.size+1,7)=some ↑(u.atK k 7))/\∃w6,(storeCells (wr,0) (hdC f).toList).run Tryz.prog w5=.ok () w6/\(w6.cell? (x,1)=some ↑(q.gs,0)/\w6.cell? (w1,0)=some (.slice (V 0) (u.bsK k 0).length (c 0))/\w6.cell? (w1,1)=some (.slice (V 1) (u.bsK k 1).length (c 1))/\w6.cell? (w1,2)=some (.slice (V 2) (u.bsK k 2).length (c 2))/\w6.cell? (w1,3)=some (.slice (V 3) (u.bsK k 3).length (c 3))/\w6.cell? (w1,4)=some (.slice (V 4) (u.bsK k 4).length (c 4))/\w6.cell? (w1,5)=some (.slice (V 5) (u.bsK k 5).length (c 5))/\w6.cell? (w1,6)=some (.slice (V 6) (u.bsK k 6).length (c 6))/\w6.cell? (w1,7)=some (.slice (V 7) (u.bsK k 7).length (c 7))/\w6.cell? (w1.heap.size+1,0)=some ↑(u.atK k 0)/\w6.cell? (w1.heap.size+1,1)=some ↑(u.atK k 1)/\w6.cell? (w1.heap.size+1,2)=some ↑(u.atK k 2)/\w6.cell? (w1.heap.size+1,3)=some ↑(u.atK k 3)/\w6.cell? (w1.heap.size+1,4)=some ↑(u.atK k 4)/\w6.cell? (w1.heap.size+1,5)=some ↑(u.atK k 5)/\w6.cell? (w1.heap.size+1,6)=some ↑(u.atK k 6)/\w6.cell? (w1.heap.size+1,7)=some ↑(u.atK k 7))/\TA B P k x u fl q.nb q.gp wr f (wr.alloc (.cells (hdC λ_=>hdz) 154)).drew.heap.size W 0 (hdB f++(wr.heap.size::(w1.heap.size+1)::w1.heap.size::P)) q w6)) λe w5⟨f,e0,hsc,hw5,hbw⟩=>⟨f,e0,af (by
    have hY5:Blk w5 w1 (sl8 V c (u.bsK k)) 150:=(hbw.k w1 (by simp)).trans (h.Y.alloc (.cells (hdC λ_=>hdz) 154)).drew;have hZ5:Blk w5 (w1.heap.size+1) (i8 (u.atK k)) 22:=(hbw.k (w1.heap.size+1) (by simp)).trans (h.Z.alloc (.cells (hdC λ_=>hdz) 154)).drew;have hX5:Blk w5 wr (hdC λ_=>hdz) 154:=(hbw.k wr (by simp)).trans (aJ wr wr rfl (hdC λ_=>hdz) 154).drew;have hth:w5.there wr 0 (hdC f).size:=λi hi=>⟨by rw[bU,hX5.cell i (cm (by simpa[hdC]using hi))];rfl,hX5.frozen _⟩;have o6:Only wr w5 (w5.setCells wr 0 (hdC f).toList):=Only.setCells _ 0 (aE _ _);have hYl:=h.Y.lt;have hZl:=h.Z.lt;have hxl:=h.win.lt.1;have hxb:=h.win.bas.1;have T4:=hSW.o _ (hY5.only o6 (by omega)) (hZ5.only o6 (by omega)) ((hw5.only (.inl (by simp)) o6).blk.cell 1 rfl);exact⟨lH f (λi hi=>(hsc.forms i hi).1) (λi hi=>(hsc.forms i hi).2),hSW.o w5 hY5 hZ5 (hw5.blk.cell 1 rfl),_,su hth (lH f (λi hi=>(hsc.forms i hi).1) (λi hi=>(hsc.forms i hi).2)),T4,TA.ahead (P:=P) hw5 hsc (by simp) (by simp) (λp hp=>⟨by simp[hp],by have:=hin p hp;omega⟩) (by omega) ((h.bw.trans (Bw.box wr (.cells (hdC λ_=>hdz) 154) hxb hxl hin)).trans (hbw.less (λp hp=>by simp[hp]))) hth⟩)⟩)
   rw[Ah]at HS1 HS2 T1;have h:=af h;clear hd hx;go_wp2_with fail
   go_region_held3 (λW=>W.cell? (x,1)=some ↑(q.gs,0)/\W.cell? (w1,0)=some (.slice (V 0) (u.bsK k 0).length (c 0))/\W.cell? (w1,1)=some (.slice (V 1) (u.bsK k 1).length (c 1))/\W.cell? (w1,2)=some (.slice (V 2) (u.bsK k 2).length (c 2))/\W.cell? (w1,3)=some (.slice (V 3) (u.bsK k 3).length (c 3))/\W.cell? (w1,4)=some (.slice (V 4) (u.bsK k 4).length (c 4))/\W.cell? (w1,5)=some (.slice (V 5) (u.bsK k 5).length (c 5))/\W.cell? (w1,6)=some (.slice (V 6) (u.bsK k 6).length (c 6))/\W.cell? (w1,7)=some (.slice (V 7) (u.bsK k 7).length (c 7))/\W.cell? (w1.heap.size+1,0)=some ↑(u.atK k 0)/\W.cell? (w1.heap.size+1,1)=some ↑(u.atK k 1)/\W.cell? (w1.heap.size+1,2)=some ↑(u.atK k 2)/\W.cell? (w1.heap.size+1,3)=some ↑(u.atK k 3)/\W.cell? (w1.heap.size+1,4)=some ↑(u.atK k 4)/\W.cell? (w1.heap.size+1,5)=some ↑(u.atK k 5)/\W.cell? (w1.heap.size+1,6)=some ↑(u.atK k 6)/\W.cell? (w1.heap.size+1,7)=some ↑(u.atK k 7))
    ((first|exact T0|exact T1|exact T2|exact T3|exact T4))
    (first
     |(go_at_call 69;first
      |(with_reducible refine HS1.o.mono ?_;rintro e w5 ⟨f,rfl,hbd⟩;obtain⟨-,T2,T3,w6,hst,T4,hTA⟩:=hbd.o;have hTA:=af hTA;clear hbd)
      |(with_reducible refine HS2.o.mono ?_;rintro e w5 ⟨f,rfl,hbd⟩;obtain⟨-,T2,w6,hst,T4,hTA⟩:=hbd.o;have hTA:=af hTA;clear hbd)
      |fail)
     |fail)
   have oD:∃S E,TA B P k x u fl q.nb q.gp w5 f S W 0 E q w6:=⟨_,_,hTA.o⟩;obtain⟨SS,EE,hT⟩:=oD;have x0:=hT.win.blk.cell 0 (x:=.slice (some (q.nb,0)) k q.cap) rfl;have hT:=af hT;clear hTA T0 T1 T2 T4 hst x1 y0 y1 y2 y3 y4 y5 y6 y7 z0 z1 z2 z3 z4 z5 z6 z7 hSW e1 HS1 HS2 h hin;generalize w5.heap.size=ph at *;rotate_left 1;have oD:∃S E,TA B P k x u fl q.nb q.gp wr f S W 0 E q w6:=⟨_,_,hTA.o⟩;obtain⟨SS,EE,hT⟩:=oD;have x0:=hT.win.blk.cell 0 (x:=.slice (some (q.nb,0)) k q.cap) rfl;have hT:=af hT;clear hTA T0 T1 T2 T4 hst x1 y0 y1 y2 y3 y4 y5 y6 y7 z0 z1 z2 z3 z4 z5 z6 z7 hSW e1 HS1 HS2 h hin;generalize wr.heap.size=ph at *
   all_goals
    go_wp2_with fail
    go_loopw [51] (λi wz=>∃(j:Nat)(q':WP),j<=k/\i=↑(j:Nat)/\TA B P k x u fl q.nb q.gp ph f SS W j EE q' wz) (λi _=>k-(intOf i).toNat)
    case atStart=>exact⟨0,q,by omega,rfl,hT.o⟩
    case round=>
     clear hT x0;obtain⟨j,q',hj,rfl,h⟩:=hrel;by_cases hlt:j<k
     ·have r2:decide ((j:Int)<(k:Nat))=true:=by simp;omega
      have j8:(j:Int)<8:=by omega
      have ptr:=h.win.ptr j hlt;rw[h.nb,h.gp]at ptr;obtain⟨c0,c1,c2,c3,c4⟩:=h.H.get j (by omega);have HT:=af (h.take ok his hlt);clear h;go_wp2_with fail;refine HT.o.mono ?_;rintro e w8 ⟨q2,rfl,h2⟩;have h2:=af h2;clear HT c0 c1 c2 c3 c4 ptr;go_wp2_with fail;go_roundw
      case rel=>exact⟨j+1,q2,by omega,by go_num,h2.o⟩
      case measure=>simp[intOf];omega
     ·obtain rfl:j=k:=by omega
      have r2:decide ((j:Int)<(j:Nat))=false:=by simp
      have s2:=h.win.blk.cell 2 (x:=↑(u.sl:Nat)) rfl;have f2:=h.win.blk.frozen 2;have z1:IntKind.i64.wrap ((u.sl:Int)+1)=(u.sl:Int)+1:=aO _ (by omega);have hz:((u.sl+1:Nat):Int)=(u.sl:Int)+1:=by omega
      have hfin:Hid (WAt B P j (wr.setCell (x,2) ↑((u.sl:Int)+1:Int)) x (u.slot j fl)/\Bw B P W (wr.setCell (x,2) ↑((u.sl:Int)+1:Int))):=af (by
       have hs:=h.win.slots (u.sl+1);rw[hz,WM.zX]at hs;refine⟨⟨q',hs.less h.ps⟩,h.bw.trans (Bw.rR ((aE x wr).set 2 _) h.win.bas.1 h.win.lt.1 λr hr=>⟨(h.win.o r (h.ps r hr)).1,(h.win.o r (h.ps r hr)).2.1⟩)⟩)
      clear h hz;go_wp2_with fail;go_ret;exact⟨rfl,hfin.o.1,hfin.o.2⟩
end
end Go.Proofs.YteadkhigkmijiaaGreat
