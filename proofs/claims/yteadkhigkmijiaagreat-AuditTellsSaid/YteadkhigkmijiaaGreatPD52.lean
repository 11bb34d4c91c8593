/- Texts DwB, DwC, DwD in one. -/
import Derived.Test.YteadkhigkmijiaaGreatPD1
import Derived.Test.YteadkhigkmijiaaGreatPD8
import Derived.Test.YteadkhigkmijiaaGreatPD35
import Derived.Test.YteadkhigkmijiaaGreatPD42
import Derived.Test.YteadkhigkmijiaaGreatPD47
import Derived.Test.YteadkhigkmijiaaGreatPD51
set_option linter.all false
namespace Go.Proofs.YteadkhigkmijiaaGreat
section
open Go.RowKit
def qfS(u:WM)(k i:Nat):Bool->Prop:=if i<k then isS (u.ms i).iL.se else jO
def qfT(u:WM)(k i:Nat):Bool->Prop:=if i<k then jO else isS (u.ms i).iL.se
theorem Ir(u:WM)(k:Nat):je (qfS u k) k (isS (u.ms k).iL.se)=qfS u (k+1):=by
 funext i
 unfold je qfS;by_cases e:i=k
 ·subst e;simp
 ·rw[ai e]
  by_cases h:i<k
  ·rw[au h,au (by omega)]
  ·rw[ai h,ai (by omega)]
theorem Iu(u:WM)(k:Nat):je (qfT u k) k jO=qfT u (k+1):=by
 funext i
 unfold je qfT;by_cases e:i=k
 ·subst e;simp
 ·rw[ai e]
  by_cases h:i<k
  ·rw[au h,au (by omega)]
  ·rw[ai h,ai (by omega)]
theorem Eff.ow{A B C:List Nat}{w w1 w2:World}(h:Eff A B w w1)(k:Eff B C w1 w2):Eff A C w w2:=by
 have hs:=h.1.size;refine⟨⟨k.1.os.trans h.1.os,k.1.tape.trans h.1.tape,k.1.output.trans h.1.output,aW hs k.1.size,λi hi hn=>?_⟩,λf hf=>?_⟩
 ·exact(k.1.block i (aN hi hs) λhm=>(h.2 i hm).elim hn λh=>by omega).trans (h.1.block i hi hn)
 ·rcases k.2 f hf with h1|h1
  ·exact h.2 f h1
  ·exact .inr (aW hs h1)
theorem Eff.new{A B:List Nat}{w w1 w2:World}{p:Nat}(h:Eff A B w w1)(o:Only p w1 w2)(hp:w.heap.size<=p):Eff A B w w2:=by
 have hs:=h.1.size;exact⟨⟨o.os.trans h.1.os,o.tape.trans h.1.tape,o.output.trans h.1.output,aW hs o.size,λi hi hn=>(o.block i (by omega) (by intro e;cases e;omega)).trans (h.1.block i hi hn)⟩,h.2⟩
theorem Eff.below{A B:List Nat}{w w1 w2:World}(h:Eff A B w w1)(b:Below w1 w1 w2):Eff A B w w2:=by
 have hs:=h.1.size;exact⟨⟨b.os.trans h.1.os,b.tape.trans h.1.tape,b.output.trans h.1.output,aW hs b.size,λi hi hn=>(b.block i (by omega)).trans (h.1.block i hi hn)⟩,h.2⟩
theorem Iw(u:WM)(k:Nat)(hk:k<8):(i8 (u.atK k)).setIfInBounds k ↑(u.ms k).tm=i8 (u.atK (k+1)):=by
 have e:=u.zM k hk;rw[(oA (u.ms k)).2.2]at e;exact e
structure DA(P Rs:List Nat)(N x:Nat)(t:Tb.T)(u:WM)(ps:Nat)(D0:List Nat)(w0:World)(k kz:Nat)(q:DP)(V:Nat->Option Addr)(c:Nat->Nat)(W:World):Prop where
 win:DIn (qfS u k) ((ps+1)::ps::P) Rs N t q W x (u.ko k)
 eff:Eff D0 (q.all x N) w0 W
 Y:Blk W ps (sl8 V c (u.bsK k)) 150
 Z:Blk W (ps+1) (i8 (u.atK kz)) 22
 own:∀i,i<8->iJ W (ps+2) (.slice (V i) (u.bsK k i).length (c i)) (u.bsK k i)
 ok:∀i,i<8->iK (u.bsK k i)/\(u.bsK k i).length<=16
 far:∀i,i<k->∀b,(Value.slice (V i) (u.bsK k i).length (c i)).ownBlock=some b->∀j,k<=j->j<N->b∉q.F j
 rest:∀i,k<=i->V i=none/\c i=0
 pS:w0.heap.size<=ps
structure DC(P Rs:List Nat)(N x:Nat)(t:Tb.T)(u:WM)(ps:Nat)(D0:List Nat)(w0:World)(k:Nat)(q:DP)(V:Nat->Option Addr)(c:Nat->Nat)(A':Option Addr)(c':Nat)(W:World):Prop where
 win:DIn (qfS u (k+1)) ((ps+1)::ps::P) Rs N t q W x (u.ko (k+1))
 eff:Eff D0 (q.all x N) w0 W
 Y:Blk W ps (sl8 V c (u.bsK k)) 150
 Z:Blk W (ps+1) (i8 (u.atK (k+1))) 22
 own:∀i,i<8->iJ W (ps+2) (.slice (V i) (u.bsK k i).length (c i)) (u.bsK k i)
 new:iJ W (ps+2) (.slice A' (u.ms k).sent.length c') (u.ms k).sent
 ok:∀i,i<8->iK (u.bsK k i)/\(u.bsK k i).length<=16
 okn:iK (u.ms k).sent/\(u.ms k).sent.length<=16
 far:∀i,i<k->∀b,(Value.slice (V i) (u.bsK k i).length (c i)).ownBlock=some b->∀j,k+1<=j->j<N->b∉q.F j
 rX:∀b,(Value.slice A' (u.ms k).sent.length c').ownBlock=some b->∀j,k+1<=j->j<N->b∉q.F j
 rest:∀i,k<=i->V i=none/\c i=0
 pS:w0.heap.size<=ps
section
variable {P Rs:List Nat}{N x:Nat}{t:Tb.T}{u:WM}{ps:Nat}{D0:List Nat}{w0 W W':World}{k kz:Nat}{q:DP}{V:Nat->Option Addr}{c:Nat->Nat}{A':Option Addr}{c':Nat}
theorem DA.below(h:DA P Rs N x t u ps D0 w0 k kz q V c W)(b:Below W W W'):DA P Rs N x t u ps D0 w0 k kz q V c W':=
 ⟨h.win.below b,h.eff.below b,h.Y.below b h.Y.lt,h.Z.below b h.Z.lt,λi hi=>(h.own i hi).below b lr,h.ok,h.far,h.rest,h.pS⟩
theorem DA.tells(h:DA P Rs N x t u ps D0 w0 k k q V c W)(h8:k<8):DA P Rs N x t u ps D0 w0 k (k+1) q V c (W.setCell (ps+1,k) ↑(u.ms k).tm):=by
 have o:Only (ps+1) W (W.setCell (ps+1,k) ↑(u.ms k).tm):=(aE _ _).set k _;exact⟨h.win.only (.inl (by simp)) o,h.eff.new o (by have:=h.pS;omega),h.Y.other (ps+1,k) (by show ps≠ps+1;omega) _,(h.Z.set k _).eq (Iw u k h8),λi hi=>(h.own i hi).only o (by omega),h.ok,h.far,h.rest,h.pS⟩
theorem DA.send(h:DA P Rs N x t u ps D0 w0 k (k+1) q V c W)(hk:k<N)(hty:(u.ms k).ty.a<900):Calls Tryz.prog 74 #[↑(q.gp k,0)] W λe w'=>∃A' c' q',e=.returned (.slice A' (u.ms k).sent.length c')/\DC P Rs N x t u ps D0 w0 k q' V c A' c' w':=by
 have hn:=h.win.nd k hk;rw[u.vl k]at hn;refine(Ix hn (by omega) hn.j.vm).mono ?_;rintro _ w' ⟨v,F',rfl,ho,hn',he⟩;obtain⟨A',c',rfl,-⟩:=ho.sees.at_;have hY:=h.Y.lt;have hZ:=h.Z.lt;have nY:ps∉q.F k:=h.win.own k hk ps (.inr (.inr (by simp)));have nZ:ps+1∉q.F k:=h.win.own k hk (ps+1) (.inr (.inr (by simp)));obtain⟨F'',hw,he2⟩:=h.win.eff hk hn' he;rw[WM.zN,Ir]at hw;have hea:=h.win.u7 hk he2;have hold:∀i,i<8->iJ w' (ps+2) (.slice (V i) (u.bsK k i).length (c i)) (u.bsK k i):=λi hi=>by
  have ho:=h.own i hi;by_cases e:i<k
  ·exact ho.same λb hb=>he.1.block b (ho.lt b hb).2 (h.far i e b hb k lr hk)
  ·obtain⟨e1,e2⟩:=h.rest i (by omega)
   rw[show u.bsK k i=[] by unfold WM.bsK;rw[ai e],e1,e2];exact bR
 refine⟨A',c',{q with F:=je q.F k F''},rfl,⟨hw,h.eff.ow hea,(he.1.block _ hY nY).trans h.Y,(he.1.block _ hZ nZ).trans h.Z,hold,ho.base (by have:=hZ;omega),h.ok,hn.j.Iy (zO hn'),λi hi b hb j hj hjN=>?_,λb hb j hj hjN=>?_,h.rest,h.pS⟩⟩
 ·show b∉je q.F k F'' j
  rw[kB _ _ _ (show j≠k by omega)];exact h.far i hi b hb j (by omega) hjN
 ·show b∉je q.F k F'' j
  rw[kB _ _ _ (show j≠k by omega)];intro hm;have h1:=(ho.lt b hb).1;have h2:=h.win.lF j hjN b hm;omega
theorem DC.store(h:DC P Rs N x t u ps D0 w0 k q V c A' c' W)(hk:k<N)(hN:N<=8):DA P Rs N x t u ps D0 w0 (k+1) (k+1) q (kX V k A') (kX c k c') (W.setCell (ps,k) (.slice A' (u.ms k).sent.length c')):=by
 have o1:Only ps W (W.setCell (ps,k) (.slice A' (u.ms k).sent.length c')):=(aE _ _).set k _;have Y1:=(h.Y.set k (.slice A' (u.ms k).sent.length c')).eq (zP V c (u.bsK k) k (by omega) A' c' (u.ms k).sent);rw[WM.rY]at Y1;have Z2:=h.Z.other (ps,k) (by show ps+1≠ps;omega) (.slice A' (u.ms k).sent.length c');have kp:∀{v l},iJ W (ps+2) v l->iJ (W.setCell (ps,k) (.slice A' (u.ms k).sent.length c')) (ps+2) v l:=λho=>ho.only o1 (by omega);have e:∀i,u.bsK (k+1) i=if i=k then(u.ms k).sent else u.bsK k i:=λi=>by rw[<-WM.rY];rfl
 refine⟨h.win.only (.inl (by simp)) o1,h.eff.new o1 h.pS,Y1,Z2,λi hi=>?_,λi hi=>?_,λi hi b hb=>?_,λi hi=>?_,h.pS⟩
 ·rw[e i]
  unfold kX;by_cases ei:i=k
  ·subst ei;simp only[dG];exact kp h.new
  ·simp only[ai ei];exact kp (h.own i hi)
 ·rw[e i]
  by_cases ei:i=k
  ·rw[au ei];exact h.okn
  ·rw[ai ei];exact h.ok i hi
 ·rw[e i]at hb
  unfold kX at hb;by_cases ei:i=k
  ·simp only[au ei]at hb
   exact h.rX b hb
  ·simp only[ai ei]at hb
   exact h.far i (by omega) b hb
 ·unfold kX
  rw[ai (by omega),ai (by omega)];exact h.rest i (by omega)
end
end
section
open Go.RowKit
theorem DIn.qf_{qf qf':Nat->Bool->Prop}{P Rs:List Nat}{N:Nat}{t:Tb.T}{q:DP}{W:World}{x:Nat}{u u':WM}(h:DIn qf P Rs N t q W x u)(e1:u'.s=u.s)(e2:u'.t=u.t)(e3:u'.sl=u.sl)(hn:∀i,i<N->∀m,RN (qf i) (q.F i) Rs W (q.gp i) m->m=u.ms i->RN (qf' i) (q.F i) Rs W (q.gp i) (u'.ms i)):DIn qf' P Rs N t q W x u':=
 ⟨by rw[e3];exact h.blk,h.star,by rw[e1];exact h.s,by rw[e2];exact h.t,h.ptr,λi hi=>hn i hi _ (h.nd i hi) rfl,h.lF,h.lX,h.rs,h.own,h.dis,h.ne,h.sep,h.sep',h.cap⟩
theorem Iz{N:Nat}{u:WM}(n8:N<=8)(hg:∀i,i<8->iK (u.bs N i)/\(u.bs N i).length<=16)(i:Nat):iK (u.bs N i)/\(u.bs N i).length<=16:=by
 by_cases h:i<8
 ·exact hg i h
 ·unfold WM.bs
  rw[ai (by omega)];exact⟨λ_ hx=>(by cases hx),by simp⟩
theorem zQ{E Rs:List Nat}{N x:Nat}{t:Tb.T}{u:WM}{fl:List Ft}{fv:Value}{B:Nat}{q:DP}{W:World}{V:Nat->Option Addr}{c:Nat->Nat}(ok:WOk N u)(htN:t.ns.length=N)(h:DIn (qfS u N) E Rs N t q W x (u.ko N))(hv:∀i,i<8->iI W W (.slice (V i) (u.bs N i).length (c i)) (u.bs N i))(hg:∀i,i<8->iK (u.bs N i)/\(u.bs N i).length<=16)
  (hsf:ju W B fv fl) (hB:B<=W.heap.size) (hf:jc fl=true):
  Calls Tryz.prog 75 #[↑(q.gs,0),s8 λi=>.slice (V i) (u.bs N i).length (c i),jK (u.at_ N),fv] W λe w'=>∃f,e=.returned (.tuple #[.agg (hdC f),↑(0:Int)])/\SC N u fl f W w'/\∃S',DIn (qfT u 0) E Rs N t {q with S:=S'} w' x (u.took N fl 0)/\Eff (q.all x N) (({q with S:=S'}:DP).all x N) W w'/\(∀b,b∈hdB f->b∈S')/\∀b,b∈E->w'.heap[b]?=W.heap[b]?:=by
 obtain⟨n4,n8⟩:=ok.n4;obtain⟨n1,n2,n3,n4',n5,n6,n7,n8',n9,n10⟩:=h.nes;have hat:=λi=>WM.qA ok i;have hbl:=Iz n8 hg;have hp0:(u.said N fl).c.p=-1\/∃j:Nat,(u.said N fl).c.p=j/\j<N:=Air.pG _ ok.s 0;have hp1:(u.said N fl).d.p=-1\/∃j:Nat,(u.said N fl).d.p=j/\j<N:=Air.pG _ ok.t 1;have g0m:q.g0∈q.fx x:=by simp[DP.fx]
 have g1m:q.g1∈q.fx x:=by simp[DP.fx]
 have hro:∀k,k∈q.S->k<W.heap.size:=λk hk=>h.lX k (.inr (.inl hk));have l0:=h.lX _ (.inl g0m);have l1:=h.lX _ (.inl g1m);have hS:=IB ⟨λk=>gsS q.S q.g0 k\/W.heap.size<=k,(gsS q.S q.g0).ro⟩ ⟨λk=>gsS q.S q.g1 k\/W.heap.size<=k,(gsS q.S q.g1).ro⟩ q.gs q.g0 q.g1 N t u.s u.t V c (u.bs N) (u.at_ N) fv fl B (u.air N fl) (u.said N fl) W
  h.star (h.s.mono (λ_ h=>.inl h) λ_ h=>h) (h.t.mono (λ_ h=>.inl h) λ_ h=>h) ⟨n8',n9⟩
  (λhq=>by
   rcases hq with((e|e)|e)|e
   ·exact n10 e
   ·exact(h.sep _ g0m).1 e
   ·omega
   ·exact(h.sep _ g0m).1 e)
  (λhq=>by
   rcases hq with((e|e)|e)|e
   ·exact n10 e.symm
   ·exact(h.sep _ g1m).1 e
   ·omega
   ·exact(h.sep _ g1m).1 e)
  (λ_ hk=>.inr hk) (λ_ hk=>.inr hk) hro hro htN n8 hv (λi=>(hbl i).1) (λi=>by have:=(hbl i).2;omega) (λi=>by have:=hat i;omega) hsf hB hf rfl rfl
  ok.s.slot (by have:=ok.s.now;unfold time;omega) (by have:=ok.s.wi;omega) ok.t.slot (by have:=ok.t.now;unfold time;omega) (by have:=ok.t.wi;omega)
  (ok.s.ok n8 (WM.nI ok hf _)) (ok.t.ok n8 (WM.nI ok hf _)) ok.s.si2 ok.t.si2 hp0 hp1 (λk hk=>Air.rZ _ _ _ k hk) (λk hk=>Air.rZ _ _ _ k hk)
 refine hS.mono ?_;rintro e w' ⟨f,rfl,hH,hG0,hG1,hO⟩;have hSC:SC N u fl f W w':=⟨λi hi=>(hH i (by omega)).eq hi,λi hi=>by
   obtain⟨l,a1,a2⟩:=(hH i (by omega)).X;obtain⟨l',b1,b2⟩:=(hH i (by omega)).Y;have e1:=a2 hi;have e2:=b2 hi;subst e1 e2;exact⟨a1,b1⟩,λi hi=>by
   obtain⟨l,a1,a2⟩:=(hH i hi).X;obtain⟨l',b1,b2⟩:=(hH i hi).Y;exact⟨⟨l,a1⟩,l',b1⟩,n8⟩
 obtain⟨hw,he⟩:=h.vg hO hG0 hG1;refine⟨f,rfl,hSC,newF q.S W w',?_,he,λb hb=>?_,λb hb=>hO.block b (h.lX b (.inr (.inr hb))) λhm=>?_⟩
 ·refine hw.qf_ (by rw[WM.qB];rfl) (by rw[WM.qB];rfl) (by rw[WM.qB];rfl) λi hi m hn em=>?_
  rw[WM.qB];show RN (qfT u 0 i) _ _ _ _ ((u.ko N).ms i);have eq:qfT u 0 i=qfS u N i:=by unfold qfT qfS;rw[ai (by omega),au hi]
  rw[eq];have em':m=(u.ko N).ms i:=em;rw[<-em'];exact hn
 ·obtain⟨i,hi,hm⟩:=oC.1 hb
  obtain⟨⟨l,o1⟩,l',o2⟩:=hSC.all i hi;refine nH.2 (.inr (.inl ?_));rcases hm with hm|hm
  ·exact o1.lt b hm
  ·exact o2.lt b hm
 ·rcases bq.1 hm with e|hm
  ·subst e
   exact(h.sep _ g0m).2 hb
  ·rw[bD.1 hm]at hb
   exact(h.sep _ g1m).2 hb
structure DT(P Rs:List Nat)(N x:Nat)(t:Tb.T)(u:WM)(fl:List Ft)(ph:Nat)(f:Nat->Hd)(S:Nat)(D0:List Nat)(w0:World)(k:Nat)(E:List Nat)(q:DP)(W:World):Prop where
 win:DIn (qfT u k) E Rs N t q W x (u.took N fl k)
 phE:ph∈E
 xs:∀b,b∈hdB f->b∈q.S
 ps:∀p,p∈P->p∈E
 H:HAt W ph f
 sc:SC N u fl f S W
 eff:Eff D0 (q.all x N) w0 W
theorem DT.take{P Rs:List Nat}{N x:Nat}{t:Tb.T}{u:WM}{fl:List Ft}{ph:Nat}{f:Nat->Hd}{S:Nat}{D0:List Nat}{w0 W:World}{k:Nat}{E:List Nat}{q:DP}(h:DT P Rs N x t u fl ph f S D0 w0 k E q W)(ok:WOk N u)(hf:jc fl=true)(hk:k<N):
  Calls Tryz.prog 76 #[↑(q.gp k,0),.agg #[↑(f k).A,↑(f k).B,(f k).X,(f k).Y,↑(f k).o]] W λe w'=>∃q',e=.returned (.tuple #[])/\DT P Rs N x t u fl ph f S D0 w0 (k+1) E q' w':=by
 have hn:=h.win.nd k hk;rw[u.zR fl hk]at hn;have eq:qfT u k k=isS (u.ms k).iL.se:=by unfold qfT;rw[ai (by omega)]
 rw[eq]at hn;obtain⟨e1,e2,e3⟩:=h.sc.eq k hk;obtain⟨o1,o2⟩:=h.sc.own k hk;rw[e1,e2,e3];have hby:iK (u.hear N fl k).x/\iK (u.hear N fl k).y:=jy.zT _ _ _ _;have hof:-1099511627776<=(u.hear N fl k).o/\(u.hear N fl k).o<=1099511627776:=by
  have a1:=(u.said N fl).zU (u.air N fl) (u.at_ N k) k 10004000 (by decide) (λi=>WM.qC ok hf i) (by have:=WM.qA ok k;omega);unfold WM.hear;omega
 obtain⟨y1,y2⟩:=ok.ty k hk;have ytm:=ok.tm k hk;have hh:HOk W (u.hear N fl k) (f k).X (f k).Y:=⟨o1.sees,hby.1,o2.sees,hby.2,hof⟩;refine(IC (u.hear N fl k) hn hh y1 y2 (by omega) (hn.j.zV _ hof)).mono ?_;rintro _ w' ⟨F',rfl,hn',he⟩;obtain⟨F'',hw,he2⟩:=h.win.eff hk hn' he;rw[WM.zW,Iu]at hw;have hea:=h.win.u7 hk he2;have hold:∀b,b∈q.S\/b∈E->w'.heap[b]?=W.heap[b]?:=λb hb=>he.1.block b (h.win.lX b (.inr hb)) (h.win.own k hk b (.inr hb));exact⟨{q with F:=je q.F k F''},rfl,hw,h.phE,h.xs,h.ps,h.H.same (hold _ (.inr h.phE)),h.sc.keep λb hb=>hold b (.inl (h.xs b hb)),h.eff.ow hea⟩
theorem DT.behind{P E Rs:List Nat}{N x:Nat}{t:Tb.T}{u:WM}{fl:List Ft}{q:DP}{f:Nat->Hd}{S:Nat}{D0:List Nat}{w0 w5:World}(hw:DIn (qfT u 0) E Rs N t q w5 x (u.took N fl 0))(sc:SC N u fl f S w5)(hxs:∀b,b∈hdB f->b∈q.S)(hP:∀p,p∈P->p∈E)(he:Eff D0 (q.all x N) w0 w5):
  DT P Rs N x t u fl w5 f S D0 w0 0 (w5.heap.size::E) q ((w5.alloc (.cells (hdC λ_=>hdz) 154)).setCells w5 0 (hdC f).toList):=by
 obtain⟨hH,hB⟩:=r9 w5 w5 rfl f 154;exact⟨(hw.box (.cells (hdC λ_=>hdz) 154)).only (.inl (by simp)) (Only.setCells _ 0 (aE _ _)),by simp,hxs,λp hp=>aT _ (hP p hp),hH,sc.keep λb hb=>hB.block b (hw.lX b (.inr (.inl (hxs b hb)))),he.below hB⟩
theorem DT.ahead{P E Rs:List Nat}{N x:Nat}{t:Tb.T}{u:WM}{fl:List Ft}{q:DP}{f:Nat->Hd}{S ph:Nat}{D0:List Nat}{w0 w5:World}(hw:DIn (qfT u 0) E Rs N t q w5 x (u.took N fl 0))(sc:SC N u fl f S w5)(hxs:∀b,b∈hdB f->b∈q.S)(hph:ph∈E)(hP:∀p,p∈P->p∈E)(hp0:w0.heap.size<=ph)(he:Eff D0 (q.all x N) w0 w5)(ht:w5.there ph 0 (hdC f).size):
  DT P Rs N x t u fl ph f S D0 w0 0 E q (w5.setCells ph 0 (hdC f).toList):=by
 have o:Only ph w5 (w5.setCells ph 0 (hdC f).toList):=Only.setCells _ 0 (aE _ _);exact⟨hw.only (.inl hph) o,hph,hxs,hP,cO _ _ _ _ (by rw[Array.length_toList];exact ht),sc.keep λb hb=>o.block b (hw.lX b (.inr (.inl (hxs b hb)))) (λe=>by
  cases e
  exact hw.sep' _ hph (hxs _ hb)),he.new o hp0⟩
theorem DT.done{P Rs:List Nat}{N x:Nat}{t:Tb.T}{u:WM}{fl:List Ft}{ph:Nat}{f:Nat->Hd}{S:Nat}{D0:List Nat}{w0 W:World}{E:List Nat}{q:DP}(h:DT P Rs N x t u fl ph f S D0 w0 N E q W):∃D',RD D' Rs N t (W.setCell (x,2) ↑((u.sl+1:Nat):Int)) x (u.slot N fl)/\Eff D0 D' w0 (W.setCell (x,2) ↑((u.sl+1:Nat):Int)):=by
 obtain⟨hs,he⟩:=h.win.slots (u.sl+1);rw[WM.zX]at hs;refine⟨q.all x N,⟨q,rfl,(hs.less (P':=[]) (λp hp=>by cases hp)).qf_ rfl rfl rfl λi hi m hn em=>?_⟩,h.eff.ow he⟩;rw[<-em];exact hn.any
end
section
set_option maxRecDepth 100000
set_option maxHeartbeats 8000000
open Go.RowKit
theorem DT.below{P Rs:List Nat}{N x:Nat}{t:Tb.T}{u:WM}{fl:List Ft}{ph:Nat}{f:Nat->Hd}{S:Nat}{D0:List Nat}{w0 W W':World}{k:Nat}{E:List Nat}{q:DP}(h:DT P Rs N x t u fl ph f S D0 w0 k E q W)(b:Below W W W'):DT P Rs N x t u fl ph f S D0 w0 k E q W':=
 ⟨h.win.below b,h.phE,h.xs,h.ps,h.H.below b (h.win.lX ph (.inr (.inr h.phE))),h.sc.keep λk hk=>b.block k (h.win.lX k (.inr (.inl (h.xs k hk)))),h.eff.below b⟩
theorem RD.lt{D Rs:List Nat}{N x:Nat}{t:Tb.T}{u:WM}{W:World}(h:RD D Rs N t W x u):x<W.heap.size:=by
 obtain⟨q,-,h⟩:=h;exact h.blk.lt
theorem RD.below{D Rs:List Nat}{N x:Nat}{t:Tb.T}{u:WM}{W W':World}(h:RD D Rs N t W x u)(b:Below W W W'):RD D Rs N t W' x u:=by
 obtain⟨q,e,h⟩:=h;exact⟨q,e,h.below b⟩
theorem RD.keep{D Rs:List Nat}{N x:Nat}{t:Tb.T}{u:WM}{W W':World}(h:RD D Rs N t W x u)(hs:W.heap.size<=W'.heap.size)(hb:∀b,b∈D->W'.heap[b]?=W.heap[b]?):RD D Rs N t W' x u:=by
 obtain⟨q,e,h⟩:=h;exact⟨q,e,h.keep hs (by rw[e];exact hb)⟩
def DwP(D Rs:List Nat)(N x:Nat)(t:Tb.T)(W:World)(r:Int)(u':WM)(e:Ending)(w':World):Prop:=e=.returned ↑r/\∃D',RD D' Rs N t w' x u'/\Eff D D' W w'
theorem IE{D Rs:List Nat}{N x B:Nat}{t:Tb.T}{u:WM}{fl:List Ft}{Af:Option Addr}{cf:Nat}{W:World}(h:RD D Rs N t W x u)(ok:WOk N u)(htN:t.ns.length=N)(hty:∀i,i<N->(u.ms i).ty.a<900)(hsl:u.sl<=1000000)(hsf:ju W B (.slice Af fl.length cf) fl)(hB:B<=W.heap.size)(hD:∀p,p∈D->B<=p):
  Calls Tryz.prog 34 #[↑(x,0),.slice Af fl.length cf] W λe w'=>DwP D Rs N x t W (if jc fl=true then 0 else 1) (if jc fl=true then u.slot N fl else u) e w':=by
 unfold DwP;have hIs:=af (show Calls Tryz.prog 73 #[.slice Af fl.length cf] W λe w'=>e=.returned ↑(jc fl)/\Below W W w' from zY _ fl B W hsf hB);by_cases his:jc fl=true
 case neg=>
  rw[ai his,ai his];have hno:jc fl=false:=by cases e:jc fl<;>simp_all
  go_enter Tryz.func34,Tryz.ntmps34
  go_wp2_with fail;refine hIs.o.mono ?_;rintro e w1 ⟨rfl,hb1⟩;have hfin:=af (show ∃D',RD D' Rs N t w1 x u/\Eff D D' W w1 from⟨D,h.below hb1,pI (Rs:=Rs) hb1⟩);rw[hno];clear h hb1 hIs;go_wp2_with fail;go_ret;exact⟨rfl,hfin.o⟩
 rw[au his,au his];obtain⟨q0,eD,h⟩:=h;obtain⟨n4,n8⟩:=ok.n4;have hsF:=af (show ∀W1 D1,Eff D D1 W W1->ju W1 B (.slice Af fl.length cf) fl from λW1 D1 b=>hsf.below (b.1.below hD hB));clear hsf
 go_enter Tryz.func34,Tryz.ntmps34
 go_wp2_with fail;refine hIs.o.mono ?_;rintro e w1 ⟨rfl,hb1⟩;have h1:=h.below hb1;rw[his];have h2:=(h1.box (.cells zS 150)).box (.cells zI 22);have Y2:=(aJ w1 w1 rfl (sl8 (λ_=>none) (λ_=>0) (u.bsK 0)) 150).alloc (.cells zI 22);have Z2:=aJ (w1.alloc (.cells zS 150)) (w1.heap.size+1) (by simp) (i8 (u.atK 0)) 22;have eY:sl8 (λ_=>none) (λ_=>0) (u.bsK 0)=zS:=by simp[sl8,WM.bsK]
 have eZ:i8 (u.atK 0)=zI:=by simp[i8,WM.atK]
 rw[show(w1.alloc (.cells zS 150)).heap.size=w1.heap.size+1 by simp]at h2;have hEf:Eff D (q0.all x N) W ((w1.alloc (.cells zS 150)).alloc (.cells zI 22)):=by
  rw[eD];exact pI (Rs:=Rs) ((hb1.trans (((ah w1 w1).alloc lr (.cells zS 150)).mono hb1.size)).trans (((ah (w1.alloc (.cells zS 150)).heap.size (w1.alloc (.cells zS 150))).alloc lr (.cells zI 22)).mono (by have:=hb1.size;simp;omega)))
 have hA:DA [] Rs N x t u w1 D W 0 0 q0 (λ_=>none) (λ_=>0) ((w1.alloc (.cells zS 150)).alloc (.cells zI 22)):=by
  refine⟨?_,hEf,by rw[eY]at Y2 ⊢;exact Y2,by rw[eZ]at Z2 ⊢;exact Z2,λi hi=>?_,λi hi=>?_,λi hi=>by omega,λi hi=>⟨rfl,rfl⟩,hb1.size⟩
  ·rw[WM.zZ,show qfS u 0=λ_=>jO from funext λi=>by unfold qfS;rw[ai (by omega)]]
   exact h2
  ·rw[show u.bsK 0 i=[] by simp[WM.bsK]];exact bR
  ·rw[show u.bsK 0 i=[] by simp[WM.bsK]];exact⟨λx hx=>(by cases hx),by simp⟩
 have hA:=af hA;clear h h1 hb1 hIs Y2 Z2 eY eZ h2 hEf;go_wp2_with fail;generalize(w1.alloc (.cells zS 150)).alloc (.cells zI 22)=w2 at *;generalize w1.heap.size=ps at *
 go_loopw [7] (λi wr=>∃(k:Nat)(q:DP)(V:Nat->Option Addr)(c:Nat->Nat),k<=N/\i=↑(k:Nat)/\DA [] Rs N x t u ps D W k k q V c wr) (λi _=>N-(intOf i).toNat)
 case atStart=>exact⟨0,q0,_,_,by omega,rfl,hA.o⟩
 case round=>
  clear hA;obtain⟨k,q,V,c,hk,rfl,h⟩:=hrel;have x0:=h.win.blk.cell 0 (x:=.slice (some (q.nb,0)) N q.cap) rfl;by_cases hlt:k<N
  ·have r1:decide ((k:Int)<(N:Nat))=true:=by simp;omega
   have i8':(k:Int)<8:=by omega
   have ptr:=h.win.ptr k hlt;have hcp:=h.win.cap;have tm0:=(z8 (h.win.nd k hlt)).2;rw[u.vl k]at tm0;have a2:=h.Z.cell k (l7 (u.atK k) k (by omega));have a3:=h.Z.frozen k;have h2:=h.tells (by omega);have x1:=h2.win.blk.cell 0 (x:=.slice (some (q.nb,0)) N q.cap) rfl;have p1:=h2.win.ptr k hlt;have HS:=af (h2.send hlt (hty k hlt));clear h h2;go_wp2_with fail;refine HS.o.mono ?_;rintro e w4 ⟨A',c',q',rfl,hC⟩;have a0:=hC.Y.cell k (Aa V c (u.bsK k) k (by omega));have a1:=hC.Y.frozen k;have hS5:=af (hC.store hlt n8);clear hC HS x0 ptr tm0 a2 a3 x1 p1;go_wp2_with fail;go_roundw
   case rel=>exact⟨k+1,q',_,_,by omega,by go_num,hS5.o⟩
   case measure=>simp[intOf];omega
  ·obtain rfl:k=N:=by omega
   have r1:decide ((k:Int)<(k:Nat))=false:=by simp
   have hSW:∀W,Blk W ps (sl8 V c (u.bsK k)) 150->Blk W (ps+1) (i8 (u.atK k)) 22->W.cell? (x,1)=some ↑(q.gs,0)->W.cell? (x,1)=some ↑(q.gs,0)/\W.cell? (ps,0)=some (.slice (V 0) (u.bsK k 0).length (c 0))/\W.cell? (ps,1)=some (.slice (V 1) (u.bsK k 1).length (c 1))/\W.cell? (ps,2)=some (.slice (V 2) (u.bsK k 2).length (c 2))/\W.cell? (ps,3)=some (.slice (V 3) (u.bsK k 3).length (c 3))/\W.cell? (ps,4)=some (.slice (V 4) (u.bsK k 4).length (c 4))/\W.cell? (ps,5)=some (.slice (V 5) (u.bsK k 5).length (c 5))/\W.cell? (ps,6)=some (.slice (V 6) (u.bsK k 6).length (c 6))/\W.cell? (ps,7)=some (.slice (V 7) (u.bsK k 7).length (c 7))/\W.cell? (ps+1,0)=some ↑(u.atK k 0)/\W.cell? (ps+1,1)=some ↑(u.atK k 1)/\W.cell? (ps+1,2)=some ↑(u.atK k 2)/\W.cell? (ps+1,3)=some ↑(u.atK k 3)/\W.cell? (ps+1,4)=some ↑(u.atK k 4)/\W.cell? (ps+1,5)=some ↑(u.atK k 5)/\W.cell? (ps+1,6)=some ↑(u.atK k 6)/\W.cell? (ps+1,7)=some ↑(u.atK k 7):=λW Y Z e1=>⟨e1,Y.cell 0 rfl,Y.cell 1 rfl,Y.cell 2 rfl,Y.cell 3 rfl,Y.cell 4 rfl,Y.cell 5 rfl,Y.cell 6 rfl,Y.cell 7 rfl,Z.cell 0 rfl,Z.cell 1 rfl,Z.cell 2 rfl,Z.cell 3 rfl,Z.cell 4 rfl,Z.cell 5 rfl,Z.cell 6 rfl,Z.cell 7 rfl⟩;have hSW:=af hSW;have e1:=h.win.blk.cell 1 (x:=↑(q.gs,0)) rfl;have T0:=hSW.o wr.drew h.Y.drew h.Z.drew e1;have T0':=T0;obtain⟨x1,y0,y1,y2,y3,y4,y5,y6,y7,z0,z1,z2,z3,z4,z5,z6,z7⟩:=T0';have hd:=h.below ((ah wr wr).drew);have hEw:=(hsF.o _ _ hd.eff);have hBw:B<=wr.heap.size:=aW hB h.eff.1.size;have HS1:=zQ ok htN hd.win (λi hi=>(hd.own i hi).sees) hd.ok hEw hBw his;have hx:=(h.win.box (.cells (hdC λ_=>hdz) 154)).below ((ah (wr.alloc (.cells (hdC λ_=>hdz) 154)).heap.size (wr.alloc (.cells (hdC λ_=>hdz) 154))).drew);have hxe:=h.eff.below ((((ah wr wr).alloc lr (.cells (hdC λ_=>hdz) 154))).drew);have HS2:=zQ ok htN hx (λi hi=>((h.own i hi).alloc (.cells (hdC λ_=>hdz) 154)).drew.sees) hd.ok (hsF.o _ _ hxe) (aW hBw (by simp)) his;have T1:=hSW.o (wr.alloc (.cells (hdC λ_=>hdz) 154)).drew (h.Y.alloc (.cells (hdC λ_=>hdz) 154)).drew (h.Z.alloc (.cells (hdC λ_=>hdz) 154)).drew (hx.blk.cell 1 rfl);rw[<-WM.Ae u k,<-WM.Ag u k]at HS1 HS2;unfold s8 jK at HS1 HS2;have hpw:W.heap.size<=wr.heap.size:=h.eff.1.size;have HS1:=af (HS1.mono (R':=λe w5=>∃f,e=.returned (.tuple #[.agg (hdC f),↑(0:Int)])/\Hid (((hdC f).all (·.oneCell')=true)/\(w5.cell? (x,1)=some ↑(q.gs,0)/\w5.cell? (ps,0)=some (.slice (V 0) (u.bsK k 0).length (c 0))/\w5.cell? (ps,1)=some (.slice (V 1) (u.bsK k 1).length (c 1))/\w5.cell? (ps,2)=some (.slice (V 2) (u.bsK k 2).length (c 2))/\w5.cell? (ps,3)=some (.slice (V 3) (u.bsK k 3).length (c 3))/\w5.cell? (ps,4)=some (.slice (V 4) (u.bsK k 4).length (c 4))/\w5.cell? (ps,5)=some (.slice (V 5) (u.bsK k 5).length (c 5))/\w5.cell? (ps,6)=some (.slice (V 6) (u.bsK k 6).length (c 6))/\w5.cell? (ps,7)=some (.slice (V 7) (u.bsK k 7).length (c 7))/\w5.cell? (ps+1,0)=some ↑(u.atK k 0)/\w5.cell? (ps+1,1)=some ↑(u.atK k 1)/\w5.cell? (ps+1,2)=some ↑(u.atK k 2)/\w5.cell? (ps+1,3)=some ↑(u.atK k 3)/\w5.cell? (ps+1,4)=some ↑(u.atK k 4)/\w5.cell? (ps+1,5)=some ↑(u.atK k 5)/\w5.cell? (ps+1,6)=some ↑(u.atK k 6)/\w5.cell? (ps+1,7)=some ↑(u.atK k 7))/\((w5.alloc (.cells (hdC λ_=>hdz) 154)).cell? (x,1)=some ↑(q.gs,0)/\(w5.alloc (.cells (hdC λ_=>hdz) 154)).cell? (ps,0)=some (.slice (V 0) (u.bsK k 0).length (c 0))/\(w5.alloc (.cells (hdC λ_=>hdz) 154)).cell? (ps,1)=some (.slice (V 1) (u.bsK k 1).length (c 1))/\(w5.alloc (.cells (hdC λ_=>hdz) 154)).cell? (ps,2)=some (.slice (V 2) (u.bsK k 2).length (c 2))/\(w5.alloc (.cells (hdC λ_=>hdz) 154)).cell? (ps,3)=some (.slice (V 3) (u.bsK k 3).length (c 3))/\(w5.alloc (.cells (hdC λ_=>hdz) 154)).cell? (ps,4)=some (.slice (V 4) (u.bsK k 4).length (c 4))/\(w5.alloc (.cells (hdC λ_=>hdz) 154)).cell? (ps,5)=some (.slice (V 5) (u.bsK k 5).length (c 5))/\(w5.alloc (.cells (hdC λ_=>hdz) 154)).cell? (ps,6)=some (.slice (V 6) (u.bsK k 6).length (c 6))/\(w5.alloc (.cells (hdC λ_=>hdz) 154)).cell? (ps,7)=some (.slice (V 7) (u.bsK k 7).length (c 7))/\(w5.alloc (.cells (hdC λ_=>hdz) 154)).cell? (ps+1,0)=some ↑(u.atK k 0)/\(w5.alloc (.cells (hdC λ_=>hdz) 154)).cell? (ps+1,1)=some ↑(u.atK k 1)/\(w5.alloc (.cells (hdC λ_=>hdz) 154)).cell? (ps+1,2)=some ↑(u.atK k 2)/\(w5.alloc (.cells (hdC λ_=>hdz) 154)).cell? (ps+1,3)=some ↑(u.atK k 3)/\(w5.alloc (.cells (hdC λ_=>hdz) 154)).cell? (ps+1,4)=some ↑(u.atK k 4)/\(w5.alloc (.cells (hdC λ_=>hdz) 154)).cell? (ps+1,5)=some ↑(u.atK k 5)/\(w5.alloc (.cells (hdC λ_=>hdz) 154)).cell? (ps+1,6)=some ↑(u.atK k 6)/\(w5.alloc (.cells (hdC λ_=>hdz) 154)).cell? (ps+1,7)=some ↑(u.atK k 7))/\∃w6,(storeCells (w5,0) (hdC f).toList).run Tryz.prog (w5.alloc (.cells (hdC λ_=>hdz) 154))=.ok () w6/\(w6.cell? (x,1)=some ↑(q.gs,0)/\w6.cell? (ps,0)=some (.slice (V 0) (u.bsK k 0).length (c 0))/\w6.cell? (ps,1)=some (.slice (V 1) (u.bsK k 1).length (c 1))/\w6.cell? (ps,2)=some (.slice (V 2) (u.bsK k 2).length (c 2))/\w6.cell? (ps,3)=some (.slice (V 3) (u.bsK k 3).length (c 3))/\w6.cell? (ps,4)=some (.slice (V 4) (u.bsK k 4).length (c 4))/\w6.cell? (ps,5)=some (.slice (V 5) (u.bsK k 5).length (c 5))/\w6.cell? (ps,6)=some (.slice (V 6) (u.bsK k 6).length (c 6))/\w6.cell? (ps,7)=some (.slice (V 7) (u.bsK k 7).length (c 7))/\w6.cell? (ps+1,0)=some ↑(u.atK k 0)/\w6.cell? (ps+1,1)=some ↑(u.atK k 1)/\w6.cell? (ps+1,2)=some ↑(u.atK k 2)/\w6.cell? (ps+1,3)=some ↑(u.atK k 3)/\w6.cell? (ps+1,4)=some ↑(u.atK k 4)/\w6.cell? (ps+1,5)=some ↑(u.atK k 5)/\w6.cell? (ps+1,6)=some ↑(u.atK k 6)/\w6.cell? (ps+1,7)=some ↑(u.atK k 7))/\∃S E q',DT [] Rs k x t u fl w5 f S D W 0 E q' w6)) λe w5⟨f,e0,hsc,S',hw5,he5,hxs,hkp⟩=>⟨f,e0,af (by
    have hY5:Blk w5 ps (sl8 V c (u.bsK k)) 150:=(hkp ps (by simp)).trans h.Y.drew;have hZ5:Blk w5 (ps+1) (i8 (u.atK k)) 22:=(hkp (ps+1) (by simp)).trans h.Z.drew;have hl:=r9 w5 w5 rfl f 154;have hth:=vn w5 w5 rfl 154;have hTA:=DT.behind (P:=[]) hw5 hsc hxs (λp hp=>by cases hp) (hd.eff.ow he5);have T3:=hSW.o (w5.alloc (.cells (hdC λ_=>hdz) 154)) (hY5.alloc _) (hZ5.alloc _) ((hw5.box (.cells (hdC λ_=>hdz) 154)).blk.cell 1 rfl);have T4:=hSW.o _ (hY5.below hl.2 hY5.lt) (hZ5.below hl.2 hZ5.lt) ((hw5.below hl.2).blk.cell 1 rfl);rw[show(40:Nat)=(hdC f).size from rfl]at hth;exact⟨lH f (λi hi=>(hsc.forms i hi).1) (λi hi=>(hsc.forms i hi).2),hSW.o w5 hY5 hZ5 (hw5.blk.cell 1 rfl),T3,_,su hth (lH f (λi hi=>(hsc.forms i hi).1) (λi hi=>(hsc.forms i hi).2)),T4,_,_,_,hTA⟩)⟩)
   have HS2:=af (HS2.mono (R':=λe w5=>∃f,e=.returned (.tuple #[.agg (hdC f),↑(0:Int)])/\Hid (((hdC f).all (·.oneCell')=true)/\(w5.cell? (x,1)=some ↑(q.gs,0)/\w5.cell? (ps,0)=some (.slice (V 0) (u.bsK k 0).length (c 0))/\w5.cell? (ps,1)=some (.slice (V 1) (u.bsK k 1).length (c 1))/\w5.cell? (ps,2)=some (.slice (V 2) (u.bsK k 2).length (c 2))/\w5.cell? (ps,3)=some (.slice (V 3) (u.bsK k 3).length (c 3))/\w5.cell? (ps,4)=some (.slice (V 4) (u.bsK k 4).length (c 4))/\w5.cell? (ps,5)=some (.slice (V 5) (u.bsK k 5).length (c 5))/\w5.cell? (ps,6)=some (.slice (V 6) (u.bsK k 6).length (c 6))/\w5.cell? (ps,7)=some (.slice (V 7) (u.bsK k 7).length (c 7))/\w5.cell? (ps+1,0)=some ↑(u.atK k 0)/\w5.cell? (ps+1,1)=some ↑(u.atK k 1)/\w5.cell? (ps+1,2)=some ↑(u.atK k 2)/\w5.cell? (ps+1,3)=some ↑(u.atK k 3)/\w5.cell? (ps+1,4)=some ↑(u.atK k 4)/\w5.cell? (ps+1,5)=some ↑(u.atK k 5)/\w5.cell? (ps+1,6)=some ↑(u.atK k 6)/\w5.cell? (ps+1,7)=some ↑(u.atK k 7))/\∃w6,(storeCells (wr,0) (hdC f).toList).run Tryz.prog w5=.ok () w6/\(w6.cell? (x,1)=some ↑(q.gs,0)/\w6.cell? (ps,0)=some (.slice (V 0) (u.bsK k 0).length (c 0))/\w6.cell? (ps,1)=some (.slice (V 1) (u.bsK k 1).length (c 1))/\w6.cell? (ps,2)=some (.slice (V 2) (u.bsK k 2).length (c 2))/\w6.cell? (ps,3)=some (.slice (V 3) (u.bsK k 3).length (c 3))/\w6.cell? (ps,4)=some (.slice (V 4) (u.bsK k 4).length (c 4))/\w6.cell? (ps,5)=some (.slice (V 5) (u.bsK k 5).length (c 5))/\w6.cell? (ps,6)=some (.slice (V 6) (u.bsK k 6).length (c 6))/\w6.cell? (ps,7)=some (.slice (V 7) (u.bsK k 7).length (c 7))/\w6.cell? (ps+1,0)=some ↑(u.atK k 0)/\w6.cell? (ps+1,1)=some ↑(u.atK k 1)/\w6.cell? (ps+1,2)=some ↑(u.atK k 2)/\w6.cell? (ps+1,3)=some ↑(u.atK k 3)/\w6.cell? (ps+1,4)=some ↑(u.atK k 4)/\w6.cell? (ps+1,5)=some ↑(u.atK k 5)/\w6.cell? (ps+1,6)=some ↑(u.atK k 6)/\w6.cell? (ps+1,7)=some ↑(u.atK k 7))/\∃S E q',DT [] Rs k x t u fl wr f S D W 0 E q' w6)) λe w5⟨f,e0,hsc,S',hw5,he5,hxs,hkp⟩=>⟨f,e0,af (by
    have hY5:Blk w5 ps (sl8 V c (u.bsK k)) 150:=(hkp ps (by simp)).trans (h.Y.alloc (.cells (hdC λ_=>hdz) 154)).drew;have hZ5:Blk w5 (ps+1) (i8 (u.atK k)) 22:=(hkp (ps+1) (by simp)).trans (h.Z.alloc (.cells (hdC λ_=>hdz) 154)).drew;have hX5:Blk w5 wr (hdC λ_=>hdz) 154:=(hkp wr (by simp)).trans (aJ wr wr rfl (hdC λ_=>hdz) 154).drew;have hth:w5.there wr 0 (hdC f).size:=λi hi=>⟨by rw[bU,hX5.cell i (cm (by simpa[hdC]using hi))];rfl,hX5.frozen _⟩;have o6:Only wr w5 (w5.setCells wr 0 (hdC f).toList):=Only.setCells _ 0 (aE _ _);have hYl:=h.Y.lt;have hZl:=h.Z.lt;have T4:=hSW.o _ (hY5.only o6 (by omega)) (hZ5.only o6 (by omega)) ((hw5.only (.inl (by simp)) o6).blk.cell 1 rfl);exact⟨lH f (λi hi=>(hsc.forms i hi).1) (λi hi=>(hsc.forms i hi).2),hSW.o w5 hY5 hZ5 (hw5.blk.cell 1 rfl),_,su hth (lH f (λi hi=>(hsc.forms i hi).1) (λi hi=>(hsc.forms i hi).2)),T4,_,_,_,DT.ahead (P:=[]) hw5 hsc hxs (by simp) (λp hp=>by cases hp) hpw (hxe.ow he5) hth⟩)⟩)
   rw[Ah]at HS1 HS2 T1;have h:=af h;clear hd hx hEw hxe;go_wp2_with fail
   go_region_held3 (λW=>W.cell? (x,1)=some ↑(q.gs,0)/\W.cell? (ps,0)=some (.slice (V 0) (u.bsK k 0).length (c 0))/\W.cell? (ps,1)=some (.slice (V 1) (u.bsK k 1).length (c 1))/\W.cell? (ps,2)=some (.slice (V 2) (u.bsK k 2).length (c 2))/\W.cell? (ps,3)=some (.slice (V 3) (u.bsK k 3).length (c 3))/\W.cell? (ps,4)=some (.slice (V 4) (u.bsK k 4).length (c 4))/\W.cell? (ps,5)=some (.slice (V 5) (u.bsK k 5).length (c 5))/\W.cell? (ps,6)=some (.slice (V 6) (u.bsK k 6).length (c 6))/\W.cell? (ps,7)=some (.slice (V 7) (u.bsK k 7).length (c 7))/\W.cell? (ps+1,0)=some ↑(u.atK k 0)/\W.cell? (ps+1,1)=some ↑(u.atK k 1)/\W.cell? (ps+1,2)=some ↑(u.atK k 2)/\W.cell? (ps+1,3)=some ↑(u.atK k 3)/\W.cell? (ps+1,4)=some ↑(u.atK k 4)/\W.cell? (ps+1,5)=some ↑(u.atK k 5)/\W.cell? (ps+1,6)=some ↑(u.atK k 6)/\W.cell? (ps+1,7)=some ↑(u.atK k 7))
    ((first|exact T0|exact T1|exact T2|exact T3|exact T4))
    (first
     |(go_at_call 75;first
      |(with_reducible refine HS1.o.mono ?_;rintro e w5 ⟨f,rfl,hbd⟩;obtain⟨-,T2,T3,w6,hst,T4,SS,EE,q1,hTA⟩:=hbd.o;have hTA:=af hTA;clear hbd)
      |(with_reducible refine HS2.o.mono ?_;rintro e w5 ⟨f,rfl,hbd⟩;obtain⟨-,T2,w6,hst,T4,SS,EE,q1,hTA⟩:=hbd.o;have hTA:=af hTA;clear hbd)
      |fail)
     |fail)
   have oD:∃S E q',DT [] Rs k x t u fl w5 f S D W 0 E q' w6:=⟨_,_,_,hTA.o⟩;obtain⟨SS,EE,q1,hT⟩:=oD;have hT:=af hT;clear hTA T0 T1 T2 T4 hst x1 y0 y1 y2 y3 y4 y5 y6 y7 z0 z1 z2 z3 z4 z5 z6 z7 hSW e1 HS1 HS2 h;generalize w5.heap.size=ph at *;rotate_left 1;have oD:∃S E q',DT [] Rs k x t u fl wr f S D W 0 E q' w6:=⟨_,_,_,hTA.o⟩;obtain⟨SS,EE,q1,hT⟩:=oD;have hT:=af hT;clear hTA T0 T1 T2 T4 hst x1 y0 y1 y2 y3 y4 y5 y6 y7 z0 z1 z2 z3 z4 z5 z6 z7 hSW e1 HS1 HS2 h;generalize wr.heap.size=ph at *
   all_goals
    go_wp2_with fail
    go_loopw [10] (λi wz=>∃(j:Nat)(q':DP),j<=k/\i=↑(j:Nat)/\DT [] Rs k x t u fl ph f SS D W j EE q' wz) (λi _=>k-(intOf i).toNat)
    case atStart=>exact⟨0,q1,by omega,rfl,hT.o⟩
    case round=>
     clear hT;obtain⟨j,q',hj,rfl,h⟩:=hrel;have x0:=h.win.blk.cell 0 (x:=.slice (some (q'.nb,0)) k q'.cap) rfl;by_cases hlt:j<k
     ·have r2:decide ((j:Int)<(k:Nat))=true:=by simp;omega
      have j8:(j:Int)<8:=by omega
      have ptr:=h.win.ptr j hlt;have hcp:=h.win.cap;obtain⟨c0,c1,c2,c3,c4⟩:=h.H.get j (by omega);have HT:=af ((h.below (ah wr wr).drew).take ok his hlt);clear h;go_wp2_with fail
      go_region_with (first
       |(go_at_call 76;refine HT.o.mono ?_;rintro e w8 ⟨q2,rfl,h2⟩;have h2:=af h2)
       |fail)
      all_goals
       clear HT c0 c1 c2 c3 c4 ptr x0;go_wp2_with fail;go_roundw
       case rel=>exact⟨j+1,q2,by omega,by go_num,h2.o⟩
       case measure=>simp[intOf];omega
     ·obtain rfl:j=k:=by omega
      have r2:decide ((j:Int)<(j:Nat))=false:=by simp
      have s2:=h.win.blk.cell 2 (x:=↑(u.sl:Nat)) rfl;have f2:=h.win.blk.frozen 2;have z1:IntKind.i64.wrap ((u.sl:Int)+1)=(u.sl:Int)+1:=aO _ (by omega);have hz:((u.sl+1:Nat):Int)=(u.sl:Int)+1:=by omega
      have hfin:=h.done;rw[hz]at hfin;have hfin:=af hfin;clear h hz;go_wp2_with fail;go_ret;exact⟨rfl,hfin.o⟩
end
end Go.Proofs.YteadkhigkmijiaaGreat
