/- Texts VdN, VdO, VdS, VdK, VlA, VdR, GbA in one. -/
import Derived.Test.YteadkhigkmijiaaGreatPD1
import Derived.Test.YteadkhigkmijiaaGreatPD4
import Derived.Test.YteadkhigkmijiaaGreatPD18
import Derived.Test.YteadkhigkmijiaaGreatPD35
import Derived.Test.YteadkhigkmijiaaGreatPD47
set_option linter.all false
namespace Go.Proofs.YteadkhigkmijiaaGreat
section
open Go.RowKit
def WM.new(t:Tb.T)(dl:List Int)(l:List R4):WM:=⟨λi=>NM.new t i (dl.getD i 0) l,newG t,newG t,0⟩
def ptrs(gp:Nat->Nat)(k:Nat):List Value:=(List.range k).map λi=>↑(gp i,0)
structure NW(S:Nat)(t:Tb.T)(dl:List Int)(l:List R4)(x gs k:Nat)(gp:Nat->Nat)(F:Nat->List Nat)(v:Value)(w0 W:World):Prop where
 blk:Blk W x #[v,↑(gs,0),↑(0:Int)] 62
 star:jL W gs t.ns.length (newG t) (newG t)
 lst:W.ownsRow (x+1) 63 1 v k (ptrs gp k)
 nd:∀i,i<k->NAt (F i) W (gp i) (NM.new t i (dl.getD i 0) l)
 own:∀i,i<k->∀f,f∈F i->x+1<=f/\v.ownBlock≠some f
 dis:∀i j,i<k->j<k->i≠j->∀f,f∈F i->f∉F j
 lo:S<=gs/\gs<x
 bw:Below S w0 W
section
variable {S:Nat}{t:Tb.T}{dl:List Int}{l:List R4}{x gs k:Nat}{gp:Nat->Nat}{F:Nat->List Nat}{v:Value}{w0 W W':World}
theorem NW.lt(h:NW S t dl l x gs k gp F v w0 W):x<W.heap.size:=h.blk.lt
theorem NW.keep(h:NW S t dl l x gs k gp F v w0 W)(hs:W.heap.size<=W'.heap.size)(hb:∀b,b<W.heap.size->v.ownBlock≠some b->W'.heap[b]?=W.heap[b]?)(bw:Below S w0 W')(hl:W'.ownsRow (x+1) 63 1 v k (ptrs gp k)):NW S t dl l x gs k gp F v w0 W':=by
 have hx:=h.lt;have hvx:v.ownBlock≠some x:=λe=>by have:=(h.lst.lt x e).1;omega
 have hvg:v.ownBlock≠some gs:=λe=>by have:=(h.lst.lt gs e).1;have:=h.lo.2;omega
 exact⟨(hb x hx hvx).trans h.blk,⟨(hb gs h.star.lt hvg).trans h.star.1,h.star.2⟩,hl,λi hi=>(h.nd i hi).keep hs λf hf=>hb f ((h.nd i hi).lt f hf) (h.own i hi f hf).2,h.own,h.dis,h.lo,bw⟩
theorem NW.below(h:NW S t dl l x gs k gp F v w0 W)(b:Below W W W'):NW S t dl l x gs k gp F v w0 W':=
 h.keep b.size (λk hk _=>b.block k hk) (h.bw.trans (b.mono (aW h.lo.1 (by have:=h.lo.2;have:=h.lt;omega)))) (cB (row:=none) h.lst ⟨b.os,b.tape,b.output,b.size,λk hk _=>b.block k hk⟩ (by cases v.ownBlock<;>simp))
theorem NW.node(h:NW S t dl l x gs k gp F v w0 W)(b:Below W W W'){g:Nat}{F':List Nat}(hn:NAt F' W' g (NM.new t k (dl.getD k 0) l))(hF:∀f,f∈F'->W.heap.size<=f):
  ∃gp' F'',gp' k=g/\NW S t dl l x gs k gp' F'' v w0 W'/\NAt (F'' k) W' (gp' k) (NM.new t k (dl.getD k 0) l)/\(∀f,f∈F'' k->x+1<=f/\v.ownBlock≠some f)/\∀i,i<k->∀f,f∈F'' k->f∉F'' i:=by
 have h':=h.below b;have hx:=h.lt;have e1:∀i,i<k->je gp k g i=gp i:=λi hi=>kB _ _ _ (by omega);have e2:∀i,i<k->je F k F' i=F i:=λi hi=>kB _ _ _ (by omega);have ep:ptrs (je gp k g) k=ptrs gp k:=dK λi hi=>by rw[e1 i (cA.1 hi)]
 refine⟨je gp k g,je F k F',j9 _ _ _,⟨h'.blk,h'.star,by rw[ep];exact h'.lst,λi hi=>by rw[e1 i hi,e2 i hi];exact h'.nd i hi,λi hi f hf=>by rw[e2 i hi]at hf;exact h'.own i hi f hf,λi j hi hj hne f hf=>by rw[e2 i hi]at hf;rw[e2 j hj];exact h'.dis i j hi hj hne f hf,h'.lo,h'.bw⟩,by rw[j9,j9];exact hn,λf hf=>?_,λi hi f hf=>?_⟩
 ·rw[j9]at hf
  have:=hF f hf;refine⟨by omega,λe=>?_⟩;have:=(h.lst.lt f e).2;omega
 ·rw[j9]at hf
  rw[e2 i hi];intro hm;have:=hF f hf;have:=(h.nd i hi).lt f hm;omega
theorem NW.push(h:NW S t dl l x gs k gp F v w0 W)(hn:NAt (F k) W (gp k) (NM.new t k (dl.getD k 0) l))(hF:∀f,f∈F k->x+1<=f/\v.ownBlock≠some f)(hd:∀i,i<k->∀f,f∈F k->f∉F i){v':Value}(e:Ext W W' v v')(hl:W'.ownsRow (x+1) 63 1 v' (k+1) (ptrs gp k++[.pointer (some (gp k,0))])):
  NW S t dl l x gs (k+1) gp F v' w0 (W'.setCell (x,0) v'):=by
 have hx:=h.lt;have hvx:v.ownBlock≠some x:=λe=>by have:=(h.lst.lt x e).1;omega
 have hvg:v.ownBlock≠some gs:=λe=>by have:=(h.lst.lt gs e).1;have:=h.lo.2;omega
 have hb:∀b,b<W.heap.size->v.ownBlock≠some b->W'.heap[b]?=W.heap[b]?:=λb h1 h2=>e.grown.block b h1 (λe=>h2 e.symm);have o:Only x W' (W'.setCell (x,0) v'):=(aE _ _).set 0 _;have hsz:=e.size;have hb2:∀b,b<W.heap.size->b≠x->v.ownBlock≠some b->(W'.setCell (x,0) v').heap[b]?=W.heap[b]?:=λb h1 h2 h3=>(o.block b (by omega) (by intro e;cases e;exact h2 rfl)).trans (hb b h1 h3);have ep:ptrs gp (k+1)=ptrs gp k++[.pointer (some (gp k,0))]:=by unfold ptrs;rw[cZ,List.map_append];rfl
 have nds:∀i,i<k+1->NAt (F i) W (gp i) (NM.new t i (dl.getD i 0) l):=λi hi=>by
  by_cases ei:i=k
  ·subst ei;exact hn
  ·exact h.nd i (by omega)
 have owns:∀i,i<k+1->∀f,f∈F i->x+1<=f/\v.ownBlock≠some f:=λi hi=>by
  by_cases ei:i=k
  ·subst ei;exact hF
  ·exact h.own i (by omega)
 have hX:Blk W' x #[v,↑(gs,0),↑(0:Int)] 62:=(hb x hx hvx).trans h.blk;refine⟨(hX.set 0 v').eq (by simp),⟨(hb2 gs h.star.lt (by have:=h.lo.2;omega) hvg).trans h.star.1,h.star.2⟩,by
   rw[ep];exact cB (row:=some x) hl o (.inr λe'=>by have:=(hl.lt x e').1;omega),λi hi=>(nds i hi).keep (aW hsz o.size) λf hf=>hb2 f ((nds i hi).lt f hf) (by have:=(owns i hi f hf).1;omega) (owns i hi f hf).2,λi hi f hf=>⟨(owns i hi f hf).1,λe'=>?_⟩,λi j hi hj hne f hf=>?_,h.lo,?_⟩
 ·rcases e.lies f e' with h1|h1
  ·have:=(nds i hi).lt f hf;omega
  ·exact(owns i hi f hf).2 h1
 ·by_cases ei:i=k
  ·subst ei;exact hd j (by omega) f hf
  ·by_cases ej:j=k
   ·subst ej;exactλhm=>hd i (by omega) f hm hf
   ·exact h.dis i j (by omega) (by omega) hne f hf
 ·have hlo:=h.lo
  exact h.bw.trans ((e.toBelow (B:=S) (by omega) (λj hj=>by have:=(h.lst.lt j hj).1;omega)).setCell (p:=(x,0)) (by show S<=x;omega) v')
theorem NW.done(h:NW S t dl l x gs k gp F v w0 W)(hk:0<k)(hN:k=t.ns.length):WAt S [] k W x (WM.new t dl l):=by
 have hx:=h.lt;rcases h.lst.2 with⟨-,e⟩|⟨nb,cap,cur,rfl,hB,hg,hn,hc,hs,ht⟩
 ·omega
 ·have hlo:=h.lo
  have hnl:nb<W.heap.size:=(bT.1 hg).1;refine⟨⟨nb,gs,cap,gp,F⟩,h.blk,hnl,λi hi=>?_,by rw[hN];exact h.star,λi hi=>h.nd i hi,λi hi p hp hm=>?_,h.dis,⟨by show x≠nb;omega,by show x≠gs;omega,by show nb≠gs;omega⟩,λp hp=>(by cases hp),hn,by omega,by show S<=nb;omega,hlo.1,λi hi f hf=>by have:=(h.own i hi f hf).1;omega⟩
  ·have e1:cur.toList[i]?=some ↑(gp i,0):=by
    have:(cur.toList.take (k*1))[i]?=(ptrs gp k)[i]?:=by rw[ht]
    rw[List.getElem?_take_of_lt (by omega)]at this;rw[this];simp[ptrs,hi]
   simp only[World.cell?,hg];simpa using e1
  ·obtain⟨a,b⟩:=h.own i hi p hm
   rcases hp with e|e|e|e
   ·omega
   ·exact b (by rw[e];rfl)
   ·have e:p=gs:=e;omega
   ·cases e
end
end
section
set_option maxRecDepth 100000
set_option maxHeartbeats 4000000
open Go.RowKit
theorem Sj:(Tryz.prog.info? 63).map (λi=>(i.zero,i.size,i.bytes))=some (some (.pointer none),1,8):=by kernel_rfl
theorem Sk(w:World)(t:TypeId)(b g:Nat)(hb:b=w.heap.size):Src (w.alloc (.cells #[↑(g,0)] t)) (.slice (some (b,0)) 1 1) 1 1 [↑(g,0)]:=by
 refine .inr ⟨_,1,rfl,rfl,λj x hj=>?_,λx hx=>?_⟩
 ·match j,hj with
  |0,hj=>simp at hj;subst hj;show(w.alloc _).cell? (b,0)=_;rw[aZ _ _ _ _ hb];rfl
  |j+1,hj=>simp at hj
 ·rw[bD.1 hx];rfl
theorem FX(t:Tb.T)(tv dv rv:Value)(dl:List Int)(l:List R4)(W:World)(ht:jh W W tv t.ns)(hd:ja W W dv dl)(hr:jl W W rv l)(his:t.is=true)(hN:dl.length=t.ns.length)(hmay:∀i,i<t.ns.length->NM.may t (i:Nat) (dl.getD i 0) l):
  Calls Tryz.prog 7 #[jW t tv,dv,rv] W λe w'=>∃x,e=.returned (.tuple #[.pointer (some ⟨x,0,none⟩),↑(0:Int)])/\WAt W [] t.ns.length w' x (WM.new t dl l)/\Below W W w':=by
 have hn4:=(Tb.T.may his).n4;have hn8:=(Tb.T.may his).n8;have hbx:=(ah W W).alloc lr (.cells #[tv,↑t.dr,↑t.wi,↑t.lm] 31);have X:=aJ W W rfl #[tv,↑t.dr,↑t.wi,↑t.lm] 31;have hT:=λW'(hb:Below W W W')=>(ht.below hb).more hb.size;have hS:=λW'(hb:Below W W W')=>af (QV t tv W' (hT W' hb) his);obtain⟨Ad,cd,rfl,d1,d2,d3,d4⟩:=hd.at_;obtain⟨At,ct,rfl,-⟩:=ht.at_;unfold jW at hS ⊢;rw[hN]at d1 d3 d4 ⊢;have q0:(((t.ns.length:Nat):Int) != ((t.ns.length:Nat):Int))=false:=by simp
 have tz:∀k:Nat,((k:Nat):Int).toNat=k:=λk=>aQ k;have hNd:=λ(k:Nat)(hk:k<t.ns.length)(wr:World)(hb:Below W W wr)=>af (oP.CB t (.slice At t.ns.length ct) rv (k:Nat) (dl.getD k 0) l wr (hT wr hb) ((hr.below hb).more hb.size) (hmay k hk));simp only[aQ]at hNd;unfold jW at hNd;have hdc:Hid (∀(k:Nat)(wr:World),k<t.ns.length->Below W W wr->∃b off,Ad=some ⟨b,off,none⟩/\wr.cell? ⟨b,off+k,none⟩=some ↑(dl.getD k 0)):=af λk wr hk hb=>by
  obtain⟨b,off,e,hlt,hc⟩:=d3 (by omega);exact⟨b,off,e,(hb.cell (p:=(b,off+k)) hlt).trans (hc k hk)⟩
 generalize hNe:t.ns.length=N at *
 go_enter Tryz.func7,Tryz.ntmps7
 have x0:=X.cell 0 (x:=.slice At N ct) rfl;have x1:=X.cell 1 (x:=↑t.dr) rfl;have x2:=X.cell 2 (x:=↑t.wi) rfl;have x3:=X.cell 3 (x:=↑t.lm) rfl;go_wp2_with fail;clear x0 x1 x2 x3;refine(hS _ hbx).o.mono ?_;rintro e w1 ⟨gs,rfl,hgs,hG,hb1⟩;have X1:=X.below hb1 X.lt;have hB1:=hbx.trans (hb1.mono (by simp));have x0:=X1.cell 0 (x:=.slice At N ct) rfl;have hXl:=X.lt;have uF:W.heap.size<gs:=by(have TP:W.heap.size+1<=gs:=by simpa using hgs);omega
 have hNW:NW W t dl l w1 gs 0 (λ_=>0) (λ_=>[]) (.slice none 0 0) W (w1.alloc (.cells #[.slice none 0 0,↑(gs,0),↑(0:Int)] 62)):=
  ⟨aJ w1 _ rfl _ _,by rw[hNe];exact hG.below ((ah _ _).alloc lr _) hG.lt,dX _ _ _ _,λi hi=>by omega,λi hi=>by omega,λi j hi=>by omega,⟨by omega,hG.lt⟩,hB1.alloc hB1.size _⟩
 have X2:=X1.alloc (.cells #[.slice none 0 0,↑(gs,0),↑(0:Int)] 62);have hNW:=af hNW;have hXw:W.heap.size<w1.heap.size:=X1.lt;clear hS X X1 hb1 hB1 hG hbx;go_wp2_with fail;clear x0;generalize w1.alloc (.cells #[.slice none 0 0,↑(gs,0),↑(0:Int)] 62)=w2 at *;generalize w1.heap.size=x at *
 go_loopw [35] (λi wr=>∃(k:Nat)(gp:Nat->Nat)(F:Nat->List Nat)(v:Value),k<=N/\i=↑(k:Nat)/\NW W t dl l x gs k gp F v W wr/\Blk wr W #[.slice At N ct,↑t.dr,↑t.wi,↑t.lm] 31) (λi _=>N-(intOf i).toNat)
 case atStart=>exact⟨0,_,_,_,by omega,rfl,hNW.o,X2⟩
 case round=>
  clear hNW X2;obtain⟨k,gp,F,v,hk,rfl,h,X⟩:=hrel;by_cases hlt:k<N
  ·have r1:decide ((k:Int)<(N:Nat))=true:=by simp;omega
   obtain⟨b,off,rfl,hdr⟩:=hdc.o k wr hlt h.bw;have x0:=X.cell 0 (x:=.slice At N ct) rfl;have x1:=X.cell 1 (x:=↑t.dr) rfl;have x2:=X.cell 2 (x:=↑t.wi) rfl;have x3:=X.cell 3 (x:=↑t.lm) rfl;have hN4:=hNd k hlt wr h.bw;obtain⟨y,hy0⟩:∃y,y=dl.getD k 0:=⟨_,rfl⟩;have hy:=af hy0;rw[<-hy0]at hdr hN4;clear hy0;go_wp2_with fail;clear x0 x1 x2 x3 hdr;refine hN4.o.mono ?_;rintro e w4 ⟨g,F',rfl,hn,hF,hb4⟩;rw[hy.o]at hn;have X4:=X.below hb4 X.lt;obtain⟨gp',F'',eg,h4,hn4,hF4,hd4⟩:=h.node hb4 hn hF;subst eg;have hx4:=h4.lt;have hl4:=h4.lst;have c0:=h4.blk.cell 0 (x:=v) rfl;have hvx:v.ownBlock≠some x:=λe=>by have:=(hl4.lt x e).1;omega
   have hvX:v.ownBlock≠some W.heap.size:=λe=>by have:=(hl4.lt _ e).1;omega
   have hsrc:=Sk w4 63 w4.heap.size (gp' k) rfl;clear h hn hF hb4 hN4 X;go_wp2_with (at_builtin;go_loud (refine og _ rfl (.tmp 54) (.tmp 56) 60 rfl (x+1) 63 _ 1 8 Sj rfl (by omega) Tryz.underlying60 v k _ (hl4.alloc _) rfl _ 1 _ rfl hsrc (by simp;omega) (by simp[maxLen];omega) (by omega) ?_));intro v5 w5 hl5 hx5;obtain⟨b5,e5,rfl⟩:∃b5 e5,v5=.slice (some ⟨b5,0,none⟩) (k+1) e5:=by
    rcases hl5.2 with⟨-,e⟩|⟨g5,Sl,TQ,e,-⟩
    ·omega
    ·exact⟨g5,Sl,e⟩
   have hE:=((Ext.refl w4 v).alloc (.cells #[↑(gp' k,0)] 63)).trans hx5;have hX5:Blk w5 x #[v,↑(gs,0),↑(0:Int)] 62:=(hE.grown.block x hx4 (λe=>hvx e.symm)).trans h4.blk;have c5:=hX5.cell 0 (x:=v) rfl;have f5:=hX5.frozen 0;have h6:=af (h4.push hn4 hF4 hd4 hE hl5);have X6:Hid (Blk (w5.setCell (x,0) (.slice (some (b5,0)) (k+1) e5)) W #[.slice At N ct,↑t.dr,↑t.wi,↑t.lm] 31):=af (Blk.other ((hE.grown.block _ X4.lt (λe=>hvX e.symm)).trans X4) (x,0) (by show W.heap.size≠x;omega) _);clear h4 hn4 hF4 hd4 hE hl5 hx5 hX5 c0 hl4 hsrc X4;go_wp2_with fail;go_roundw
   case rel=>exact⟨k+1,gp',F'',_,by omega,by go_num,h6.o,X6.o⟩
   case measure=>simp[intOf];omega
  ·obtain rfl:k=N:=by omega
   have r1:decide ((k:Int)<(k:Nat))=false:=by simp
   have hw:=af (h.done (by omega) hNe.symm);have hbw:=af h.bw;clear h X;go_wp2_with fail;go_ret2;exact⟨x,rfl,hw.o,hbw.o⟩
end
section
set_option maxRecDepth 100000
set_option maxHeartbeats 2000000
open Go.RowKit
def WM.node1(u:WM)(i:Nat)(m:NM):WM:={u with ms:=je u.ms i m}
def WM.kU(u:WM)(N:Nat)(a:Ac):Int:=
 if a.k=5 then(if jc a.f=true then 0 else 1)
 else if a.i<0\/(N:Int)<=a.i then 1
 else if a.k=1 then(u.ms a.i.toNat).onE a.n
 else if a.k=2 then 0
 else if a.k=3 then(u.ms a.i.toNat).kN a.d
 else if a.k=4 then jP (u.ms a.i.toNat).al (u.ms a.i.toNat).an (u.ms a.i.toNat).ar a.n
 else 1
def WM.step(u:WM)(N:Nat)(a:Ac):WM:=
 if a.k=5 then(if jc a.f=true then u.slot N a.f else u)
 else if a.i<0\/(N:Int)<=a.i then u
 else if a.k=1 then u.node1 a.i.toNat ((u.ms a.i.toNat).on a.n)
 else if a.k=2 then u.node1 a.i.toNat (u.ms a.i.toNat).off
 else if a.k=3 then u.node1 a.i.toNat ((u.ms a.i.toNat).write a.d)
 else if a.k=4 then u.node1 a.i.toNat {u.ms a.i.toNat with ar:=jS (u.ms a.i.toNat).al (u.ms a.i.toNat).an (u.ms a.i.toNat).ar a.n}
 else u
section
variable {B:Nat}{P:List Nat}{N x:Nat}{u:WM}{W:World}{Ad Af:Option Addr}{cd cf:Nat}{d:List Int}{fl:List Ft}
theorem WAt.lD(h:WAt B P N W x u){W':World}(b:Below W W W'):Bw B P W W':=by obtain⟨q,h⟩:=h;exact h.lD b
theorem WAt.base(h:WAt B P N W x u):B<=W.heap.size:=by obtain⟨q,h⟩:=h;have:=h.bas.1;have:=h.blk.lt;omega
def mH(B:Nat)(P:List Nat)(N x:Nat)(W:World)(r:Int)(u':WM)(e:Ending)(w':World):Prop:=e=.returned ↑r/\WAt B P N w' x u'/\Bw B P W w'
theorem FZ(h:WAt B P N W x u)(ok:WOk N u)(hsl:u.sl<=1000000)(nd n:Int)(hsf:ju W B (.slice Af fl.length cf) fl):
  Calls Tryz.prog 12 #[↑(x,0),.agg #[↑(5:Int),↑nd,↑n,.slice Ad d.length cd,.slice Af fl.length cf]] W λe w'=>mH B P N x W (if jc fl=true then 0 else 1) (if jc fl=true then u.slot N fl else u) e w':=by
 have hb:=(ah W W).alloc lr (.cells #[↑(5:Int),↑nd,↑n,.slice Ad d.length cd,.slice Af fl.length cf] 44);have hw:=h.lD hb;have hs:=af (RQ (h.box (.cells #[↑(5:Int),↑nd,↑n,.slice Ad d.length cd,.slice Af fl.length cf] 44)) ok hsl (hsf.below (hb.mono h.base)));clear h hb hsf;generalize(if jc fl=true then u.slot N fl else u)=u' at *;generalize(if jc fl=true then(0:Int)else 1)=r at *
 go_enter Tryz.func12,Tryz.ntmps12
 go_wp2_with fail;refine hs.o.mono ?_;rintro e w2 ⟨rfl,h2,b2⟩;go_wp2_with fail;go_ret;exact⟨rfl,h2.less (λp hp=>aT _ hp),hw.trans (b2.less λp hp=>aT _ hp)⟩
theorem Sm(h:WAt B P N W x u)(k nd n:Int)(hk:k≠5)(hn:nd<0\/(N:Nat)<=nd):
  Calls Tryz.prog 12 #[↑(x,0),.agg #[↑k,↑nd,↑n,.slice Ad d.length cd,.slice Af fl.length cf]] W λe w'=>mH B P N x W 1 u e w':=by
 have hb:=(ah W W).alloc lr (.cells #[↑k,↑nd,↑n,.slice Ad d.length cd,.slice Af fl.length cf] 44);have hw:=h.lD hb;have h2:=af (h.below hb);obtain⟨q,h1⟩:=h.box (.cells #[↑k,↑nd,↑n,.slice Ad d.length cd,.slice Af fl.length cf] 44);have hn:=af (Rz h1 nd hn);have q5:(k==5)=false:=by rw[aB];exact hk
 clear h hb h1
 go_enter Tryz.func12,Tryz.ntmps12
 go_wp2_with fail;refine hn.o.mono ?_;rintro _ _ ⟨rfl,rfl⟩;go_wp2_with fail;go_ret;exact⟨rfl,h2.o,hw⟩
theorem F3(h:WAt B P N W x u)(k:Int)(i:Nat)(n:Int)(hk:k≠5/\k≠1/\k≠2/\k≠3/\k≠4)(hi:i<N):
  Calls Tryz.prog 12 #[↑(x,0),.agg #[↑k,↑(i:Nat),↑n,.slice Ad d.length cd,.slice Af fl.length cf]] W λe w'=>mH B P N x W 1 u e w':=by
 have hb:=(ah W W).alloc lr (.cells #[↑k,↑(i:Nat),↑n,.slice Ad d.length cd,.slice Af fl.length cf] 44);have hw:=h.lD hb;have h2:=af (h.below hb);obtain⟨q,h1⟩:=h.box (.cells #[↑k,↑(i:Nat),↑n,.slice Ad d.length cd,.slice Af fl.length cf] 44);have hn:=af (mG h1 i hi);have q5:(k==5)=false:=by rw[aB];exact hk.1
 have q1:(k==1)=false:=by rw[aB];exact hk.2.1
 have q2:(k==2)=false:=by rw[aB];exact hk.2.2.1
 have q3:(k==3)=false:=by rw[aB];exact hk.2.2.2.1
 have q4:(k==4)=false:=by rw[aB];exact hk.2.2.2.2
 clear h hb h1
 go_enter Tryz.func12,Tryz.ntmps12
 go_wp2_with fail;refine hn.o.mono ?_;rintro _ _ ⟨rfl,rfl⟩;go_wp2_with fail;go_ret;exact⟨rfl,h2.o,hw⟩
theorem Sr(h:WAt B P N W x u)(i:Nat)(n:Int)(hi:i<N):
  Calls Tryz.prog 12 #[↑(x,0),.agg #[↑(1:Int),↑(i:Nat),↑n,.slice Ad d.length cd,.slice Af fl.length cf]] W λe w'=>mH B P N x W ((u.ms i).onE n) (u.node1 i ((u.ms i).on n)) e w':=by
 have hb:=(ah W W).alloc lr (.cells #[↑(1:Int),↑(i:Nat),↑n,.slice Ad d.length cd,.slice Af fl.length cf] 44);have hw:=h.lD hb;obtain⟨q,h1⟩:=h.box (.cells #[↑(1:Int),↑(i:Nat),↑n,.slice Ad d.length cd,.slice Af fl.length cf] 44);have hn:=af (mG h1 i hi);have hs:=af (oP.on n (h1.nd i hi));unfold WM.node1;generalize(u.ms i).onE n=oe at *;clear h
 go_enter Tryz.func12,Tryz.ntmps12
 go_wp2_with fail;refine hn.o.mono ?_;rintro _ _ ⟨rfl,rfl⟩;go_wp2_with fail;refine hs.o.mono ?_;rintro _ w2 ⟨F',rfl,hn2,he⟩;have h2:=af (h1.eff hi hn2 he);have b2:=af (h1.qw hi he);clear h1 hn2 he hs hn;go_wp2_with fail;go_ret;exact⟨rfl,⟨_,h2.o.less (λp hp=>aT _ hp)⟩,hw.trans (b2.o.less λp hp=>aT _ hp)⟩
theorem Sv(h:WAt B P N W x u)(i:Nat)(n:Int)(hi:i<N):
  Calls Tryz.prog 12 #[↑(x,0),.agg #[↑(2:Int),↑(i:Nat),↑n,.slice Ad d.length cd,.slice Af fl.length cf]] W λe w'=>mH B P N x W (0) (u.node1 i ((u.ms i).off)) e w':=by
 have hb:=(ah W W).alloc lr (.cells #[↑(2:Int),↑(i:Nat),↑n,.slice Ad d.length cd,.slice Af fl.length cf] 44);have hw:=h.lD hb;obtain⟨q,h1⟩:=h.box (.cells #[↑(2:Int),↑(i:Nat),↑n,.slice Ad d.length cd,.slice Af fl.length cf] 44);have hn:=af (mG h1 i hi);have hs:=af (qX.off (h1.nd i hi));unfold WM.node1;clear h
 go_enter Tryz.func12,Tryz.ntmps12
 go_wp2_with fail;refine hn.o.mono ?_;rintro _ _ ⟨rfl,rfl⟩;go_wp2_with fail;refine hs.o.mono ?_;rintro _ w2 ⟨F',rfl,hn2,he⟩;have h2:=af (h1.eff hi hn2 he);have b2:=af (h1.qw hi he);clear h1 hn2 he hs hn;go_wp2_with fail;go_ret;exact⟨rfl,⟨_,h2.o.less (λp hp=>aT _ hp)⟩,hw.trans (b2.o.less λp hp=>aT _ hp)⟩
theorem Sw(h:WAt B P N W x u)(i:Nat)(n:Int)(hi:i<N)(hv:iI W W (.slice Ad d.length cd) d)(hl:iK d):
  Calls Tryz.prog 12 #[↑(x,0),.agg #[↑(3:Int),↑(i:Nat),↑n,.slice Ad d.length cd,.slice Af fl.length cf]] W λe w'=>mH B P N x W ((u.ms i).kN d) (u.node1 i ((u.ms i).write d)) e w':=by
 have hb:=(ah W W).alloc lr (.cells #[↑(3:Int),↑(i:Nat),↑n,.slice Ad d.length cd,.slice Af fl.length cf] 44);have hw:=h.lD hb;obtain⟨q,h1⟩:=h.box (.cells #[↑(3:Int),↑(i:Nat),↑n,.slice Ad d.length cd,.slice Af fl.length cf] 44);have hn:=af (mG h1 i hi);have hs:=af (qX.write (h1.nd i hi) ((hv.below hb).more hb.size) hl);unfold WM.node1;generalize(u.ms i).kN d=oe at *;clear h
 go_enter Tryz.func12,Tryz.ntmps12
 go_wp2_with fail;refine hn.o.mono ?_;rintro _ _ ⟨rfl,rfl⟩;go_wp2_with fail;refine hs.o.mono ?_;rintro _ w2 ⟨F',rfl,hn2,he⟩;have h2:=af (h1.eff hi hn2 he);have b2:=af (h1.qw hi he);clear h1 hn2 he hs hn;go_wp2_with fail;go_ret;exact⟨rfl,⟨_,h2.o.less (λp hp=>aT _ hp)⟩,hw.trans (b2.o.less λp hp=>aT _ hp)⟩
theorem Sy(h:WAt B P N W x u)(i:Nat)(n:Int)(hi:i<N):
  Calls Tryz.prog 12 #[↑(x,0),.agg #[↑(4:Int),↑(i:Nat),↑n,.slice Ad d.length cd,.slice Af fl.length cf]] W λe w'=>mH B P N x W (jP (u.ms i).al (u.ms i).an (u.ms i).ar n) (u.node1 i ({u.ms i with ar:=jS (u.ms i).al (u.ms i).an (u.ms i).ar n})) e w':=by
 have hb:=(ah W W).alloc lr (.cells #[↑(4:Int),↑(i:Nat),↑n,.slice Ad d.length cd,.slice Af fl.length cf] 44);have hw:=h.lD hb;obtain⟨q,h1⟩:=h.box (.cells #[↑(4:Int),↑(i:Nat),↑n,.slice Ad d.length cd,.slice Af fl.length cf] 44);have hn:=af (mG h1 i hi);have hs:=af (qX.ack n (h1.nd i hi));unfold WM.node1;generalize jP (u.ms i).al (u.ms i).an (u.ms i).ar n=oe at *;clear h
 go_enter Tryz.func12,Tryz.ntmps12
 go_wp2_with fail;refine hn.o.mono ?_;rintro _ _ ⟨rfl,rfl⟩;go_wp2_with fail;refine hs.o.mono ?_;rintro _ w2 ⟨F',rfl,hn2,he⟩;have h2:=af (h1.eff hi hn2 he);have b2:=af (h1.qw hi he);clear h1 hn2 he hs hn;go_wp2_with fail;go_ret;exact⟨rfl,⟨_,h2.o.less (λp hp=>aT _ hp)⟩,hw.trans (b2.o.less λp hp=>aT _ hp)⟩
theorem Jm(a:Ac){dv fv:Value}(h:WAt B P N W x u)(ok:WOk N u)(hsl:u.sl<=1000000)(hd:iI W B dv a.d)(hy:iK a.d)(hf:ju W B fv a.f):
  Calls Tryz.prog 12 #[↑(x,0),.agg #[↑a.k,↑a.i,↑a.n,dv,fv]] W λe w'=>mH B P N x W (u.kU N a) (u.step N a) e w':=by
 obtain⟨Ad,cd,rfl,-⟩:=hd.at_;obtain⟨Af,cf,rfl,-⟩:=hf.at_;have hB:=h.base;unfold WM.kU WM.step;by_cases e5:a.k=5
 ·rw[e5,au rfl,au rfl]
  exact FZ h ok hsl _ _ hf
 rw[ai e5,ai e5];by_cases eo:a.i<0\/(N:Int)<=a.i
 ·rw[au eo,au eo]
  exact Sm h _ _ _ e5 eo
 rw[ai eo,ai eo];obtain⟨i,hi⟩:∃i:Nat,a.i=(i:Int):=⟨a.i.toNat,by omega⟩;have hiN:i<N:=by omega
 rw[hi,aQ];by_cases e1:a.k=1
 ·rw[e1,au rfl,au rfl]
  exact Sr h i _ hiN
 rw[ai e1,ai e1];by_cases e2:a.k=2
 ·rw[e2,au rfl,au rfl]
  exact Sv h i _ hiN
 rw[ai e2,ai e2];by_cases e3:a.k=3
 ·rw[e3,au rfl,au rfl]
  exact Sw h i _ hiN (hd.more hB) hy
 rw[ai e3,ai e3];by_cases e4:a.k=4
 ·rw[e4,au rfl,au rfl]
  exact Sy h i _ hiN
 rw[ai e4,ai e4];exact F3 h _ i _ ⟨e5,e1,e2,e3,e4⟩ hiN
end
end
section
open Go.RowKit
theorem GOk.new(n:Nat)(dr:Int)(h4:4<=n)(hd:0<=dr/\dr<=200):GOk n (newG (jA n dr)):=
 ⟨lB n,by show _<=(0:Int)/\(0:Int)<=_;omega,by show 0<n;omega,λx hx=>(by cases hx),by show 0<=4*dr+9/\4*dr+9<=1000;omega,by show 0<=4*dr+6/\4*dr+6<=1000;omega,by show 0<=1000;omega,λh=>Bool.noConfusion h⟩
theorem WOk.new(n:Nat)(dr:Int)(dl:List Int)(l:List R4)(h4:4<=n)(h8:n<=8)(hd:0<=dr/\dr<=200):WOk n (WM.new (jA n dr) dl l):=by
 have e:∀i,((WM.new (jA n dr) dl l).ms i).iL=(WM.new (jA n dr) dl l).ms i:=λi=>by
  unfold NM.iL;rw[ai (by show ¬(0:Nat)=1;omega),au (.inl rfl)]
  rfl
 exact⟨⟨h4,h8⟩,λi _=>by rw[e i];show _<=(0:Int)/\(0:Int)<=_;omega,λi _=>by rw[e i];show(0:Nat)<900/\(0:Nat)<900;omega,GOk.new n dr h4 hd,GOk.new n dr h4 hd⟩
theorem uP(n:Nat)(dr:Int)(i:Nat)(d:Int)(l:List R4)(h4:4<=n)(h8:n<=8)(hd:0<=dr/\dr<=200)(hi:i<n)(hdd:-dr<=d/\d<=dr)(hl:l.length<=8)(hm:∀k,k<l.length->(l.getD k default).may):NM.may (jA n dr) (i:Nat) d l:=
 ⟨tC n dr h4 h8 hd,⟨by omega,by show((i:Nat):Int)<((jQ n).length:Nat);rw[lB];omega⟩,hdd,hl,hm⟩
theorem WAt.lower{B B':Nat}{P:List Nat}{N x:Nat}{u:WM}{W:World}(h:WAt B P N W x u)(hB:B'<=B):WAt B' P N W x u:=by
 obtain⟨q,h⟩:=h;exact⟨q,h.blk,h.nlt,h.ptr,h.star,h.nd,h.own,h.dis,h.ne,h.o,h.cap,aW hB h.bas.1,aW hB h.bas.2.1,aW hB h.bas.2.2.1,λi hi f hf=>aW hB (h.bas.2.2.2 i hi f hf)⟩
theorem WAt.Ao{B:Nat}{P:List Nat}{N x:Nat}{u:WM}{W:World}(h:WAt B P N W x u):Calls Tryz.prog 39 #[.pointer (some ⟨x,0,none⟩)] W λe w'=>e=.returned (.int .i64 (N:Nat))/\w'=W:=by
 obtain⟨q,h⟩:=h;exact yp h
end
section
open Go.RowKit
open Tb (D T)
theorem Sz(n:Nat)(dr:Int)(rv:Value)(dl:List Int)(l:List R4)(h4:4<=n)(h8:n<=8)(hd:0<=dr/\dr<=200)(hl:l.length<=8)(hm:∀k,k<l.length->(l.getD k default).may)(hdl:dl.length=n)(hdd:∀i,i<n->-dr<=dl.getD i 0/\dl.getD i 0<=dr)(v dv:Value)(W:World)(hv:jh W W v (jQ n))(hdv:ja W W dv dl)(hr:jl W W rv l):
  Calls Tryz.prog 7 #[.agg #[v,↑dr,↑(4*dr+6:Int),↑(4*dr+9:Int)],dv,rv] W λe w'=>∃x,e=.returned (.tuple #[.pointer (some ⟨x,0,none⟩),↑(0:Int)])/\WAt W [] n w' x (WM.new (jA n dr) dl l)/\Below W W w':=by
 have:=FX (jA n dr) v dv rv dl l W hv hdv hr (tC n dr h4 h8 hd) (by rw[hdl];exact(lB n).symm) (λi hi=>by
  have hi:i<n:=by rw[<-lB n];exact hi
  exact uP n dr i _ l h4 h8 hd hi (hdd i hi) hl hm)
 rw[show(jA n dr).ns.length=n from lB n]at this;exact this
theorem SD(a:Int):bits BinOp.and IntKind.i64 a 3=a%4:=by
 have h8:(BitVec.ofInt 64 3).toNat=2^2-1:=by decide
 show IntKind.i64.wrap (((BitVec.ofInt 64 a) &&& (BitVec.ofInt 64 3)).toNat:Int)=_;rw[eX,h8,cF,cG,dJ];omega
def dfs(k:Nat)(f:Nat->Int):List Int:=(List.range k).map λi=>f i%4-1
theorem yw(k:Nat)(f:Nat->Int):(dfs k f).length=k:=by simp[dfs]
theorem SE(k:Nat)(f:Nat->Int):dfs (k+1) f=dfs k f++[f k%4-1]:=by simp[dfs,cZ]
theorem uQ(k:Nat)(f:Nat->Int)(i:Nat):-2<=(dfs k f).getD i 0/\(dfs k f).getD i 0<=2/\(i<k->-1<=(dfs k f).getD i 0):=by
 by_cases h:i<k
 ·have:(dfs k f).getD i 0=f i%4-1:=by simp[dfs,ay,h]
  rw[this];omega
 ·have:(dfs k f).getD i 0=0:=by simp[dfs,ay,h]
  rw[this];omega
theorem SF(f:Nat->Int)(k:Nat)(hk:k<8):(i8 f)[k]?=some ↑(f k):=by
 rcases(by omega:k=0\/k=1\/k=2\/k=3\/k=4\/k=5\/k=6\/k=7)with rfl|rfl|rfl|rfl|rfl|rfl|rfl|rfl<;>rfl
end
section
open Go.RowKit
section
variable {B:Nat}{P:List Nat}{N x:Nat}{u:WM}{W:World}
theorem WAt.I5(h:WAt B P N W x u)(i:Nat)(hi:i<N):Calls Tryz.prog 41 #[↑(x,0),↑(i:Nat)] W λe w'=>e=.returned ↑((u.ms i).st:Nat)/\Below W W w':=by
 obtain⟨q,h⟩:=h;exact RB h i hi
theorem WAt.I6(h:WAt B P N W x u)(i:Nat)(hi:i<N):Calls Tryz.prog 42 #[↑(x,0),↑(i:Nat)] W λe w'=>e=.returned (csV (u.ms i).rd (u.ms i).sl (u.ms i).ty.m)/\Below W W w':=by
 obtain⟨q,h⟩:=h;exact RF h i hi
theorem WAt.I7(h:WAt B P N W x u)(i:Nat)(hi:i<N):Calls Tryz.prog 44 #[↑(x,0),↑(i:Nat)] W λe w'=>e=.returned ↑(u.ms i).tm/\Below W W w':=by
 obtain⟨q,h⟩:=h;exact RH h i hi
end
end
section
open Go.RowKit
structure GB(N:Nat)(s:G)(C:Int):Prop where
 sn:s.n=N
 slot:s.slot<N
 now:-C<=s.now/\s.now<=C
 small:small s.l
 lm:0<=s.lm/\s.lm<=1000
 wi:0<=s.wi/\s.wi<=1000
 si:s.si<=1000
 si2:s.kn=true->s.si<2*s.n
section
variable {N:Nat}{s:G}{C C':Int}
theorem GB.more(h:GB N s C)(hC:C<=C'):GB N s C':=⟨h.sn,h.slot,by have:=h.now;omega,h.small,h.lm,h.wi,h.si,h.si2⟩
theorem GB.ok(h:GB N s C)(hC:C<=10000000):GOk N s:=⟨h.sn,by have:=h.now;omega,h.slot,h.small,h.lm,h.wi,h.si,h.si2⟩
theorem GB.on_(h:GB N s C)(hN:4<=N/\N<=8):GB N s.on (C+1000):=by
 have ht:=sX s.lm s.l h.lm.1;have hn:=h.now;have hl:=h.lm;have hs:=h.slot;unfold G.on
 split
 ·exact⟨h.sn,by show 0<N;omega,by show -(C+1000)<=s.now+jb s.lm s.l/\s.now+jb s.lm s.l<=C+1000;omega,λx hx=>(by cases hx),h.lm,h.wi,h.si,h.si2⟩
 ·rename_i e
  exact⟨h.sn,by show s.slot+1<N;have:=h.sn;omega,by show -(C+1000)<=s.now/\s.now<=C+1000;omega,h.small,h.lm,h.wi,h.si,h.si2⟩
theorem GB.J0(h:GB N s C)(hN:4<=N/\N<=8){a:Int}(ha:-C<=a/\a<=C)(hC:C<=100000000):GB N (s.heard a) (C+1000):=by
 have hn:=h.now;have hsn:=h.sn;unfold G.heard
 split
 ·exact GB.on_ (s:={s with si:=0,l:=iT s.l (a-s.now)}) ⟨h.sn,h.slot,h.now,h.small.mW (by omega),h.lm,h.wi,by show 0<=1000;omega,λ_=>by show 0<2*s.n;omega⟩ hN
 ·exact GB.on_ (s:={s with si:=0}) ⟨h.sn,h.slot,h.now,h.small,h.lm,h.wi,by show 0<=1000;omega,λ_=>by show 0<2*s.n;omega⟩ hN
theorem GB.J1(h:GB N s C)(hk:s.kn=true)(hN:4<=N/\N<=8):GB N s.missed (C+1000):=by
 have hn:=h.now;have hsn:=h.sn;have hs:=h.si2 hk;unfold G.missed
 split
 ·exact⟨h.sn,by show 0<N;omega,by show -(C+1000)<=s.now/\s.now<=C+1000;omega,h.small,h.lm,h.wi,by show s.si+1<=1000;omega,λh=>Bool.noConfusion h⟩
 ·exact GB.on_ (s:={s with si:=s.si+1}) ⟨h.sn,h.slot,h.now,h.small,h.lm,h.wi,by show s.si+1<=1000;omega,λ_=>by show s.si+1<2*s.n;omega⟩ hN
theorem GB.J2(h:GB N s C)(hN:4<=N/\N<=8)(l:List Int){a:Int}(ha:-C<=a/\a<=C):GB N (s.mX l a) (C+1000):=by
 have hsn:=h.sn;unfold G.mX
 split
 ·rename_i e
  refine GB.on_ ⟨h.sn,?_,ha,λx hx=>(by cases hx),h.lm,h.wi,by show 0<=1000;omega,λ_=>by show 0<2*s.n;omega⟩ hN;have e2:(Fr.res l z0).st.s<s.n:=by
   unfold tells at e;simp only[bg,bC]at e;exact e.2
  show(Fr.res l z0).st.s.toNat<N;omega
 ·exact h.more (by omega)
theorem GB.BF(h:GB N s C)(hN:4<=N/\N<=8)(l:List Int){a:Int}(ha:-C<=a/\a<=C)(hC:C<=100000000):GB N (s.ended l a) (C+1000):=by
 unfold G.ended
 split
 ·split
  ·exact h.J0 hN ha hC
  ·exact h.J1 (by assumption) hN
 ·exact h.J2 hN l ha
end
structure WB(N:Nat)(u:WM)(k:Nat):Prop where
 n4:4<=N/\N<=8
 nj:∀i,i<N->NJ (u.ms i)
 ty:∀i,i<N->(u.ms i).ty.a<=k/\(u.ms i).ty.f<=k
 tm:∀i,i<N->-(10000*((k:Int)+1))<=(u.ms i).tm/\(u.ms i).tm<=10000*((k:Int)+1)
 s:GB N u.s (10000*((k:Int)+1))
 t:GB N u.t (10000*((k:Int)+1))
 sl:u.sl<=k
section
variable {N:Nat}{u:WM}{k:Nat}
theorem WB.ok(h:WB N u k)(hk:k<=500):WOk N u:=by
 refine⟨h.n4,λi hi=>?_,λi hi=>?_,h.s.ok (by omega),h.t.ok (by omega)⟩
 ·rw[(oA (u.ms i)).2.2]
  have:=h.tm i hi;omega
 ·obtain⟨a,b,-⟩:=oA (u.ms i)
  have:=h.ty i hi;omega
theorem WB.sent(h:WB N u k){i:Nat}(hi:i<N):NJ (u.ms i).iL:=(h.nj i hi).vm
theorem WB.more(h:WB N u k):WB N u (k+1):=
 ⟨h.n4,h.nj,λi hi=>by have:=h.ty i hi;omega,λi hi=>by have:=h.tm i hi;push_cast;omega,h.s.more (by push_cast;omega),h.t.more (by push_cast;omega),by have:=h.sl;omega⟩
theorem WB.node1(h:WB N u k){i:Nat}{m:NM}(hj:NJ m)(hb:m.ty.a<=k+1/\m.ty.f<=k+1)(ht:-(10000*(((k+1:Nat):Int)+1))<=m.tm/\m.tm<=10000*(((k+1:Nat):Int)+1)):WB N (u.node1 i m) (k+1):=by
 have h':=h.more;refine⟨h.n4,λj hj'=>?_,λj hj'=>?_,λj hj'=>?_,h'.s,h'.t,h'.sl⟩
 ·show NJ (je u.ms i m j)
  unfold je
  split
  ·exact hj
  ·exact h.nj j hj'
 ·show(je u.ms i m j).ty.a<=k+1/\(je u.ms i m j).ty.f<=k+1
  unfold je
  split
  ·exact hb
  ·exact h'.ty j hj'
 ·show -(10000*(((k+1:Nat):Int)+1))<=(je u.ms i m j).tm/\(je u.ms i m j).tm<=10000*(((k+1:Nat):Int)+1)
  unfold je
  split
  ·exact ht
  ·exact h'.tm j hj'
theorem WB.slot(h:WB N u k)(hk:k<=500){fl:List Ft}(hf:jc fl=true):WB N (u.slot N fl) (k+1):=by
 have ok:=h.ok hk;have hl:=(sY hf).1;have hat:∀i,-(10000*((k:Int)+1)+4000)<=((u.air N fl).s i).at_/\((u.air N fl).s i).at_<=10000*((k:Int)+1)+4000:=λi=>by
  have h1:=Air.vQ fl (Air.start (u.bs N) (u.at_ N)) i (BG hf);have e:((Air.start (u.bs N) (u.at_ N)).s i).at_=u.at_ N i:=rfl;rw[e]at h1;have h2:-(10000*((k:Int)+1))<=u.at_ N i/\u.at_ N i<=10000*((k:Int)+1):=by
   unfold WM.at_
   split
   ·rename_i hi
    rw[(oA (u.ms i)).2.2];exact h.tm i hi
   ·omega
  unfold WM.air;omega
 have hw:=λp=>(u.air N fl).nI p (10000*((k:Int)+1)+4000) (by omega) hat;have hgs:=(h.s.more (C':=10000*((k:Int)+1)+4000) (by omega)).BF h.n4 (tl (u.said N fl).n (u.said N fl).c.q) (hw (u.said N fl).c.p) (by omega);have hgt:=(h.t.more (C':=10000*((k:Int)+1)+4000) (by omega)).BF h.n4 (tl (u.said N fl).n (u.said N fl).d.q) (hw (u.said N fl).d.p) (by omega);have ho:∀i,i<N->(-1073741824<=(u.hear N fl i).o/\(u.hear N fl i).o<=1073741824)/\-(10000*((k:Int)+1)+4000)<=(u.ms i).tm+(u.hear N fl i).o/\(u.ms i).tm+(u.hear N fl i).o<=10000*((k:Int)+1)+4000:=λi hi=>by
  have ea:u.at_ N i=(u.ms i).tm:=by
   unfold WM.at_;rw[au hi,(oA (u.ms i)).2.2]
  have hti:=h.tm i hi;have hwi:=hw (u.said N fl).who;unfold WM.hear jy.hear;simp only;rw[ea]
  split<;>omega
 refine⟨h.n4,λi hi=>?_,λi hi=>?_,λi hi=>?_,hgs.more (by push_cast;omega),hgt.more (by push_cast;omega),by show u.sl+1<=k+1;have:=h.sl;omega⟩
 ·show NJ (if i<N then(u.ms i).iL.take (u.hear N fl i)else u.ms i)
  rw[au hi];exact(h.sent hi).zV _ (by have:=(ho i hi).1;omega)
 ·show(if i<N then(u.ms i).iL.take (u.hear N fl i)else u.ms i).ty.a<=k+1/\(if i<N then(u.ms i).iL.take (u.hear N fl i)else u.ms i).ty.f<=k+1
  rw[au hi];obtain⟨a,b,-,-⟩:=BH (u.hear N fl i) (h.sent hi) (ho i hi).1 (λl _ hl=>sZ (h.sent hi) hl);obtain⟨c,d,-⟩:=oA (u.ms i);have:=h.ty i hi;omega
 ·show -(10000*(((k+1:Nat):Int)+1))<=(if i<N then(u.ms i).iL.take (u.hear N fl i)else u.ms i).tm/\(if i<N then(u.ms i).iL.take (u.hear N fl i)else u.ms i).tm<=10000*(((k+1:Nat):Int)+1)
  rw[au hi];have e:=(oA (u.ms i)).2.2;have ht:=(h.sent hi).J3 (u.hear N fl i) (10000*((k:Int)+1)+4000) (by rw[e];have:=h.tm i hi;omega) (by rw[e];exact(ho i hi).2)
  push_cast
  omega
theorem WB.step(h:WB N u k)(hk:k<=500)(a:Ac)(hy:iK a.d):WB N (u.step N a) (k+1):=by
 unfold WM.step
 split
 ·split
  ·exact h.slot hk (by assumption)
  ·exact h.more
 split
 ·exact h.more
 rename_i eo;have hi:a.i.toNat<N:=by omega
 have hj:=h.nj _ hi;have hty:=h.ty _ hi;have htm:=h.tm _ hi
 split
 ·refine h.node1 (hj.on_ _) ?_ ?_
  ·unfold NM.on
   split
   ·exact⟨bH _,bH _⟩
   ·omega
  ·unfold NM.on
   split
   ·rename_i he
    have ha:-1000<=a.n/\a.n<=1000:=by
     unfold NM.onE at he
     split at he
     ·omega
     ·omega
    show -(10000*(((k+1:Nat):Int)+1))<=a.n/\a.n<=10000*(((k+1:Nat):Int)+1)
    push_cast
    omega
   ·push_cast
    omega
 split
 ·exact h.node1 hj.Ai ⟨bH _,bH _⟩ (by show -(10000*(((k+1:Nat):Int)+1))<=(u.ms a.i.toNat).tm/\(u.ms a.i.toNat).tm<=10000*(((k+1:Nat):Int)+1);push_cast;omega)
 split
 ·have e:((u.ms a.i.toNat).write a.d).ty=(u.ms a.i.toNat).ty/\((u.ms a.i.toNat).write a.d).tm=(u.ms a.i.toNat).tm:=by
   unfold NM.write
   split<;>exact⟨rfl,rfl⟩
  exact h.node1 (hj.Al _ hy) (by rw[e.1];omega) (by rw[e.2];push_cast;omega)
 split
 ·exact h.node1 (hj.ar_ _) (by show(u.ms a.i.toNat).ty.a<=k+1/\(u.ms a.i.toNat).ty.f<=k+1;omega) (by show -(10000*(((k+1:Nat):Int)+1))<=(u.ms a.i.toNat).tm/\(u.ms a.i.toNat).tm<=10000*(((k+1:Nat):Int)+1);push_cast;omega)
 ·exact h.more
theorem WB.new(n:Nat)(dr:Int)(dl:List Int)(l:List R4)(h4:4<=n)(h8:n<=8)(hd:0<=dr/\dr<=200)(hm:∀i,i<n->NJ (NM.new (jA n dr) i (dl.getD i 0) l)):WB n (WM.new (jA n dr) dl l) 0:=by
 have hg:GB n (newG (jA n dr)) (10000*(((0:Nat):Int)+1)):=⟨lB n,by show 0<n;omega,by show _<=(0:Int)/\(0:Int)<=_;omega,λx hx=>(by cases hx),by show 0<=4*dr+9/\4*dr+9<=1000;omega,by show 0<=4*dr+6/\4*dr+6<=1000;omega,by show 0<=1000;omega,λh=>Bool.noConfusion h⟩;exact⟨⟨h4,h8⟩,hm,λi _=>⟨aR _,aR _⟩,λi _=>by show _<=(0:Int)/\(0:Int)<=_;omega,hg,hg,aR _⟩
end
end
end Go.Proofs.YteadkhigkmijiaaGreat
